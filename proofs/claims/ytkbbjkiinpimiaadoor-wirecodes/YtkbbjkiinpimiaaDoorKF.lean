/-
  WALKS of package wire: Decode.
-/
import Derived.Test.YtkbbjkiinpimiaaDoorKE
namespace Go.Proofs.YtkbbjkiinpimiaaDoor
open Go.RowKit

set_option maxHeartbeats 4000000 in
set_option maxRecDepth 100000 in
theorem decode_len (A : Nat → Addr) (s : ByteArray) (w : World) (hE : Held9 w A) (hs : s.size ≠ 22) :
    Calls Tryd.prog 58 #[.string s] w fun e w' => e = .returned (.tuple #[.agg zeroFr, ev A 1]) ∧ Below w.heap.size w w' := by
  obtain ⟨W, HW⟩ : ∃ W, Hid (w.alloc (.cells zeroFr 88) = W) := ⟨_, rfl⟩
  have hW := HW.out
  have HB : Hid (Below w.heap.size w W) := by rw [← HW.out]; exact (Below.refl _ _).alloc (Nat.le_refl _) _
  have HZ : Hid (W.heap[w.heap.size]? = some (.cells zeroFr 88 (0, 0))) := by rw [← HW.out]; exact heap_alloc_new w _
  have g0 : W.cell? ⟨0, 0, none⟩ = some (.iface 107 (.pointer (some (A 0)))) := (hE.later HB.out).var 0 (by decide)
  have gl : 0 < w.heap.size := cell_lt (hE.var 0 (by decide))
  obtain ⟨Y, HY, HYR, HYK⟩ := stored9 HZ.out 0 0 0 0 0 false 0 0 0
  obtain ⟨z0, z1, z2, z3, z4, z5, z6, z7, z8⟩ := nine (f := 0) (t := 0) (d := 0) (k := 0) (a := 0) (y := false) (ph := 0) (pr := 0) (pa := 0) HZ.out
  obtain ⟨f0, f1, f2, f3, f4, f5, f6, f7, f8⟩ := frozen9 HZ.out
  have HYB : Hid (Below w.heap.size w Y) := HYK.out.below HB.out.size (fun k e => by unfold In1 at e; omega) HB.out
  have hn : ((s.size : Int) != 22) = true := by simp; omega
  clear hE
  go_enter Tryd.func58, Tryd.ntmps58
  go_wp2_with fail
  go_region
  all_goals go_wp2_with fail
  all_goals rw [HY.out]
  all_goals refine bodyPost_ret (results_row2 rfl _ _ w.heap.size 88 _ (0, 0) _ rfl (HYR.out) Tryd.underlying88 rfl sizeFr) rfl ?_
  all_goals exact ⟨rfl, HYB.out.drew⟩

/-- What 22 bytes are answered. -/
def decF (l : List UInt8) : FN := if codeF l = 0 then readF l else FN.zero
abbrev FN.val (F : FN) : Value := frV F.f F.t F.d F.k F.a F.y F.ph F.pr F.pa
theorem code_22 (l : List UInt8) (hl : l.length = 22) : codeF l = if lowL (crcL (l.take 18)) = l.drop 18 then (if numL (segL l 8 1) ≤ 1 then (if (readF l).ok then 0 else 2) else 1) else 7 := by
  rw [codeF, if_neg (by omega)]
  by_cases h : lowL (crcL (l.take 18)) = l.drop 18
  · rw [if_neg (fun g => g h), if_pos h]
    by_cases h2 : numL (segL l 8 1) ≤ 1
    · rw [if_neg (by omega), if_pos h2]
    · rw [if_pos (by omega), if_neg h2]
  · rw [if_pos h, if_neg h]
set_option maxHeartbeats 8000000 in
set_option maxRecDepth 100000 in
theorem decode_22 (A : Nat → Addr) (s : ByteArray) (w : World) (hE : Held9 w A) (hs : s.size = 22) :
    Calls Tryd.prog 58 #[.string s] w fun e w' => e = .returned (.tuple #[(decF s.data.toList).val, ev A (codeF s.data.toList)]) ∧ Below w.heap.size w w' := by
  obtain ⟨c, HCd⟩ : ∃ c, Hid (codeF s.data.toList = c) := ⟨_, rfl⟩
  have HC := hid (code_22 s.data.toList hs)
  have HDF : Hid (decF s.data.toList = if codeF s.data.toList = 0 then readF s.data.toList else FN.zero) := rfl
  obtain ⟨W, HW⟩ : ∃ W, Hid (w.alloc (.cells zeroFr 88) = W) := ⟨_, rfl⟩
  have hW := HW.out
  have HB : Hid (Below w.heap.size w W) := by rw [← HW.out]; exact (Below.refl _ _).alloc (Nat.le_refl _) _
  have HZ : Hid (W.heap[w.heap.size]? = some (.cells zeroFr 88 (0, 0))) := by rw [← HW.out]; exact heap_alloc_new w _
  have HE := hid hE
  have gl : 0 < w.heap.size := cell_lt (hE.var 0 (by decide))
  have gl6 : 6 < w.heap.size := cell_lt (hE.var 6 (by decide))
  have HP : Hid (∀ wx, Below W.heap.size W wx → wx.heap[w.heap.size]? = some (.cells zeroFr 88 (0, 0)) ∧ Below w.heap.size w wx ∧ wx.cell? ⟨0, 0, none⟩ = some (.iface 107 (.pointer (some (A 0)))) ∧ wx.cell? ⟨6, 0, none⟩ = some (.iface 107 (.pointer (some (A 6))))) := fun wx hx =>
    ⟨(hx.block _ (row_ltJ HZ.out)).trans HZ.out, HB.out.trans (hx.mono HB.out.size), (HE.out.later (HB.out.trans (hx.mono HB.out.size))).var 0 (by decide), (HE.out.later (HB.out.trans (hx.mono HB.out.size))).var 6 (by decide)⟩
  have s1 := slice_high s 18 18 rfl (by omega)
  have s2 := slice_low s 18 18 rfl (by omega)
  obtain ⟨u, Hu⟩ : ∃ u, Hid (s.extract 0 18 = u) := ⟨_, rfl⟩
  obtain ⟨x, Hx⟩ : ∃ u, Hid (s.extract 18 s.size = u) := ⟨_, rfl⟩
  rw [Hu.out] at s1
  rw [Hx.out] at s2
  have HUl : Hid (u.data.toList = s.data.toList.take 18) := by unfold Hid; rw [← Hu.out, ext_list]; rfl
  have HXl : Hid (x.data.toList = s.data.toList.drop 18) := by
    unfold Hid; rw [← Hx.out, ext_list]; exact List.take_of_length_le (by rw [List.length_drop, ← size_list]; omega)
  have hus : Hid (u.size ≤ 1000) := by unfold Hid; rw [size_list, HUl.out, List.length_take]; omega
  obtain ⟨r, Hr⟩ : ∃ r, Hid (bA (lowL (crcL u.data.toList)) = r) := ⟨_, rfl⟩
  obtain ⟨wb, Hwb⟩ : ∃ b : Bool, Hid (decide (lowL (crcL (s.data.toList.take 18)) = s.data.toList.drop 18) = b) := ⟨_, hid (Eq.refl _)⟩
  have hcmp : (r.toList == x.toList) = wb := by
    rw [← Hwb.out, ← Hr.out, ByteArray.toList_eq, ByteArray.toList_eq, bA_list, HUl.out, HXl.out]
    apply Bool.eq_iff_iff.2
    simp only [beq_iff_eq, decide_eq_true_eq]
  have hn : ((s.size : Int) != 22) = false := by simp; omega
  have HSs := hid hs
  clear hE hs
  go_enter Tryd.func58, Tryd.ntmps58
  go_wp2_with fail
  go_cut [17] from 10 (fun s17 wx => s17 = .bool (!wb) ∧ Below W.heap.size W wx)
  case first =>
    go_region_held3 (fun _ => True) (trivial) ((go_at_call 84; (with_reducible refine (tail_is u r _ hus.out Hr.out).mono ?_); rintro e wx ⟨rfl, hx⟩; have HBX := hid (((Below.refl _ W).drew).trans hx); clear hx))
    all_goals go_step
    all_goals go_step
    all_goals go_meet
    all_goals exact ⟨rfl, HBX.out⟩
  case rest =>
    obtain ⟨rfl, hbc⟩ := hcut
    have HBC := hid hbc
    obtain ⟨hz, hbw, g0, g6⟩ := HP.out wc hbc
    have HZc := hid hz
    have HBw := hid hbw
    clear hbc hz hbw
    cases wb with
    | false =>
      have HC7 : Hid (codeF s.data.toList = 7) := by unfold Hid; rw [HC.out, if_neg (of_decide_eq_false Hwb.out)]
      have HD0 : Hid (decF s.data.toList = FN.zero) := by unfold Hid; rw [HDF.out, if_neg (by rw [HC7.out]; decide)]
      obtain ⟨Y, HY, HYR, HYK⟩ := stored9 HZc.out 0 0 0 0 0 false 0 0 0
      obtain ⟨z0, z1, z2, z3, z4, z5, z6, z7, z8⟩ := nine (f := 0) (t := 0) (d := 0) (k := 0) (a := 0) (y := false) (ph := 0) (pr := 0) (pa := 0) HZc.out
      obtain ⟨f0, f1, f2, f3, f4, f5, f6, f7, f8⟩ := frozen9 HZc.out
      have HYB : Hid (Below w.heap.size w Y) := HYK.out.below HBw.out.size (fun k e => by unfold In1 at e; omega) HBw.out
      go_wp2_with fail
      go_region
      all_goals go_wp2_with fail
      all_goals rw [HY.out]
      all_goals refine bodyPost_ret (results_row2 rfl _ _ w.heap.size 88 _ (0, 0) _ rfl (HYR.out) Tryd.underlying88 rfl sizeFr) rfl ?_
      all_goals exact ⟨by rw [HC7.out, HD0.out]; rfl, HYB.out.drew⟩
    | true =>
      have hok18 := of_decide_eq_true Hwb.out
      clear g0 g6
      go_wp2_with fail
      refine (reader_any s wc).mono ?_
      rintro e w1 ⟨rfl, hr1, hb1, hz1⟩
      have HR1 := hid hr1
      have HB1 := hid hb1
      clear hr1 hb1
      obtain ⟨yy, Hyy⟩ : ∃ n, Hid (numL (segL s.data.toList 8 1) = n) := ⟨_, rfl⟩
      obtain ⟨F, HF⟩ : ∃ F, Hid (readF s.data.toList = F) := ⟨_, rfl⟩
      obtain ⟨ok, Hok⟩ : ∃ b : Bool, Hid (decide (yy ≤ 1) = b) := ⟨_, hid (Eq.refl _)⟩
      obtain ⟨f, t, d, k, a, y, ph, pr, pa⟩ := F
      have hF := HF.out
      unfold readF at hF
      simp only [FN.mk.injEq] at hF
      obtain ⟨e0, e1, e2, e3, e4, e5, e6, e7, e8⟩ := hF
      have X0 := hid e0
      have X1 := hid e1
      have X2 := hid e2
      have X3 := hid e3
      have X4 := hid e4
      have X5 := hid e5
      have X6 := hid e6
      have X7 := hid e7
      have X8 := hid e8
      clear e0 e1 e2 e3 e4 e5 e6 e7 e8
      go_wp2_with fail
      refine (read_is wc.heap.size s w1 HR1.out HSs.out f t d k a yy ph pr pa y ok X0.out X1.out X2.out X3.out X4.out Hyy.out X6.out X7.out X8.out (by rw [← Hyy.out]; exact X5.out) Hok.out).mono ?_
      rintro e w2 ⟨rfl, hk2⟩
      have HB2 : Hid (Below wc.heap.size wc w2) := hk2.below (by omega) (fun k e => by unfold In1 at e; omega) HB1.out
      clear hk2
      obtain ⟨fb, Hfb⟩ : ∃ n, Hid (w2.heap.size = n) := ⟨_, rfl⟩
      have hfb := Hfb.out
      obtain ⟨V, HV⟩ : ∃ X, Hid (w2.alloc (.cells #[.int .i64 (f : Int), .int .i64 (t : Int), .int .i64 (d : Int), .int .i64 (k : Int), .int .i64 (a : Int), .bool y, .int .i64 (ph : Int), .int .i64 (pr : Int), .int .i64 (pa : Int)] 88) = X) := ⟨_, rfl⟩
      have HBV : Hid (Below wc.heap.size wc V) := by rw [← HV.out]; exact HB2.out.alloc HB2.out.size _
      have HVF : Hid (V.heap[fb]? = some (.cells #[.int .i64 (f : Int), .int .i64 (t : Int), .int .i64 (d : Int), .int .i64 (k : Int), .int .i64 (a : Int), .bool y, .int .i64 (ph : Int), .int .i64 (pr : Int), .int .i64 (pa : Int)] 88 (0, 0))) := by rw [← HV.out, ← Hfb.out]; exact heap_alloc_new w2 _
      have HBWV := hid (HBC.out.trans (HBV.out.mono HBC.out.size))
      have HNR : Hid (w.heap.size ≠ fb) := by
        rw [← Hfb.out]; have h1 := HB2.out.size; have h2 := row_ltJ HZc.out; exact fun e => by omega
      cases ok with
      | false =>
        obtain ⟨hz, hbw, g0, g6⟩ := HP.out V HBWV.out
        have HZv := hid hz
        have HBv := hid hbw
        clear hz hbw g6
        have HC1 : Hid (codeF s.data.toList = 1) := by unfold Hid; rw [HC.out, if_pos hok18, Hyy.out, if_neg (of_decide_eq_false Hok.out)]
        have HD0 : Hid (decF s.data.toList = FN.zero) := by unfold Hid; rw [HDF.out, if_neg (by rw [HC1.out]; decide)]
        obtain ⟨Y, HY, HYR, HYK⟩ := stored9 HZv.out 0 0 0 0 0 false 0 0 0
        obtain ⟨z0, z1, z2, z3, z4, z5, z6, z7, z8⟩ := nine (f := 0) (t := 0) (d := 0) (k := 0) (a := 0) (y := false) (ph := 0) (pr := 0) (pa := 0) HZv.out
        obtain ⟨f0, f1, f2, f3, f4, f5, f6, f7, f8⟩ := frozen9 HZv.out
        have HYB : Hid (Below w.heap.size w Y) := HYK.out.below HBv.out.size (fun k e => by unfold In1 at e; omega) HBv.out
        go_wp2_with fail
        rw [HV.out]
        go_region
        all_goals go_wp2_with fail
        all_goals rw [HY.out]
        all_goals refine bodyPost_ret (results_row2 rfl _ _ w.heap.size 88 _ (0, 0) _ rfl (HYR.out) Tryd.underlying88 rfl sizeFr) rfl ?_
        all_goals exact ⟨by rw [HC1.out, HD0.out]; rfl, HYB.out.drew⟩
      | true =>
        have HEV := hid (HE.out.later (HP.out V HBWV.out).2.1)
        by_cases hfo : (FN.mk f t d k a y ph pr pa).ok
        · have HC0 : Hid (codeF s.data.toList = 0) := by unfold Hid; rw [HC.out, if_pos hok18, Hyy.out, if_pos (of_decide_eq_true Hok.out), HF.out, if_pos hfo]
          have HD0 : Hid (decF s.data.toList = ⟨f, t, d, k, a, y, ph, pr, pa⟩) := by unfold Hid; rw [HDF.out, if_pos HC0.out, HF.out]
          have HFO : Hid (frOk f t d k a ph pr pa) := by obtain ⟨h0, h1, h2, h3, h4, h5, h6, h7, h8⟩ := hfo; unfold Hid frOk stOk; simp only at *; omega
          clear hfo
          go_wp2_with fail
          rw [HV.out]
          refine (wcheck_is A f t d k a y ph pr pa 0 V HEV.out (if_pos HFO.out)).mono ?_
          rintro e w3 ⟨rfl, hb3⟩
          have HF3 := hid ((hb3.block _ (row_ltJ HVF.out)).trans HVF.out)
          obtain ⟨hz, hbw, -, -⟩ := HP.out w3 (HBWV.out.trans (hb3.mono HBWV.out.size))
          have HZ3 := hid hz
          have HB3 := hid hbw
          clear hz hbw hb3
          obtain ⟨Y, HY, HYR, HYK⟩ := stored9 HZ3.out f t d k a y ph pr pa
          obtain ⟨q0, q1, q2, q3, q4, q5, q6, q7, q8⟩ := nine HF3.out
          obtain ⟨z0, z1, z2, z3, z4, z5, z6, z7, z8⟩ := nine (f := 0) (t := 0) (d := 0) (k := 0) (a := 0) (y := false) (ph := 0) (pr := 0) (pa := 0) HZ3.out
          obtain ⟨f0, f1, f2, f3, f4, f5, f6, f7, f8⟩ := frozen9 HZ3.out
          have HYB : Hid (Below w.heap.size w Y) := HYK.out.below HB3.out.size (fun k e => by unfold In1 at e; omega) HB3.out
          unfold ev
          go_wp2_with fail
          rw [HY.out]
          refine bodyPost_ret (results_row2 rfl _ _ w.heap.size 88 _ (0, 0) _ rfl (HYR.out) Tryd.underlying88 rfl sizeFr) rfl ?_
          exact ⟨by rw [HC0.out, HD0.out]; rfl, HYB.out⟩
        · have HC2 : Hid (codeF s.data.toList = 2) := by unfold Hid; rw [HC.out, if_pos hok18, Hyy.out, if_pos (of_decide_eq_true Hok.out), HF.out, if_neg hfo]
          have HD0 : Hid (decF s.data.toList = FN.zero) := by unfold Hid; rw [HDF.out, if_neg (by rw [HC2.out]; decide)]
          have HFO : Hid (¬ frOk f t d k a ph pr pa) := by
            intro g
            apply hfo
            unfold frOk stOk at g
            unfold FN.ok
            simp only at *
            omega
          clear hfo
          go_wp2_with fail
          rw [HV.out]
          refine (wcheck_is A f t d k a y ph pr pa 2 V HEV.out (if_neg HFO.out)).mono ?_
          rintro e w3 ⟨rfl, hb3⟩
          obtain ⟨hz, hbw, -, -⟩ := HP.out w3 (HBWV.out.trans (hb3.mono HBWV.out.size))
          have HZ3 := hid hz
          have HB3 := hid hbw
          clear hz hbw hb3
          obtain ⟨Y, HY, HYR, HYK⟩ := stored9 HZ3.out 0 0 0 0 0 false 0 0 0
          obtain ⟨z0, z1, z2, z3, z4, z5, z6, z7, z8⟩ := nine (f := 0) (t := 0) (d := 0) (k := 0) (a := 0) (y := false) (ph := 0) (pr := 0) (pa := 0) HZ3.out
          obtain ⟨f0, f1, f2, f3, f4, f5, f6, f7, f8⟩ := frozen9 HZ3.out
          have HYB : Hid (Below w.heap.size w Y) := HYK.out.below HB3.out.size (fun k e => by unfold In1 at e; omega) HB3.out
          unfold ev
          go_wp2_with fail
          rw [HY.out]
          refine bodyPost_ret (results_row2 rfl _ _ w.heap.size 88 _ (0, 0) _ rfl (HYR.out) Tryd.underlying88 rfl sizeFr) rfl ?_
          exact ⟨by rw [HC2.out, HD0.out]; rfl, HYB.out⟩
theorem code_len (l : List UInt8) (h : l.length ≠ 22) : codeF l = 1 ∧ decF l = FN.zero := by
  have h1 : codeF l = 1 := by rw [codeF, if_pos h]
  exact ⟨h1, by rw [decF, if_neg (by rw [h1]; decide)]⟩
/-- What any bytes are answered. -/
theorem decode_any (A : Nat → Addr) (s : ByteArray) (w : World) (hE : Held9 w A) :
    Calls Tryd.prog 58 #[.string s] w fun e w' => e = .returned (.tuple #[(decF s.data.toList).val, ev A (codeF s.data.toList)]) ∧ Below w.heap.size w w' := by
  by_cases h : s.size = 22
  · exact decode_22 A s w hE h
  · rw [(code_len s.data.toList h).1, (code_len s.data.toList h).2]
    exact decode_len A s w hE h
end Go.Proofs.YtkbbjkiinpimiaaDoor
