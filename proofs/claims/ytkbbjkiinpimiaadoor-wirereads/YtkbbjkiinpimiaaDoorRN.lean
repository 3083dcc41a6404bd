/-
  WALKS of the document's answer (threefoldref1): FrameOf.
-/
import Derived.Test.YtkbbjkiinpimiaaDoorRM
import Derived.Test.YtkbbjkiinpimiaaDoorKF
namespace Go.Proofs.YtkbbjkiinpimiaaDoor
open Go.RowKit

/-- Where the numbers of a frame end. -/
def endF : Nat → Nat
  | 0 => 0
  | 1 => 1
  | 2 => 2
  | 3 => 3
  | 4 => 4
  | 5 => 8
  | 6 => 9
  | 7 => 10
  | 8 => 14
  | _ => 18
theorem nine_i {i : Nat} (h : i < 9) : i = 0 ∨ i = 1 ∨ i = 2 ∨ i = 3 ∨ i = 4 ∨ i = 5 ∨ i = 6 ∨ i = 7 ∨ i = 8 := by omega
theorem endF_le (i : Nat) (h : i < 9) : endF i ≤ endF (i + 1) ∧ endF (i + 1) ≤ 18 ∧ endF (i + 1) - endF i ≤ 4 := by
  rcases nine_i h with rfl | rfl | rfl | rfl | rfl | rfl | rfl | rfl | rfl <;> decide
def valF (t : List UInt8) (i : Nat) : Nat := numL (segL t (endF i) (endF (i + 1) - endF i))
theorem endsF {w : World} {b : Nat} (h : w.heap[b]? = some (.cells #[.int .i64 1, .int .i64 2, .int .i64 3, .int .i64 4, .int .i64 8, .int .i64 9, .int .i64 10, .int .i64 14, .int .i64 18] 3 (0, 0))) {i : Nat} (hi : i < 9) : w.cell? ⟨b, i, none⟩ = some (.int .i64 (endF (i + 1) : Nat)) := by
  rw [cell_of_row _ _ _ _ _ _ h]
  rcases nine_i hi with rfl | rfl | rfl | rfl | rfl | rfl | rfl | rfl | rfl <;> rfl
def valsF (t : List UInt8) (i : Nat) : List Value := (List.range i).map fun k => .int .i64 (valF t k : Nat)
theorem valsF_succ (t : List UInt8) (i : Nat) : valsF t (i + 1) = valsF t i ++ [.int .i64 (valF t i : Nat)] := by simp [valsF, List.range_succ]
theorem valF_lt (t : List UInt8) (i : Nat) (h : i < 9) : valF t i < 4294967296 := num_lt t _ _ (endF_le i h).2.2

set_option maxHeartbeats 4000000 in
set_option maxRecDepth 100000 in
theorem fof_len (s : ByteArray) (w : World) (hs : s.size ≠ 22) :
    Calls Tryd.prog 62 #[.string s] w fun e w' => e = .returned (.tuple #[.agg zeroFr, .int .i64 1]) ∧ Below w.heap.size w w' := by
  obtain ⟨W, HW⟩ : ∃ W, Hid (w.alloc (.cells zeroFr 88) = W) := ⟨_, rfl⟩
  have hW := HW.out
  have HB : Hid (Below w.heap.size w W) := by rw [← HW.out]; exact (Below.refl _ _).alloc (Nat.le_refl _) _
  have HZ : Hid (W.heap[w.heap.size]? = some (.cells zeroFr 88 (0, 0))) := by rw [← HW.out]; exact heap_alloc_new w _
  obtain ⟨Y, HY, HYR, HYK⟩ := stored9 HZ.out 0 0 0 0 0 false 0 0 0
  obtain ⟨z0, z1, z2, z3, z4, z5, z6, z7, z8⟩ := nine (f := 0) (t := 0) (d := 0) (k := 0) (a := 0) (y := false) (ph := 0) (pr := 0) (pa := 0) HZ.out
  obtain ⟨f0, f1, f2, f3, f4, f5, f6, f7, f8⟩ := frozen9 HZ.out
  have HYB : Hid (Below w.heap.size w Y) := HYK.out.below HB.out.size (fun k e => by unfold In1 at e; omega) HB.out
  have hn : ((s.size : Int) != 22) = true := by simp; omega
  go_enter Tryd.func62, Tryd.ntmps62
  go_wp2_with fail
  rw [HY.out]
  refine bodyPost_ret (results_row2 rfl _ _ w.heap.size 88 _ (0, 0) _ rfl (HYR.out) Tryd.underlying88 rfl sizeFr) rfl ?_
  exact ⟨rfl, HYB.out⟩

set_option maxHeartbeats 8000000 in
set_option maxRecDepth 100000 in
theorem fof_22 (s : ByteArray) (w : World) (hs : s.size = 22) :
    Calls Tryd.prog 62 #[.string s] w fun e w' => e = .returned (.tuple #[(decF s.data.toList).val, .int .i64 (codeF s.data.toList : Nat)]) ∧ Below w.heap.size w w' := by
  obtain ⟨i0, hi, hz0, hz1, hz2⟩ := info_parts Tryd.infoI
  have HC := hid (code_22 s.data.toList hs)
  have HDF : Hid (decF s.data.toList = if codeF s.data.toList = 0 then readF s.data.toList else FN.zero) := rfl
  obtain ⟨W, HW⟩ : ∃ W, Hid (w.alloc (.cells zeroFr 88) = W) := ⟨_, rfl⟩
  have hW := HW.out
  have HB : Hid (Below w.heap.size w W) := by rw [← HW.out]; exact (Below.refl _ _).alloc (Nat.le_refl _) _
  have HZ : Hid (W.heap[w.heap.size]? = some (.cells zeroFr 88 (0, 0))) := by rw [← HW.out]; exact heap_alloc_new w _
  have HP : Hid (∀ wx, Below W.heap.size W wx → wx.heap[w.heap.size]? = some (.cells zeroFr 88 (0, 0)) ∧ Below w.heap.size w wx) := fun wx hx =>
    ⟨(hx.block _ (row_ltJ HZ.out)).trans HZ.out, HB.out.trans (hx.mono HB.out.size)⟩
  have s1 := slice_high s 18 18 rfl (by omega)
  have s2 := slice_low s 18 18 rfl (by omega)
  obtain ⟨u, Hu⟩ : ∃ u, Hid (s.extract 0 18 = u) := ⟨_, rfl⟩
  obtain ⟨x, Hx⟩ : ∃ u, Hid (s.extract 18 s.size = u) := ⟨_, rfl⟩
  rw [Hu.out] at s1
  rw [Hx.out] at s2
  have HUl : Hid (u.data.toList = s.data.toList.take 18) := by unfold Hid; rw [← Hu.out, ext_list]; rfl
  have HXl : Hid (x.data.toList = s.data.toList.drop 18) := by
    unfold Hid; rw [← Hx.out, ext_list]; exact List.take_of_length_le (by rw [List.length_drop, ← size_list]; omega)
  have hus : Hid (u.size ≤ 1000) := by unfold Hid; rw [size_list, HUl.out, List.length_take]; omega
  obtain ⟨cr, Hcr⟩ : ∃ c, Hid (crcL u.data.toList = c) := ⟨_, rfl⟩
  have Hcl : Hid (cr < 4294967296) := by rw [← Hcr.out]; exact crcL_lt _
  obtain ⟨r, Hr⟩ : ∃ r, Hid (bA (lowL cr) = r) := ⟨_, rfl⟩
  obtain ⟨wb, Hwb⟩ : ∃ b : Bool, Hid (decide (lowL (crcL (s.data.toList.take 18)) = s.data.toList.drop 18) = b) := ⟨_, hid (Eq.refl _)⟩
  have hcmp : (r.toList == x.toList) = wb := by
    rw [← Hwb.out, ← Hr.out, ← Hcr.out, ByteArray.toList_eq, ByteArray.toList_eq, bA_list, HUl.out, HXl.out]
    apply Bool.eq_iff_iff.2
    simp only [beq_iff_eq, decide_eq_true_eq]
  have hn : ((s.size : Int) != 22) = false := by simp; omega
  have HSs := hid hs
  clear hs
  go_enter Tryd.func62, Tryd.ntmps62
  go_wp2_with fail
  go_cut [21] from 14 (fun s21 wx => s21 = .bool (!wb) ∧ Below W.heap.size W wx)
  case first =>
    go_region_held3 (fun _ => True) (trivial) (first | (go_at_call 61; (with_reducible refine (crc_is u cr _ hus.out Hcr.out).mono ?_); rintro e wx ⟨rfl, hx⟩; subst wx) | (go_at_call 60; (with_reducible refine (low_is cr r _ Hcl.out Hr.out).mono ?_); rintro e wx ⟨rfl, hx⟩; have HBX := hid (((Below.refl _ W).drew).trans hx); clear hx))
    all_goals go_step
    all_goals go_step
    all_goals go_meet
    all_goals exact ⟨rfl, HBX.out⟩
  case rest =>
    obtain ⟨rfl, hbc⟩ := hcut
    have HBC := hid hbc
    obtain ⟨hz, hbw⟩ := HP.out wc hbc
    have HZc := hid hz
    have HBw := hid hbw
    clear hbc hz hbw s1 s2 hcmp
    cases wb with
    | false =>
      have HC7 : Hid (codeF s.data.toList = 7) := by unfold Hid; rw [HC.out, if_neg (of_decide_eq_false Hwb.out)]
      have HD0 : Hid (decF s.data.toList = FN.zero) := by unfold Hid; rw [HDF.out, if_neg (by rw [HC7.out]; decide)]
      obtain ⟨Y, HY, HYR, HYK⟩ := stored9 HZc.out 0 0 0 0 0 false 0 0 0
      obtain ⟨z0, z1, z2, z3, z4, z5, z6, z7, z8⟩ := nine (f := 0) (t := 0) (d := 0) (k := 0) (a := 0) (y := false) (ph := 0) (pr := 0) (pa := 0) HZc.out
      obtain ⟨f0, f1, f2, f3, f4, f5, f6, f7, f8⟩ := frozen9 HZc.out
      have HYB : Hid (Below w.heap.size w Y) := HYK.out.below HBw.out.size (fun k e => by unfold In1 at e; omega) HBw.out
      go_wp2_with fail
      rw [HY.out]
      refine bodyPost_ret (results_row2 rfl _ _ w.heap.size 88 _ (0, 0) _ rfl (HYR.out) Tryd.underlying88 rfl sizeFr) rfl ?_
      exact ⟨by rw [HC7.out, HD0.out]; rfl, HYB.out⟩
    | true =>
      have HOK := hid (of_decide_eq_true Hwb.out)
      obtain ⟨eb, Heb⟩ : ∃ n, Hid (wc.heap.size = n) := ⟨_, rfl⟩
      have heb := Heb.out
      obtain ⟨X, HX⟩ : ∃ X, Hid (wc.alloc (.cells #[.int .i64 1, .int .i64 2, .int .i64 3, .int .i64 4, .int .i64 8, .int .i64 9, .int .i64 10, .int .i64 14, .int .i64 18] 3) = X) := ⟨_, rfl⟩
      have hX := HX.out
      have RE : Hid (X.heap[eb]? = some (.cells #[.int .i64 1, .int .i64 2, .int .i64 3, .int .i64 4, .int .i64 8, .int .i64 9, .int .i64 10, .int .i64 14, .int .i64 18] 3 (0, 0))) := by rw [← HX.out, ← Heb.out]; exact heap_alloc_new wc _
      have HXs : Hid (X.heap.size = eb + 1) := by unfold Hid; rw [← HX.out, ← Heb.out]; simp
      have HBX : Hid (Below W.heap.size W X) := by rw [← HX.out]; exact HBC.out.alloc HBC.out.size _
      go_wp2_with fail
      go_loopw [4, 6, 7] (fun v a i wr => ∃ m : Nat, m ≤ 9 ∧ i = .int .i64 (m : Int) ∧ a = .int .i64 (endF m : Nat) ∧ wr.ownsRow (eb + 1) 3 1 v m (valsF s.data.toList m) ∧ Below (eb + 1) X wr) (fun _ _ i _ => 9 - (intOf i).toNat)
      case atStart => exact ⟨0, by omega, rfl, rfl, World.ownsRow_nil _ _ _ _, Below.refl _ _⟩
      case round =>
        obtain ⟨m, hm, rfl, rfl, hown, hbl⟩ := hrel
        have HO := hid hown
        have HBl := hid hbl
        have REr := hid ((hbl.block eb (by have := HXs.out; omega)).trans RE.out)
        have hsz : eb + 1 ≤ wr.heap.size := by have := hbl.size; have := HXs.out; omega
        clear hown hbl
        by_cases hlt : m < 9
        · have hce := endsF REr.out hlt
          obtain ⟨hl1, hl2, h4⟩ := endF_le m hlt
          have HV : Hid (valF s.data.toList m = numL ((s.data.toList.drop (endF m)).take (endF (m + 1) - endF m))) := rfl
          obtain ⟨z, Hz⟩ : ∃ z, Hid (endF (m + 1) = z) := ⟨_, rfl⟩
          rw [Hz.out] at hce hl1 hl2 h4 HV
          obtain ⟨y, Hy⟩ : ∃ y, Hid (endF m = y) := ⟨_, rfl⟩
          rw [Hy.out] at hl1 h4 HV ⊢
          go_wp2_with fail
          go_loop [6, 8] (fun a n => ∃ c : Nat, y ≤ c ∧ c ≤ z ∧ a = .int .i64 (c : Int) ∧ n = .int .i64 (numL ((s.data.toList.drop y).take (c - y)) : Nat)) (fun a _ => z - (intOf a).toNat)
          case atStart => exact ⟨y, Nat.le_refl _, hl1, rfl, by rw [Nat.sub_self]; rfl⟩
          case round =>
            obtain ⟨c, hc1, hc2, rfl, rfl⟩ := hrel
            have hnl := num_lt s.data.toList y (c - y) (by omega)
            by_cases hcz : c < z
            · have hct : c < s.size := by have := HSs.out; omega
              have ix := idx_str s c (c : Int) hct rfl
              have hbx := UInt8.toNat_lt (s[c]'hct)
              have HSt : Hid (numL ((s.data.toList.drop y).take (c + 1 - y)) = 256 * numL ((s.data.toList.drop y).take (c - y)) + (s[c]'hct).toNat) := by
                unfold Hid
                have e := num_step s.data.toList y (c - y) (by rw [← size_list]; omega)
                rw [show c - y + 1 = c + 1 - y by omega] at e
                rw [e, getB hct]
                congr 2
                simp only [show y + (c - y) = c by omega]
              generalize (s[c]'hct).toNat = x at ix hbx HSt
              generalize numL ((s.data.toList.drop y).take (c - y)) = n at hnl HSt ⊢
              go_wp2_with fail
              go_round
              case rel => exact ⟨c + 1, by omega, by omega, by go_num, val_int (by rw [HSt.out]; omega)⟩
              case measure => simp [intOf]; omega
            · obtain rfl : c = z := by omega
              rw [← HV.out] at hnl ⊢
              have HVS := hid (valsF_succ s.data.toList m)
              generalize valF s.data.toList m = va at hnl HVS ⊢
              go_wp2_with (at_builtin; refine wpList_append_own _ rfl (.tmp 45) (.tmp 47) 22 rfl (eb + 1) 3 i0 (.int .i64 0) 1 8 Tryd.underlying22 hi hz0 hz1 hz2 rfl (by decide) _ m (valsF s.data.toList m) rfl (by exact World.ownsRow.alloc HO.out _) ⟨wr.heap.size, 0, none⟩ 1 1 [.int .i64 (va : Int)] rfl rfl (lit_cells _ _ _) ?c2 ?c3 ?c4 ?c5 ?_)
              case c2 => first | rfl | (intro u hu; simp at hu; subst hu; rfl)
              case c3 => unfold maxLen; omega
              case c4 => omega
              case c5 => first | omega | (simp; omega)
              intro v' w1 hown hg _
              have HO1 : Hid (w1.ownsRow (eb + 1) 3 1 v' (m + 1) (valsF s.data.toList (m + 1))) := by unfold Hid; rw [HVS.out]; exact hown
              have HB1 := hid (own_below HBl.out hsz ((Below.refl _ _).alloc (Nat.le_refl _) _) HO.out hg)
              clear hown hg
              go_wp2_with fail
              refine ⟨?_, ?measure⟩
              iterate 29 (apply Exists.intro)
              refine ⟨?rel, rfl⟩
              case rel => exact ⟨m + 1, by omega, by go_num, val_int (by rw [Hz.out]), HO1.out, HB1.out⟩
              case measure => simp [intOf]; omega
        · obtain rfl : m = 9 := by omega
          have hown := HO.out
          rcases hown.2 with ⟨_, h0⟩ | ⟨g, cap, cur, rfl, hg, hh, hle, hmx, hcs, htk⟩
          · omega
          have HCl : Hid (∀ i (h : i < 9), wr.cell? ⟨g, i, none⟩ = some (.int .i64 (valF s.data.toList i : Nat))) := fun i h => by
            have := HO.out.cellAt i (by omega)
            rw [this]
            rcases nine_i h with rfl | rfl | rfl | rfl | rfl | rfl | rfl | rfl | rfl <;> rfl
          clear hown htk
          have hgl := row_ltJ hh
          have RG := hid hh
          clear hh
          obtain ⟨f, E0⟩ : ∃ n, Hid (valF s.data.toList 0 = n) := ⟨_, rfl⟩
          obtain ⟨t, E1⟩ : ∃ n, Hid (valF s.data.toList 1 = n) := ⟨_, rfl⟩
          obtain ⟨d, E2⟩ : ∃ n, Hid (valF s.data.toList 2 = n) := ⟨_, rfl⟩
          obtain ⟨k, E3⟩ : ∃ n, Hid (valF s.data.toList 3 = n) := ⟨_, rfl⟩
          obtain ⟨a, E4⟩ : ∃ n, Hid (valF s.data.toList 4 = n) := ⟨_, rfl⟩
          obtain ⟨yy, E5⟩ : ∃ n, Hid (valF s.data.toList 5 = n) := ⟨_, rfl⟩
          obtain ⟨ph, E6⟩ : ∃ n, Hid (valF s.data.toList 6 = n) := ⟨_, rfl⟩
          obtain ⟨pr, E7⟩ : ∃ n, Hid (valF s.data.toList 7 = n) := ⟨_, rfl⟩
          obtain ⟨pa, E8⟩ : ∃ n, Hid (valF s.data.toList 8 = n) := ⟨_, rfl⟩
          have q0 := HCl.out 0 (by omega)
          rw [E0.out] at q0
          have q1 := HCl.out 1 (by omega)
          rw [E1.out] at q1
          have q2 := HCl.out 2 (by omega)
          rw [E2.out] at q2
          have q3 := HCl.out 3 (by omega)
          rw [E3.out] at q3
          have q4 := HCl.out 4 (by omega)
          rw [E4.out] at q4
          have q5 := HCl.out 5 (by omega)
          rw [E5.out] at q5
          have q6 := HCl.out 6 (by omega)
          rw [E6.out] at q6
          have q7 := HCl.out 7 (by omega)
          rw [E7.out] at q7
          have q8 := HCl.out 8 (by omega)
          rw [E8.out] at q8
          obtain ⟨yb, Hyb⟩ : ∃ b : Bool, Hid ((yy == 1) = b) := ⟨_, hid (Eq.refl _)⟩
          have hyi : ((yy : Int) == 1) = yb := by rw [← Hyb.out]; apply Bool.eq_iff_iff.2; simp only [beq_iff_eq]; omega
          have HF : Hid (readF s.data.toList = ⟨f, t, d, k, a, yb, ph, pr, pa⟩) := by
            unfold Hid
            rw [← Hyb.out, ← E0.out, ← E1.out, ← E2.out, ← E3.out, ← E4.out, ← E5.out, ← E6.out, ← E7.out, ← E8.out]
            rfl
          have HYY : Hid (numL (segL s.data.toList 8 1) = yy) := by rw [← E5.out]; exact hid (Eq.refl _)
          have hyl : yy < 4294967296 := by rw [← E5.out]; exact valF_lt _ 5 (by omega)
          have HBr := hid (HBX.out.trans (HBl.out.mono (by have := HBX.out.size; have := HXs.out; omega)))
          obtain ⟨hz, hbw⟩ := HP.out wr HBr.out
          have HZr := hid hz
          have HBwr := hid hbw
          clear hz hbw
          have hwg : w.heap.size < g := by have h1 := row_ltJ HZc.out; have h2 := Heb.out; omega
          by_cases hy1 : yy ≤ 1
          · have hyg : decide ((1 : Int) < (yy : Int)) = false := decide_eq_false (by omega)
            go_wp2_with fail
            go_region_held3 (fun w' => w'.cell? ⟨g, 0, none⟩ = some (.int .i64 (f : Int)) ∧ w'.cell? ⟨g, 1, none⟩ = some (.int .i64 (t : Int)) ∧ w'.cell? ⟨g, 2, none⟩ = some (.int .i64 (d : Int)) ∧ w'.cell? ⟨g, 3, none⟩ = some (.int .i64 (k : Int)) ∧ w'.cell? ⟨g, 4, none⟩ = some (.int .i64 (a : Int)) ∧ w'.cell? ⟨g, 5, none⟩ = some (.int .i64 (yy : Int)) ∧ w'.cell? ⟨g, 6, none⟩ = some (.int .i64 (ph : Int)) ∧ w'.cell? ⟨g, 7, none⟩ = some (.int .i64 (pr : Int)) ∧ w'.cell? ⟨g, 8, none⟩ = some (.int .i64 (pa : Int))) (go_keep) (fail)
            obtain ⟨V, HV⟩ : ∃ X, Hid ((wr.alloc (.cells #[.int .i64 (f : Int), .int .i64 (t : Int), .int .i64 (d : Int), .int .i64 (k : Int), .int .i64 (a : Int), .bool yb, .int .i64 (ph : Int), .int .i64 (pr : Int), .int .i64 (pa : Int)] 88)).drew = X) := ⟨_, rfl⟩
            have HVF : Hid (V.heap[wr.heap.size]? = some (.cells #[.int .i64 (f : Int), .int .i64 (t : Int), .int .i64 (d : Int), .int .i64 (k : Int), .int .i64 (a : Int), .bool yb, .int .i64 (ph : Int), .int .i64 (pr : Int), .int .i64 (pa : Int)] 88 (0, 0))) := by rw [← HV.out]; exact heap_alloc_new wr _
            have HVW : Hid (Below W.heap.size W V) := by rw [← HV.out]; exact (HBr.out.alloc HBr.out.size _).drew
            have hrl : w.heap.size < wr.heap.size := row_ltJ HZr.out
            clear q0 q1 q2 q3 q4 q5 q6 q7 q8
            rw [HV.out]
            obtain ⟨v0, v1, v2, v3, v4, v5, v6, v7, v8⟩ := nine HVF.out
            by_cases hfo : (FN.mk f t d k a yb ph pr pa).ok
            · have HC0 : Hid (codeF s.data.toList = 0) := by unfold Hid; rw [HC.out, if_pos HOK.out, HYY.out, if_pos hy1, HF.out, if_pos hfo]
              have HD0 : Hid (decF s.data.toList = ⟨f, t, d, k, a, yb, ph, pr, pa⟩) := by unfold Hid; rw [HDF.out, if_pos HC0.out, HF.out]
              have HFO : Hid (frOk f t d k a ph pr pa) := by obtain ⟨h0, h1, h2, h3, h4, h5, h6, h7, h8⟩ := hfo; unfold Hid frOk stOk; simp only at *; omega
              clear hfo
              go_wp2_with fail
              refine (rferr_ok f t d k a yb ph pr pa V HFO.out).mono ?_
              rintro e w3 ⟨rfl, hb3⟩
              have HF3 := hid ((hb3.block _ (row_ltJ HVF.out)).trans HVF.out)
              obtain ⟨hz, hbw⟩ := HP.out w3 (HVW.out.trans (hb3.mono HVW.out.size))
              have HZ3 := hid hz
              have HB3 := hid hbw
              clear hz hbw hb3 v0 v1 v2 v3 v4 v5 v6 v7 v8
              obtain ⟨Y, HY, HYR, HYK⟩ := stored9 HZ3.out f t d k a yb ph pr pa
              obtain ⟨v0, v1, v2, v3, v4, v5, v6, v7, v8⟩ := nine HF3.out
              obtain ⟨z0, z1, z2, z3, z4, z5, z6, z7, z8⟩ := nine (f := 0) (t := 0) (d := 0) (k := 0) (a := 0) (y := false) (ph := 0) (pr := 0) (pa := 0) HZ3.out
              obtain ⟨f0, f1, f2, f3, f4, f5, f6, f7, f8⟩ := frozen9 HZ3.out
              have HYB : Hid (Below w.heap.size w Y) := HYK.out.below HB3.out.size (fun k e => by unfold In1 at e; omega) HB3.out
              go_wp2_with fail
              rw [HY.out]
              refine bodyPost_ret (results_row2 rfl _ _ w.heap.size 88 _ (0, 0) _ rfl (HYR.out) Tryd.underlying88 rfl sizeFr) rfl ?_
              exact ⟨by rw [HC0.out, HD0.out]; rfl, HYB.out⟩
            · have HC2 : Hid (codeF s.data.toList = 2) := by unfold Hid; rw [HC.out, if_pos HOK.out, HYY.out, if_pos hy1, HF.out, if_neg hfo]
              have HD0 : Hid (decF s.data.toList = FN.zero) := by unfold Hid; rw [HDF.out, if_neg (by rw [HC2.out]; decide)]
              have HFO : Hid (¬ frOk f t d k a ph pr pa) := by
                intro g
                apply hfo
                unfold frOk stOk at g
                unfold FN.ok
                simp only at *
                omega
              clear hfo
              go_wp2_with fail
              refine (rferr_bad f t d k a yb ph pr pa V HFO.out).mono ?_
              rintro e w3 ⟨rfl, hb3⟩
              obtain ⟨hz, hbw⟩ := HP.out w3 (HVW.out.trans (hb3.mono HVW.out.size))
              have HZ3 := hid hz
              have HB3 := hid hbw
              clear hz hbw hb3 v0 v1 v2 v3 v4 v5 v6 v7 v8
              obtain ⟨Y, HY, HYR, HYK⟩ := stored9 HZ3.out 0 0 0 0 0 false 0 0 0
              obtain ⟨z0, z1, z2, z3, z4, z5, z6, z7, z8⟩ := nine (f := 0) (t := 0) (d := 0) (k := 0) (a := 0) (y := false) (ph := 0) (pr := 0) (pa := 0) HZ3.out
              obtain ⟨f0, f1, f2, f3, f4, f5, f6, f7, f8⟩ := frozen9 HZ3.out
              have HYB : Hid (Below w.heap.size w Y) := HYK.out.below HB3.out.size (fun k e => by unfold In1 at e; omega) HB3.out
              go_wp2_with fail
              rw [HY.out]
              refine bodyPost_ret (results_row2 rfl _ _ w.heap.size 88 _ (0, 0) _ rfl (HYR.out) Tryd.underlying88 rfl sizeFr) rfl ?_
              exact ⟨by rw [HC2.out, HD0.out]; rfl, HYB.out⟩
          · have hyg : decide ((1 : Int) < (yy : Int)) = true := decide_eq_true (by omega)
            have HC1 : Hid (codeF s.data.toList = 1) := by unfold Hid; rw [HC.out, if_pos HOK.out, HYY.out, if_neg hy1]
            have HD0 : Hid (decF s.data.toList = FN.zero) := by unfold Hid; rw [HDF.out, if_neg (by rw [HC1.out]; decide)]
            obtain ⟨Y, HY, HYR, HYK⟩ := stored9 HZr.out 0 0 0 0 0 false 0 0 0
            obtain ⟨z0, z1, z2, z3, z4, z5, z6, z7, z8⟩ := nine (f := 0) (t := 0) (d := 0) (k := 0) (a := 0) (y := false) (ph := 0) (pr := 0) (pa := 0) HZr.out
            obtain ⟨f0, f1, f2, f3, f4, f5, f6, f7, f8⟩ := frozen9 HZr.out
            have HYB : Hid (Below w.heap.size w Y) := HYK.out.below HBwr.out.size (fun k e => by unfold In1 at e; omega) HBwr.out
            go_wp2_with fail
            rw [HY.out]
            refine bodyPost_ret (results_row2 rfl _ _ w.heap.size 88 _ (0, 0) _ rfl (HYR.out) Tryd.underlying88 rfl sizeFr) rfl ?_
            exact ⟨by rw [HC1.out, HD0.out]; rfl, HYB.out⟩
theorem fof_any (s : ByteArray) (w : World) :
    Calls Tryd.prog 62 #[.string s] w fun e w' => e = .returned (.tuple #[(decF s.data.toList).val, .int .i64 (codeF s.data.toList : Nat)]) ∧ Below w.heap.size w w' := by
  by_cases h : s.size = 22
  · exact fof_22 s w h
  · rw [(code_len s.data.toList h).1, (code_len s.data.toList h).2]
    exact fof_len s w h
end Go.Proofs.YtkbbjkiinpimiaaDoor
