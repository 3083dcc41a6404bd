/-
  On the way to PAgainProof: GX.
-/
import Derived.Test.YtadhpkopkkjmfaaGreatDoorBz62
import Derived.Test.YtadhpkopkkjmfaaGreatDoorBz67
set_option maxHeartbeats 8000000
set_option maxRecDepth 100000
namespace Go.Proofs.YtadhpkopkkjmfaaGreatDoor
open Go.RowKit
theorem isSl_take {w : World} {b off cap n : Nat} {vs : List Int} (h : IsSl w (.slice (some ⟨b, off, none⟩) n cap) vs) (hn : vs.length = n) (k c : Nat) (hk : k ≤ n) : IsSl w (.slice (some ⟨b, off, none⟩) k c) (vs.take k) := by
  have hl : (vs.take k).length = k := by rw [List.length_take]; omega
  obtain ⟨a, cp, e, hm, -, hc⟩ := h
  injection e with e1 e2 e3
  subst e1
  refine ⟨_, c, by rw [hl], by rw [hl]; omega, (fun h => by cases h), fun h0 => ?_⟩
  rw [hl] at h0
  obtain ⟨b', off', e4, hcell⟩ := hc (by omega)
  refine ⟨b', off', e4, fun i hi => ?_⟩
  rw [hl] at hi
  rw [hcell i (by omega)]
  congr 2
  simp [List.getD, hi]
theorem isSl_drop {w : World} {b off cap n : Nat} {vs : List Int} (h : IsSl w (.slice (some ⟨b, off, none⟩) n cap) vs) (hn : vs.length = n) (k c o2 : Nat) (hk : k ≤ n) (ho : k < n → o2 = off + k) : IsSl w (.slice (some ⟨b, o2, none⟩) (n - k) c) (vs.drop k) := by
  have hl : (vs.drop k).length = n - k := by rw [List.length_drop]; omega
  obtain ⟨a, cp, e, hm, -, hc⟩ := h
  injection e with e1 e2 e3
  subst e1
  refine ⟨_, c, by rw [hl], by rw [hl]; omega, (fun h => by cases h), fun h0 => ?_⟩
  rw [hl] at h0
  obtain ⟨b', off', e4, hcell⟩ := hc (by omega)
  have e5 := Option.some.inj e4
  injection e5 with e6 e7
  subst e6 e7
  refine ⟨b, o2, rfl, fun i hi => ?_⟩
  rw [hl] at hi
  rw [ho (by omega), Nat.add_assoc, hcell (k + i) (by omega)]
  congr 2
  simp [List.getD]
theorem wpList_append_is {w : World} {ops : Array Oper} {rest : List Oper} {o : Oper} {a : Act} {Q : Exit → Act → World → Prop} (hgd : o.guard = none) (s x : Operand)
    (ho : o.op = .call { callee := .builtin .append, args := #[s, x], argTypes := #[22, 22] })
    (base n : Nat) (v u : Value) (xs : List Value) (ys : List Int) (b2 : Nat) (hs : a.eval s = v) (hx : a.eval x = u) (hown : w.ownsRow base 3 1 v n xs) (hu : w.ownsRow b2 3 1 u ys.length (ys.map (Value.int .i64))) (hn : n + ys.length ≤ 1000000000000) (hb : base ≤ w.heap.size)
    (h : ∀ ad' cap' w', w'.ownsRow base 3 1 (.slice ad' (n + ys.length) cap') (n + ys.length) (xs ++ ys.map (Value.int .i64)) → w.grownBy w' v.ownBlock → wpList Tryz.prog ops Q rest (a.put o.dst (.slice ad' (n + ys.length) cap')) w') :
    wpList Tryz.prog ops Q (o :: rest) a w := by
  obtain ⟨i0, hi0, hz0, hz1, hz2⟩ := info_parts Tryz.infoInt
  have form : ∀ {v' : Value} {w' : World} {k : Nat} {zs : List Value}, w'.ownsRow base 3 1 v' k zs → ∃ ad' cap', v' = .slice ad' k cap' := fun {v' w' k zs} h2 => by
    rcases h2.2 with ⟨e, h0⟩ | ⟨g, cap, cur, e, -⟩
    · exact ⟨none, 0, by rw [e, h0]⟩
    · exact ⟨_, _, e⟩
  rcases hu.2 with ⟨e, h0⟩ | ⟨g, cap, cur, e, -⟩
  · have hy : ys = [] := List.length_eq_zero_iff.1 h0
    subst hy
    obtain ⟨ad', cap', hv'⟩ := form hown
    refine wpList_append_own_none hgd s x 22 ho base 3 i0 1 Tryz.underlying22 hi0 v n xs hs hown (by rw [hx, e]) ?_
    have := h ad' cap' w (by simpa [← hv'] using hown) ⟨rfl, rfl, rfl, Nat.le_refl _, fun _ _ _ => rfl⟩
    rw [hv']
    simpa using this
  · have hcell := hu
    rw [e] at hcell
    refine wpList_append_own_at w hgd s x 22 ho base 3 i0 _ 1 8 Tryz.underlying22 hi0 hz0 hz1 hz2 rfl (by decide) v n xs hs hown ⟨g, 0, none⟩ ys.length cap (ys.map (Value.int .i64)) (by rw [hx, e]) (by simp) (fun j z hz => hcell.cells rfl j z hz) (fun z hz => by obtain ⟨y, -, rfl⟩ := List.mem_map.1 hz; rfl) (by unfold maxLen; omega) (by omega) hb ?_
    intro v' w' h2 h3 _ _
    obtain ⟨ad', cap', rfl⟩ := form h2
    exact h ad' cap' w' h2 h3
theorem slice_hi (b off l cap k : Nat) (hk : k ≤ cap) (w : World) : (Instr.slice 22 (.slice (some ⟨b, off, none⟩) l cap) none (some (.int .i64 (k : Int))) none).run Tryz.prog w = .ok (.slice (some ⟨b, off, none⟩) k cap) w := by
  have h1 : (k : Int) ≤ (cap : Int) := by omega
  go_simp
theorem slice_lo (b off l cap k : Nat) (hk : k ≤ l) (w : World) : (Instr.slice 22 (.slice (some ⟨b, off, none⟩) l cap) (some (.int .i64 (k : Int))) none none).run Tryz.prog w = .ok (.slice (some ⟨b, if cap = k then off else off + k, none⟩) (l - k) (cap - k)) w := by
  have h1 : (k : Int) ≤ (l : Int) := by omega
  by_cases h : cap = k
  · rw [if_pos h]
    go_simp
  · rw [if_neg h]
    go_simp
theorem slice_no (au : Option Addr) (w : World) : (Instr.slice 22 (.slice au 0 0) none (some (.int .i64 0)) none).run Tryz.prog w = .ok (.slice au 0 0) w ∧ (Instr.slice 22 (.slice au 0 0) (some (.int .i64 0)) none none).run Tryz.prog w = .ok (.slice au 0 0) w := by
  cases au with
  | none => exact ⟨by go_simp, by go_simp⟩
  | some x => exact ⟨by go_simp, by go_simp⟩
theorem RuI.whole {w0 w wr : World} {C C' : Nat → Nat} {X X' : XB} {zs vs : List Int} {V : PX} {m : Nat} {u : Value} (h : RuI w0 w wr C X zs vs V m vs.length u C' X') : WD w0 wr C' X' zs (runX zs vs V) (m + 42 * vs.length) ∧ wr.ownsRow w.heap.size 3 1 u vs.length ((runA zs vs V).map (Value.int .i64)) := by
  have h1 := h.wd
  have h2 := h.own
  rw [List.take_length] at h1 h2
  exact ⟨h1, h2⟩
theorem pagain_any (A : Nat → Addr) (v : Value) (au : Option Addr) (capu : Nat) (zs vs : List Int) (x : Int) (w : World) (hE : Held9 w A) (hv : IsSl w v zs) (hu : IsSl w (.slice au vs.length capu) vs) (hcp : vs.length ≤ capu) (hcm : capu ≤ 9223372036854775807) (hfo : capu = 0 ∨ ∃ b off, au = some ⟨b, off, none⟩) (hr : ∀ y, y ∈ vs → y ≤ 9223372036854775807) :
    Calls Tryz.prog 10 #[v, .slice au vs.length capu, .int .i64 x] w fun e w' => e = .returned (.bool true) ∧ Below w.heap.size w w' := by
  have HE := hid hE
  have HV := hid hv
  have HU := hid hu
  have HR := hid hr
  have HFo := hid hfo
  obtain ⟨av, capv, rfl, hzm, -, -⟩ := hv
  unfold maxLen at hzm
  obtain ⟨n, HN⟩ : ∃ n, Hid (zs.length = n) := ⟨_, rfl⟩
  obtain ⟨l, HL⟩ : ∃ l, Hid (vs.length = l) := ⟨_, rfl⟩
  rw [HN.out] at HV hzm ⊢
  rw [HL.out] at HU hcp ⊢
  clear hE hr hu hfo
  by_cases he : errW zs = 0
  · by_cases h200 : 200 < l
    · have e2 : (200 : Int) < (l : Int) := by omega
      go_enter Tryz.func10, Tryz.ntmps10
      go_wp2_with fail
      refine (born_any A w HE.out).mono ?_
      rintro e w1 ⟨rfl, hb⟩
      have HB1 := hid hb
      have HWe := hid (rErr_any _ zs w1 (HV.out.later hb))
      rw [he, show ((0 : Nat) : Int) = 0 from rfl] at HWe
      clear hb
      go_wp2_with fail
      refine HWe.out.mono ?_
      rintro e w2 ⟨rfl, hx⟩
      subst w2
      go_wp2_with fail
      go_ret
      exact ⟨rfl, HB1.out⟩
    · have e2 : ¬ (200 : Int) < (l : Int) := by omega
      by_cases hx0 : x < 0
      · go_enter Tryz.func10, Tryz.ntmps10
        go_wp2_with fail
        refine (born_any A w HE.out).mono ?_
        rintro e w1 ⟨rfl, hb⟩
        have HB1 := hid hb
        have HWe := hid (rErr_any _ zs w1 (HV.out.later hb))
        rw [he, show ((0 : Nat) : Int) = 0 from rfl] at HWe
        clear hb
        go_wp2_with fail
        refine HWe.out.mono ?_
        rintro e w2 ⟨rfl, hx⟩
        subst w2
        go_wp2_with fail
        go_ret
        exact ⟨rfl, HB1.out⟩
      · obtain ⟨k, rfl⟩ := Int.eq_ofNat_of_zero_le (show 0 ≤ x by omega)
        by_cases hxl : l < k
        · have e4 : (l : Int) < (k : Int) := by omega
          go_enter Tryz.func10, Tryz.ntmps10
          go_wp2_with fail
          refine (born_any A w HE.out).mono ?_
          rintro e w1 ⟨rfl, hb⟩
          have HB1 := hid hb
          have HWe := hid (rErr_any _ zs w1 (HV.out.later hb))
          rw [he, show ((0 : Nat) : Int) = 0 from rfl] at HWe
          clear hb
          go_wp2_with fail
          refine HWe.out.mono ?_
          rintro e w2 ⟨rfl, hx⟩
          subst w2
          go_wp2_with fail
          go_ret
          exact ⟨rfl, HB1.out⟩
        · have e4 : ¬ (l : Int) < (k : Int) := by omega
          have hkl : k ≤ l := by omega
          obtain ⟨n1, n7, -, -⟩ := errW_zero he
          rw [HN.out] at n1 n7
          have htl : (vs.take k).length = k := by rw [List.length_take, HL.out]; omega
          have hdl : (vs.drop k).length = l - k := by rw [List.length_drop, HL.out]
          have HTl := hid htl
          have HDl := hid hdl
          have HApp : Hid (vs.take k ++ vs.drop k = vs) := List.take_append_drop k vs
          have HR1 : Hid (∀ y, y ∈ vs.take k → y ≤ 9223372036854775807) := fun y hy => HR.out y (List.mem_of_mem_take hy)
          have HR2 : Hid (∀ y, y ∈ vs.drop k → y ≤ 9223372036854775807) := fun y hy => HR.out y (List.mem_of_mem_drop hy)
          obtain ⟨S1, S2, HS1, HS2, hsl1, hsl2⟩ : ∃ S1 S2 : Value, Hid (IsSl w S1 (vs.take k)) ∧ Hid (IsSl w S2 (vs.drop k)) ∧ (∀ w', (Instr.slice 22 (.slice au l capu) none (some (.int .i64 (k : Int))) none).run Tryz.prog w' = .ok S1 w') ∧ (∀ w', (Instr.slice 22 (.slice au l capu) (some (.int .i64 (k : Int))) none none).run Tryz.prog w' = .ok S2 w') := by
            rcases HFo.out with h0 | ⟨b, off, rfl⟩
            · subst h0
              obtain rfl : l = 0 := by omega
              obtain rfl : k = 0 := by omega
              have hvs : vs = [] := List.length_eq_zero_iff.1 HL.out
              subst hvs
              refine ⟨_, _, HU.out, HU.out, fun w' => (slice_no au w').1, fun w' => (slice_no au w').2⟩
            · refine ⟨_, _, isSl_take HU.out HL.out k capu hkl, isSl_drop HU.out HL.out k (capu - k) (if capu = k then off else off + k) hkl (fun h => if_neg (by omega)), fun w' => slice_hi b off l capu k (by omega) w', fun w' => slice_lo b off l capu k hkl w'⟩
          clear htl hdl
          go_enter Tryz.func10, Tryz.ntmps10
          go_wp2_with fail
          refine (born_any A w HE.out).mono ?_
          rintro e w1 ⟨rfl, hb⟩
          have HB1 := hid hb
          have HWe := hid (rErr_any _ zs w1 (HV.out.later hb))
          rw [he, show ((0 : Nat) : Int) = 0 from rfl] at HWe
          have HOwn := hid (ownInts_any _ zs w1 (HV.out.later hb) (by rw [HN.out]; omega))
          clear hb
          go_wp2_with fail
          refine HWe.out.mono ?_
          rintro e w2 ⟨rfl, hx⟩
          subst w2
          go_wp2_with fail
          refine HOwn.out.mono ?_
          rintro e w2 ⟨v2, rfl, hv2, hb2⟩
          have HV2 := hid hv2
          have HB2 := hid (below_trans HB1.out hb2)
          have HNew := hid (wnew_ok v2 HV2.out (HE.out.later HB2.out) he)
          clear hv2 hb2
          go_wp2_with fail
          refine HNew.out.mono ?_
          rintro e w3 ⟨Ca, Xa, rfl, h3⟩
          have H3 := hid h3
          have HB3 := hid (below_trans HB2.out h3.bel)
          have HOw2 := hid (ownInts_any _ zs w3 (HV.out.later HB3.out) (by rw [HN.out]; omega))
          clear h3
          go_wp2_with fail
          refine HOw2.out.mono ?_
          rintro e w4 ⟨v4, rfl, hv4, hb4⟩
          have HB34 := hid hb4
          have HB4 := hid (below_trans HB3.out hb4)
          have HNew2 := hid (wnew_ok v4 hv4 (HE.out.later HB4.out) he)
          clear hv4 hb4
          go_wp2_with fail
          refine HNew2.out.mono ?_
          rintro e w5 ⟨Cb, Xb, rfl, h5⟩
          have HB35 := hid (below_trans HB34.out h5.bel)
          have HA5 := hid (H3.out.later HB35.out)
          have HBb5 := hid (h5.rebase HA5.out.bel (Nat.le_trans H3.out.bel.size HB34.out.size))
          have HAp5 : Hid (Apt Ca Cb) := fun y hy => by
            have h1 := H3.out.lt y hy
            have h2 := HB34.out.size
            rcases Nat.lt_or_ge (Cb y) 2000 with q | q
            · have := h5.low y q; omega
            · exact q
          have HB5 := hid (below_trans HB2.out HA5.out.bel)
          have HOw3 := hid (ownInts_long _ vs w5 (HU.out.later HB5.out) (by rw [HL.out]; omega))
          clear h5
          go_wp2_with fail
          refine HOw3.out.mono ?_
          rintro e w6 ⟨v6, rfl, ho6, hb6⟩
          have HA6 := hid (HA5.out.later hb6)
          have HBb6 := hid (HBb5.out.later hb6)
          have HRun := hid (run_any v6 w5.heap.size HA6.out (HE.out.later HB2.out) ho6 (by rw [HL.out]; omega) HR.out (by rw [HL.out]; omega) (own_new HA5.out ho6))
          clear ho6 hb6
          go_wp2_with fail
          refine HRun.out.mono ?_
          rintro e w7 ⟨u7, Ca7, Xa7, rfl, h7⟩
          have HA7 := hid h7.whole.1
          have HO7 := hid h7.whole.2
          have HKa := hid h7.ky
          have HBb7 := hid (HBb6.out.beside HA6.out HAp5.out h7.kept)
          have HAp7 := hid (HAp5.out.step HBb6.out h7.col)
          have HB7 := hid (below_trans HB2.out h7.wd.bel)
          have Hs67 := hid h7.kept.size
          clear h7
          rw [HL.out] at HA7 HO7
          have HOw4 := hid (ownInts_long S1 (vs.take k) w7 (HS1.out.later HB7.out) (by rw [HTl.out]; omega))
          go_wp2_with fail
          refine HOw4.out.mono ?_
          rintro e w8 ⟨v8, rfl, ho8, hb8⟩
          have HA8 := hid (HA7.out.later hb8)
          have HBb8 := hid (HBb7.out.later hb8)
          have HO8 := hid (own_later HO7.out hb8 (Nat.le_refl _))
          have Hs78 := hid hb8.size
          have HRun2 := hid (run_any v8 w7.heap.size HBb8.out (HE.out.later HB2.out) ho8 (by rw [HTl.out]; omega) HR1.out (by rw [HTl.out]; omega) (own_new HBb7.out ho8))
          clear ho8 hb8
          go_wp2_with fail
          refine HRun2.out.mono ?_
          rintro e w9 ⟨u9, Cb9, Xb9, rfl, h9⟩
          have HBb9 := hid h9.whole.1
          have HO9 := hid h9.whole.2
          have HF9 := hid h9.far
          have HKb := hid h9.ky
          have HCol9 := hid h9.col
          have HA9 := hid (HA8.out.beside HBb8.out HAp7.out.symm h9.kept)
          have HAp9 := hid (HAp7.out.symm.step HA8.out h9.col)
          have HFa : Hid (∀ g, u7.ownBlock = some g → 2000 ≤ Cb g ∧ g < w8.heap.size) := fun g hg => by
            have h1 := HO8.out.lt g hg
            refine ⟨?_, h1.2⟩
            rcases Nat.lt_or_ge (Cb g) 2000 with q | q
            · have := HBb6.out.lt g q; omega
            · exact q
          have HO9a := hid (own_kept HO8.out h9.kept (fun g hg e => by have h1 := (HFa.out g hg).1; have h2 : Cb g < 2000 := e; omega))
          have Hs89 := hid h9.kept.size
          clear h9
          rw [HTl.out] at HBb9 HO9
          have HB9 := hid (below_trans HB2.out HBb9.out.bel)
          have HOw5 := hid (ownInts_long S2 (vs.drop k) w9 (HS2.out.later HB9.out) (by rw [HDl.out]; omega))
          go_wp2_with fail
          refine HOw5.out.mono ?_
          rintro e w10 ⟨v10, rfl, ho10, hb10⟩
          have HA10 := hid (HA9.out.later hb10)
          have HBb10 := hid (HBb9.out.later hb10)
          have HO10 := hid (own_later HO9.out hb10 (Nat.le_refl _))
          have HO10a := hid (own_later HO9a.out hb10 (Nat.le_refl _))
          have Hs910 := hid hb10.size
          have HRun3 := hid (run_any v10 w9.heap.size HBb10.out (HE.out.later HB2.out) ho10 (by rw [HDl.out]; omega) HR2.out (by rw [HDl.out]; omega) (own_new HBb9.out ho10))
          rw [key_xb HKb.out] at HRun3
          clear ho10 hb10
          go_wp2_with fail
          refine HRun3.out.mono ?_
          rintro e w11 ⟨u11, Cb11, Xb11, rfl, h11⟩
          have HBb11 := hid h11.whole.1
          have HO11c := hid h11.whole.2
          have HKb11 := hid (h11.ky.trans HKb.out)
          have HA11 := hid (HA10.out.beside HBb10.out HAp9.out h11.kept)
          have HO11 := hid (own_kept HO10.out h11.kept (fun g hg e => by have h1 := HF9.out g hg; have h2 : Cb9 g < 2000 := e; omega))
          have HO11a := hid (own_kept HO10a.out h11.kept (fun g hg e => by have h1 := HFa.out g hg; have h2 : Cb9 g < 2000 := e; rw [HCol9.out g h1.2] at h2; omega))
          have HF11 : Hid (∀ g, u9.ownBlock = some g → 2000 ≤ Cb11 g ∧ w8.heap.size ≤ g) := fun g hg => by
            have h1 := HO10.out.lt g hg
            refine ⟨?_, h1.1⟩
            rw [h11.col g h1.2]; exact HF9.out g hg
          have Hs1011 := hid h11.kept.size
          clear h11
          rw [← runX_app, HApp.out] at HBb11
          obtain ⟨LA, HLA⟩ : ∃ LA, Hid (runA zs vs newX = LA) := ⟨_, rfl⟩
          obtain ⟨xs, Hxs⟩ : ∃ xs, Hid (runA zs (vs.take k) newX = xs) := ⟨_, rfl⟩
          obtain ⟨ys, Hys⟩ : ∃ ys, Hid (runA zs (vs.drop k) (runX zs (vs.take k) newX) = ys) := ⟨_, rfl⟩
          have HLe : Hid (LA = xs ++ ys) := by rw [← HLA.out, ← Hxs.out, ← Hys.out, ← runA_app, HApp.out]; exact rfl
          have hyl : ys.length = l - k := by rw [← Hys.out, runA_length, HDl.out]
          have hLl : LA.length = l := by rw [← HLA.out, runA_length, HL.out]
          have HLl := hid hLl
          have HYl := hid hyl
          rw [HDl.out, ← HYl.out, Hys.out] at HO11c
          rw [Hxs.out] at HO11
          rw [HLA.out] at HO11a
          have hb8s : w8.heap.size ≤ w11.heap.size := Nat.le_trans Hs89.out (Nat.le_trans Hs910.out Hs1011.out)
          obtain ⟨VV, HVV⟩ : ∃ VV, Hid (runX zs vs newX = VV) := ⟨_, rfl⟩
          rw [HVV.out] at HBb11 HA11
          obtain ⟨mb, hmb, HBc⟩ : ∃ mb, mb ≤ 8400 ∧ Hid (WD w2 w11 Cb11 Xb11 zs VV mb) := ⟨_, by rw [HDl.out]; omega, HBb11.out⟩
          obtain ⟨ma, hma, HAc⟩ : ∃ ma, ma ≤ 8400 ∧ Hid (WD w2 w11 Ca7 Xa7 zs VV ma) := ⟨_, by omega, HA11.out⟩
          obtain ⟨yl, HYy⟩ : ∃ yl, Hid (ys.length = yl) := ⟨_, rfl⟩
          clear hyl hLl
          go_wp2_with (at_builtin; refine wpList_append_is rfl _ _ rfl w8.heap.size k u9 u11 (xs.map (Value.int .i64)) ys w10.heap.size rfl rfl HO11.out HO11c.out (by rw [HYl.out]; omega) hb8s ?_; intro ad' cap' w12 hown hg; rw [HYy.out] at hown; rw [HYy.out]; have HS12 := hid (And.intro hown hg); clear hown hg)
          have HA12 := hid (HAc.out.far (grown_kept HS12.out.2) (fun y hy => by
            have h1 := (HF11.out y hy).2
            rcases Nat.lt_or_ge (Ca7 y) 2000 with q | q
            · have := HA7.out.lt y q; have := Hs78.out; omega
            · exact q) (fun y hy => by
            have h1 := (HF11.out y hy).2
            have h2 := HBb8.out.bel.size
            omega))
          have HB12 := hid (HBc.out.far (grown_kept HS12.out.2) (fun y hy => (HF11.out y hy).1) (fun y hy => by
            have h1 := (HF11.out y hy).2
            have h2 := HBb8.out.bel.size
            omega))
          have HI1 : Hid (IsSl w12 u7 LA) := by
            have h1 := own_kept HO11a.out (grown_kept HS12.out.2) (fun g hg e => by have h1 := (HFa.out g hg).2; have h2 := (HF11.out g e).2; omega)
            exact IsSl.owned (by rw [HLl.out]; exact h1) (by rw [HLl.out]; unfold maxLen; omega)
          have HI2 : Hid (IsSl w12 (.slice ad' (k + yl) cap') LA) := by
            refine IsSl.owned (base := w8.heap.size) ?_ (by rw [HLl.out]; unfold maxLen; omega)
            have e1 : LA.length = k + yl := by rw [HLl.out, ← HYy.out, HYl.out]; omega
            rw [e1, HLe.out, List.map_append]
            exact HS12.out.1
          have HSI := hid (sameI_yes u7 _ LA w12 HI1.out HI2.out (by rw [HLl.out]; omega))
          go_wp2_with fail
          refine HSI.out.mono ?_
          rintro e w13 ⟨rfl, hb13⟩
          have HA13 := hid (HA12.out.later hb13)
          have HB13 := hid (HB12.out.later hb13)
          have HFl := hid (flying_any HA13.out (by omega))
          rw [key_xb HKa.out] at HFl
          clear hb13
          go_wp2_with fail
          refine HFl.out.mono ?_
          rintro e w14 ⟨v14, rfl, ho14, hb14⟩
          have HA14 := hid (HA13.out.later hb14)
          have HB14 := hid (HB13.out.later hb14)
          have HO14 := hid ho14
          have HFl2 := hid (flying_any HB14.out (by omega))
          rw [key_xb HKb11.out] at HFl2
          clear ho14 hb14
          go_wp2_with fail
          refine HFl2.out.mono ?_
          rintro e w15 ⟨v15, rfl, ho15, hb15⟩
          have HA15 := hid (HA14.out.later hb15)
          have HB15 := hid (HB14.out.later hb15)
          have HSF := hid (same_long v14 v15 VV.fly w15 ((IsFr.owned HO14.out).later hb15) (IsFr.owned ho15) (by have := HA15.out.inv.fl; omega))
          clear ho15 hb15
          go_wp2_with fail
          refine HSF.out.mono ?_
          rintro e w16 ⟨rfl, hb16⟩
          have HA16 := hid (HA15.out.later hb16)
          have HB16 := hid (HB15.out.later hb16)
          have HEv := hid (events_any HA16.out)
          rw [key_xb HKa.out] at HEv
          have hev := HA16.out.inv.ev
          obtain ⟨E, HEE⟩ : ∃ E, Hid (VV.evs = E) := ⟨_, rfl⟩
          rw [HEE.out] at HEv hev
          clear hb16
          go_wp2_with fail
          refine HEv.out.mono ?_
          rintro e w17 ⟨v17, rfl, ho17, hb17⟩
          obtain ⟨ad17, cap17, rfl, -, -, hel17⟩ := own_el ho17
          have HEl17 := hid hel17
          have HB17 := hid (HB16.out.later hb17)
          have HEv2 := hid (events_any HB17.out)
          rw [key_xb HKb11.out, HEE.out] at HEv2
          clear ho17 hb17 hel17
          go_wp2_with fail
          refine HEv2.out.mono ?_
          rintro e w18 ⟨v18, rfl, ho18, hb18⟩
          obtain ⟨ad18, cap18, rfl, -, -, hel18⟩ := own_el ho18
          have HB18 := hid (HB17.out.later hb18)
          have HEl18 := hid (HEl17.out.later hb18)
          have HBk := hid (backEvents_any ad18 cap18 E w18 hel18 (by omega))
          clear ho18 hb18 hel18
          go_wp2_with fail
          refine HBk.out.mono ?_
          rintro e w19 ⟨ad19, cap19, rfl, hel19, hb19⟩
          have HSE := hid (sameEvents_yes ad17 ad19 cap17 cap19 E w19 (HEl18.out.later hb19) hel19 (by omega))
          have HB19 := hid (HB18.out.later hb19)
          clear hel19 hb19
          go_wp2_with fail
          refine HSE.out.mono ?_
          rintro e w20 ⟨rfl, hb20⟩
          have HB20 := hid (below_trans HB2.out (below_trans HB19.out.bel hb20))
          clear hb20
          go_wp2_with fail
          go_ret
          exact ⟨rfl, HB20.out⟩
  · obtain ⟨c, hc⟩ : ∃ c, errW zs = c := ⟨_, rfl⟩
    have k0 : (0 : Int) < (c : Int) := by omega
    go_enter Tryz.func10, Tryz.ntmps10
    go_wp2_with fail
    refine (born_any A w HE.out).mono ?_
    rintro e w1 ⟨rfl, hb⟩
    have HB1 := hid hb
    have HWe := hid (rErr_any _ zs w1 (HV.out.later hb))
    rw [hc] at HWe
    clear hb
    go_wp2_with fail
    refine HWe.out.mono ?_
    rintro e w2 ⟨rfl, hx⟩
    subst w2
    go_wp2_with fail
    go_ret
    exact ⟨rfl, HB1.out⟩
end Go.Proofs.YtadhpkopkkjmfaaGreatDoor
