/-
  On the way to WStepsProof: Q2 Q3 Q4 TB TD Q5.
-/
import Derived.Test.YtbaamegnmeohoacGreatDoorBs12
import Derived.Test.YtbaamegnmeohoacGreatDoorBs2
import Derived.Laws.EntriesVeiled
import Derived.Deep.Slices
namespace Go.Proofs.YtbaamegnmeohoacGreatDoor
open Go.RowKit
theorem gW_lt {w : World} {A : Nat → Addr} (h : Held3 w A) (i : Nat) : gW i < w.heap.size := by
  match i with
  | 0 => exact cell_lt (h 3 (by omega) (by omega))
  | 1 => exact cell_lt (h 1 (by omega) (by omega))
  | 2 => exact cell_lt (h 2 (by omega) (by omega))
  | n + 3 => exact cell_lt (h 3 (by omega) (by omega))
theorem Held3.kept {S : Nat → Prop} {w w' : World} {A : Nat → Addr} (h : Held3 w A) (k : Kept S w w') (hS : ∀ i, S i → ∀ j, gW j < i) : Held3 w' A := fun i h1 h3 => by
  have := h i h1 h3
  have hb : gW i < w.heap.size := cell_lt this
  unfold World.cell? at this ⊢
  rw [show w'.heap[(⟨gW i, 0, none⟩ : Addr).block]? = w.heap[(⟨gW i, 0, none⟩ : Addr).block]? from k.block _ hb (fun hs => Nat.lt_irrefl _ (hS (gW i) hs i))]
  exact this
section
variable {w : World} {lb b cap id : Nat} {deal att : Int} {zs : List Int} {P : PL}
set_option maxRecDepth 100000 in
theorem lddecide_any (p : Int) (h : LD w lb b cap id deal att zs P) (hn : zs.length ≤ 7) :
    Calls Tryz.prog 231 #[.pointer (some ⟨lb, 0, none⟩), .int .i64 p] w fun e w' => ∃ v, e = .returned v ∧ FrB w.heap.size w' v (outL id deal att zs.length (decP P p).2) ∧ LD w' lb b cap id deal att zs (decP P p).1 ∧ Kept (In1 lb) w w' := by
  have z4 := h.fz 4
  have c4 := h.cells.2.2.2.2.1
  have HX := hid (h.setSt 2)
  have HK : Hid (Kept (In1 lb) w (w.setCell ⟨lb, 4, none⟩ (.string (stP 2)))) := (Kept.refl _ _).set1 4 _
  have hlb : lb < w.heap.size := row_ltJ h.row
  clear h
  rw [stP2] at HX HK
  go_enter Tryz.func231, Tryz.ntmps231
  go_wp2_with fail
  refine (ldtoAll_any lb b cap id deal att zs _ 7 p _ HX.out hn).mono ?_
  rintro e w1 ⟨v, rfl, ho, hb⟩
  have HV := hid (ho.mono HK.out.size)
  have HR := hid (HX.out.later hb)
  have HK2 := hid (HK.out.trans (Kept.of_below hb))
  clear ho hb
  go_wp2_with fail
  go_ret
  exact ⟨_, rfl, HV.out, HR.out, HK2.out⟩
set_option maxRecDepth 100000 in
theorem ldprepare_any (p : Int) (h : LD w lb b cap id deal att zs P) (hn : zs.length ≤ 7) :
    Calls Tryz.prog 232 #[.pointer (some ⟨lb, 0, none⟩), .int .i64 p] w fun e w' => ∃ v, e = .returned v ∧ FrB w.heap.size w' v (outL id deal att zs.length (preP P p).2) ∧ LD w' lb b cap id deal att zs (preP P p).1 ∧ Kept (In1 lb) w w' := by
  have z4 := h.fz 4
  have z5 := h.fz 5
  have z27 := h.fz 27
  obtain ⟨c0, c1, c2, c3, c4, c5, c27, c28, c29⟩ := h.cells
  have HX := hid (((h.setSt 1).setPrep p).setAns 0 (Int.le_refl _) (Int.pow_pos (by decide)))
  have HK : Hid (Kept (In1 lb) w (((w.setCell ⟨lb, 4, none⟩ (.string (stP 1))).setCell ⟨lb, 27, none⟩ (.int .i64 p)).setCell ⟨lb, 5, none⟩ (.int .i64 0))) := (((Kept.refl _ _).set1 4 _).set1 27 _).set1 5 _
  have hlb : lb < w.heap.size := row_ltJ h.row
  clear h
  rw [stP1] at HX HK
  go_enter Tryz.func232, Tryz.ntmps232
  go_wp2_with fail
  refine (ldtoAll_any lb b cap id deal att zs _ 5 p _ HX.out hn).mono ?_
  rintro e w1 ⟨v, rfl, ho, hb⟩
  have HV := hid (ho.mono HK.out.size)
  have HR := hid (HX.out.later hb)
  have HK2 := hid (HK.out.trans (Kept.of_below hb))
  clear ho hb
  go_wp2_with fail
  go_ret
  exact ⟨_, rfl, HV.out, HR.out, HK2.out⟩
theorem enough_ok_is (A : Nat → Addr) (v : Value) (zs : List Int) (set : Int) (x : Bool) (w : World) (hv : IsSl w v zs) (hE : Held3 w A) (hc : errS zs set = 0) (hx : enoughB zs set = x) :
    Calls Tryz.prog 251 #[v, .int .i64 set] w fun e w' => e = .returned (.tuple #[.bool x, .nilIface]) ∧ Below w.heap.size w w' := by
  subst hx; exact enough_ok A v zs set w hv hE hc
set_option maxRecDepth 100000 in
theorem ldenough_is (A : Nat → Addr) (x : Bool) (h : LD w lb b cap id deal att zs P) (he : errW zs = 0) (hE : Held3 w A) (hx : enoughB zs P.ans = x) :
    Calls Tryz.prog 233 #[.pointer (some ⟨lb, 0, none⟩)] w fun e w' => e = .returned (.bool x) ∧ Below w.heap.size w w' := by
  obtain ⟨h1, h2, h3, h4⟩ := errW_zero he
  obtain ⟨c0, c1, c2, c3, c4, c5, c27, c28, c29⟩ := h.cells
  have HS := hid (h.sl h2)
  have HC : Hid (errS zs P.ans = 0) := errS_mk he h.pw.lo h.pw.hi
  have HE := hid hE
  have HX := hid hx
  clear h h1 h3 h4 hE he hx
  go_enter Tryz.func233, Tryz.ntmps233
  go_wp2_with fail
  have HD : Hid (Below w.heap.size w w.drew) := (Below.refl _ _).drew
  have HS1 := hid (HS.out.later HD.out)
  have HE1 := hid (HE.out.later HD.out)
  go_region_held3 (fun w' => w'.cell? ⟨lb, 3, none⟩ = some (.slice (some ⟨b, 0, none⟩) zs.length cap) ∧ w'.cell? ⟨lb, 5, none⟩ = some (.int .i64 P.ans)) (go_keep) (first | (go_at_call 251; (with_reducible refine (enough_ok_is A _ zs P.ans x _ HS1.out HE1.out HC.out HX.out).mono ?_); rintro e w1 ⟨rfl, hb⟩; have HB := hid (HD.out.trans hb); have hc3 := cell_later hb c3; have hc5 := cell_later hb c5; clear hb))
  all_goals cases x
  all_goals go_wp2_with fail
  all_goals go_ret
  all_goals exact ⟨rfl, HB.out⟩
set_option maxRecDepth 100000 in
theorem ldsee_any (p : Int) (h : LD w lb b cap id deal att zs P) :
    Calls Tryz.prog 191 #[.pointer (some ⟨lb, 0, none⟩), .int .i64 p] w fun e w' => e = .returned (.tuple #[]) ∧ LD w' lb b cap id deal att zs (seeP P p) ∧ Kept (In1 lb) w w' := by
  have z28 := h.fz 28
  have z29 := h.fz 29
  obtain ⟨c0, c1, c2, c3, c4, c5, c27, c28, c29⟩ := h.cells
  have HX := hid ((h.setSeen p).setHas true)
  have HK : Hid (Kept (In1 lb) w ((w.setCell ⟨lb, 28, none⟩ (.int .i64 p)).setCell ⟨lb, 29, none⟩ (.bool true))) := ((Kept.refl _ _).set1 28 _).set1 29 _
  have HP := hid h
  have hlb : lb < w.heap.size := row_ltJ h.row
  clear h
  obtain ⟨hv, HV⟩ : ∃ x, Hid (P.has = x) := ⟨_, rfl⟩
  rw [HV.out] at c29
  obtain ⟨sn, HSn⟩ : ∃ x, Hid (P.seen = x) := ⟨_, rfl⟩
  rw [HSn.out] at c28
  by_cases g : hv = false ∨ sn < p
  · have HQ : Hid (seeP P p = { P with seen := p, has := true }) := by unfold Hid seeP; rw [HV.out, HSn.out]; exact if_pos g
    rw [HQ.out]
    cases hv with
    | false =>
      go_enter Tryz.func191, Tryz.ntmps191
      go_wp2_with fail
      go_end0
      exact ⟨rfl, HX.out, HK.out⟩
    | true =>
      have g2 : sn < p := by rcases g with g | g; · cases g
                             · exact g
      go_enter Tryz.func191, Tryz.ntmps191
      go_wp2_with fail
      go_end0
      exact ⟨rfl, HX.out, HK.out⟩
  · have HQ : Hid (seeP P p = P) := by unfold Hid seeP; rw [HV.out, HSn.out]; exact if_neg g
    rw [HQ.out]
    have hv1 : hv = true := by
      cases hv with
      | true => rfl
      | false => exact absurd (Or.inl rfl) g
    have g2 : ¬ sn < p := fun x => g (.inr x)
    subst hv1
    clear g
    go_enter Tryz.func191, Tryz.ntmps191
    go_wp2_with fail
    go_end0
    exact ⟨rfl, HP.out, Kept.refl _ _⟩
end
section
variable {w : World} {lb b cap id : Nat} {deal att : Int} {zs : List Int} {P : PL}
set_option maxRecDepth 100000 in
theorem ldwaits_any (k : Int) (hs : P.stt < 4) (h : LD w lb b cap id deal att zs P) :
    Calls Tryz.prog 230 #[.pointer (some ⟨lb, 0, none⟩), .int .i64 k] w fun e w' => e = .returned (.bool (waitsB P att k)) ∧ w' = w := by
  obtain ⟨c0, c1, c2, c3, c4, c5, c27, c28, c29⟩ := h.cells
  clear h
  unfold waitsB
  generalize P.stt = q at hs c4 ⊢
  by_cases k2 : k = 2
  · subst k2
    match q, hs with
    | 0, _ =>
      rw [stP0] at c4
      by_cases ha : att = 0
      · subst ha
        go_enter Tryz.func230, Tryz.ntmps230
        go_wp2_with fail
        go_ret
        exact ⟨rfl, rfl⟩
      · go_enter Tryz.func230, Tryz.ntmps230
        go_wp2_with fail
        go_ret
        exact ⟨by simp [ha], rfl⟩
    | 1, _ =>
      rw [stP1] at c4
      go_enter Tryz.func230, Tryz.ntmps230
      go_wp2_with fail
      go_ret
      exact ⟨rfl, rfl⟩
    | 2, _ =>
      rw [stP2] at c4
      go_enter Tryz.func230, Tryz.ntmps230
      go_wp2_with fail
      go_ret
      exact ⟨rfl, rfl⟩
    | 3, _ =>
      rw [stP3] at c4
      go_enter Tryz.func230, Tryz.ntmps230
      go_wp2_with fail
      go_ret
      exact ⟨rfl, rfl⟩
  · by_cases k4 : k = 4
    · subst k4
      match q, hs with
      | 0, _ =>
        rw [stP0] at c4
        by_cases ha : 0 < att
        · go_enter Tryz.func230, Tryz.ntmps230
          go_wp2_with fail
          go_ret
          exact ⟨by simp [ha], rfl⟩
        · go_enter Tryz.func230, Tryz.ntmps230
          go_wp2_with fail
          go_ret
          exact ⟨by simp [ha], rfl⟩
      | 1, _ =>
        rw [stP1] at c4
        go_enter Tryz.func230, Tryz.ntmps230
        go_wp2_with fail
        go_ret
        exact ⟨rfl, rfl⟩
      | 2, _ =>
        rw [stP2] at c4
        go_enter Tryz.func230, Tryz.ntmps230
        go_wp2_with fail
        go_ret
        exact ⟨rfl, rfl⟩
      | 3, _ =>
        rw [stP3] at c4
        go_enter Tryz.func230, Tryz.ntmps230
        go_wp2_with fail
        go_ret
        exact ⟨rfl, rfl⟩
    · by_cases k6 : k = 6
      · subst k6
        match q, hs with
        | 0, _ =>
          rw [stP0] at c4
          go_enter Tryz.func230, Tryz.ntmps230
          go_wp2_with fail
          go_ret
          exact ⟨rfl, rfl⟩
        | 1, _ =>
          rw [stP1] at c4
          go_enter Tryz.func230, Tryz.ntmps230
          go_wp2_with fail
          go_ret
          exact ⟨rfl, rfl⟩
        | 2, _ =>
          rw [stP2] at c4
          go_enter Tryz.func230, Tryz.ntmps230
          go_wp2_with fail
          go_ret
          exact ⟨rfl, rfl⟩
        | 3, _ =>
          rw [stP3] at c4
          go_enter Tryz.func230, Tryz.ntmps230
          go_wp2_with fail
          go_ret
          exact ⟨rfl, rfl⟩
      · go_enter Tryz.func230, Tryz.ntmps230
        go_wp2_with fail
        go_ret
        exact ⟨by simp [k2, k4, k6], rfl⟩
end
theorem bit_and0 {s : Int} (k : Nat) (h0 : 0 ≤ s) (h1 : s < 9223372036854775808) : (bits BinOp.and IntKind.i64 (s / 2 ^ k) 1 == 0) = !bit s k := by
  obtain ⟨m, rfl⟩ := Int.eq_ofNat_of_zero_le h0
  have e : ((m : Int) / 2 ^ k) = ((m / 2 ^ k : Nat) : Int) := by simp
  have hlt : m / 2 ^ k < 9223372036854775808 := Nat.lt_of_le_of_lt (Nat.div_le_self _ _) (by omega)
  rw [e, show (1 : Int) = ((1 : Nat) : Int) from rfl, bits_and_nat _ 1 hlt (by decide), Nat.and_one_is_mod]
  unfold bit
  rw [Int.toNat_natCast, Nat.testBit_eq_decide_div_mod_eq, Bool.eq_iff_iff]
  simp; omega
section
variable {w : World} {lb b cap id : Nat} {deal att : Int} {zs : List Int} {P : PL}
theorem ldwaits_is (k : Int) (x : Bool) (hs : P.stt < 4) (h : LD w lb b cap id deal att zs P) (hx : waitsB P att k = x) :
    Calls Tryz.prog 230 #[.pointer (some ⟨lb, 0, none⟩), .int .i64 k] w fun e w' => e = .returned (.bool x) ∧ w' = w := by
  subst hx; exact ldwaits_any k hs h
theorem tk_ids {n : Nat} {f : F9} (h : ¬ (f.t = id ∧ f.d = deal ∧ f.a = att)) : takesB n id deal att P f = false := by
  unfold takesB; rw [decide_eq_false h]; rfl
theorem tk_wait {n : Nat} {f : F9} (h : waitsB P att f.k = false) : takesB n id deal att P f = false := by
  unfold takesB; rw [h]; simp
theorem tk_from {n : Nat} {f : F9} (h : ¬ (0 ≤ f.f ∧ f.f < n)) : takesB n id deal att P f = false := by
  unfold takesB; rw [decide_eq_false h]; simp
theorem tk_in {n : Nat} {f : F9} (h : f.t = id ∧ f.d = deal ∧ f.a = att) (h2 : waitsB P att f.k = true) (h3 : 0 ≤ f.f ∧ f.f < n) : takesB n id deal att P f = !bit P.ans f.f.toNat := by
  unfold takesB; rw [decide_eq_true h, h2, decide_eq_true h3]; rfl
set_option maxHeartbeats 4000000 in
set_option maxRecDepth 100000 in
theorem ldtakes_any (f t d k a : Int) (y : Bool) (p1 p2 p3 : Int) (hn : zs.length ≤ 7) (hs : P.stt < 4) (h : LD w lb b cap id deal att zs P) :
    Calls Tryz.prog 189 #[.pointer (some ⟨lb, 0, none⟩), frV f t d k a y p1 p2 p3] w fun e w' => e = .returned (.bool (takesB zs.length id deal att P ⟨f, t, d, k, a, y, p1, p2, p3⟩)) ∧ Below w.heap.size w w' := by
  obtain ⟨W, HW⟩ : ∃ W, Hid (w.alloc (.cells #[.int .i64 f, .int .i64 t, .int .i64 d, .int .i64 k, .int .i64 a, .bool y, .int .i64 p1, .int .i64 p2, .int .i64 p3] 130) = W) := ⟨_, rfl⟩
  have HB : Hid (Below w.heap.size w W) := by rw [← HW.out]; exact (Below.refl _ _).alloc (Nat.le_refl _) _
  have HR : Hid (W.heap[w.heap.size]? = some (.cells #[.int .i64 f, .int .i64 t, .int .i64 d, .int .i64 k, .int .i64 a, .bool y, .int .i64 p1, .int .i64 p2, .int .i64 p3] 130 (0, 0))) := by rw [← HW.out]; exact heap_alloc_new w _
  have HX := hid (h.later HB.out)
  obtain ⟨b0, b1, b2, b3, b4, b5, b6, b7, b8⟩ := nine HR.out
  obtain ⟨c0, c1, c2, c3, c4, c5, c27, c28, c29⟩ := HX.out.cells
  have hW := HW.out
  have HPW := hid h.pw
  have HST := hid hs
  clear h hs
  obtain ⟨r, HR2⟩ : ∃ r, Hid (takesB zs.length id deal att P ⟨f, t, d, k, a, y, p1, p2, p3⟩ = r) := ⟨_, rfl⟩
  rw [HR2.out]
  by_cases g1 : t = (id : Int)
  · by_cases g2 : d = deal
    · by_cases g3 : a = att
      · subst g1; subst g2; subst g3
        obtain ⟨x, HWt⟩ : ∃ x, Hid (waitsB P a k = x) := ⟨_, rfl⟩
        cases x with
        | false =>
          obtain rfl : r = false := HR2.out.symm.trans (tk_wait HWt.out)
          go_enter Tryz.func189, Tryz.ntmps189
          go_wp2_with fail
          go_quiet ((go_at_call 230; exact Calls.quiet_of_same (ldwaits_is k false HST.out (by first | exact HX.out | exact HX.out.later (below_drewN (Below.refl _ _) _)) HWt.out)))
          go_wp2
          go_ret
          exact ⟨rfl, below_drewN HB.out _⟩
        | true =>
          by_cases g4 : f < 0
          · obtain rfl : r = false := HR2.out.symm.trans (tk_from (by show ¬ (0 ≤ f ∧ f < (zs.length : Int)); omega))
            have g4x : decide (0 ≤ f) = false := decide_eq_false (by omega)
            go_enter Tryz.func189, Tryz.ntmps189
            go_wp2_with fail
            go_quiet ((go_at_call 230; exact Calls.quiet_of_same (ldwaits_is k true HST.out (by first | exact HX.out | exact HX.out.later (below_drewN (Below.refl _ _) _)) HWt.out)))
            go_wp2
            go_quiet (fail)
            go_wp2
            go_ret
            exact ⟨rfl, below_drewN (below_drewN HB.out _) _⟩
          · obtain ⟨m, rfl⟩ := Int.eq_ofNat_of_zero_le (show 0 ≤ f by omega)
            by_cases g5 : (m : Int) < (zs.length : Int)
            · obtain rfl : r = !bit P.ans m := HR2.out.symm.trans (tk_in ⟨rfl, rfl, rfl⟩ HWt.out ⟨by show 0 ≤ (m : Int); omega, g5⟩)
              have hp := (pow_le7 hn).1
              have h1 := HPW.out.lo
              have h2 := HPW.out.hi
              have hbit : Hid ((bits BinOp.and IntKind.i64 (P.ans / 2 ^ m) 1 == 0) = !bit P.ans m) := bit_and0 m h1 (by omega)
              have hm7 : m < 7 := by omega
              go_enter Tryz.func189, Tryz.ntmps189
              go_wp2_with fail
              go_quiet ((go_at_call 230; exact Calls.quiet_of_same (ldwaits_is k true HST.out (by first | exact HX.out | exact HX.out.later (below_drewN (Below.refl _ _) _)) HWt.out)))
              go_wp2
              go_quiet (fail)
              go_wp2
              go_ret
              exact ⟨congrArg (fun z => Ending.returned (.bool z)) hbit.out, below_drewN (below_drewN HB.out _) _⟩
            · obtain rfl : r = false := HR2.out.symm.trans (tk_from (by show ¬ (0 ≤ (m : Int) ∧ (m : Int) < (zs.length : Int)); omega))
              have g5' : ¬ m < zs.length := by omega
              go_enter Tryz.func189, Tryz.ntmps189
              go_wp2_with fail
              go_quiet ((go_at_call 230; exact Calls.quiet_of_same (ldwaits_is k true HST.out (by first | exact HX.out | exact HX.out.later (below_drewN (Below.refl _ _) _)) HWt.out)))
              go_wp2
              go_quiet (fail)
              go_wp2
              go_ret
              exact ⟨rfl, below_drewN (below_drewN HB.out _) _⟩
      · obtain rfl : r = false := HR2.out.symm.trans (tk_ids (fun x => g3 x.2.2))
        have e3 : (a != att) = true := bne_iff_ne.2 g3
        subst g1; subst g2
        go_enter Tryz.func189, Tryz.ntmps189
        go_wp2_with fail
        go_quiet (fail)
        go_wp2
        go_ret
        exact ⟨rfl, below_drewN HB.out _⟩
    · obtain rfl : r = false := HR2.out.symm.trans (tk_ids (fun x => g2 x.2.1))
      have e2 : (d != deal) = true := bne_iff_ne.2 g2
      subst g1
      go_enter Tryz.func189, Tryz.ntmps189
      go_wp2_with fail
      go_quiet (fail)
      go_wp2
      go_ret
      exact ⟨rfl, below_drewN HB.out _⟩
  · obtain rfl : r = false := HR2.out.symm.trans (tk_ids (fun x => g1 x.1))
    have e1 : (t != (id : Int)) = true := bne_iff_ne.2 g1
    go_enter Tryz.func189, Tryz.ntmps189
    go_wp2_with fail
    go_quiet (fail)
    go_wp2
    go_ret
    exact ⟨rfl, below_drewN HB.out _⟩
end
set_option maxHeartbeats 1000000 in
set_option maxRecDepth 100000 in
theorem greatest_any (pb : Nat) (a : Option Addr) (cap : Nat) (L : List S3) (ph : Int) (w : World) (hp : w.cell? ⟨pb, 0, none⟩ = some (.slice a L.length cap)) (hl : L.length ≤ 200) (hL : SL w a L) :
    Calls Tryz.prog 252 #[.int .i64 ph, .pointer (some ⟨pb, 0, none⟩)] w fun e w' => e = .returned (.tuple #[.int .i64 (gr ph L).1, .bool (gr ph L).2]) ∧ Below w.heap.size w w' := by
  have HX := hid hL
  have HT : Hid (gr ph (L.take L.length) = gr ph L) := by unfold Hid; rw [List.take_length]
  clear hL
  go_enter Tryz.func252, Tryz.ntmps252
  go_wp2_with fail
  go_loopw [3, 4, 9] (fun m is i wr => ∃ k : Nat, k ≤ L.length ∧ m = .int .i64 (gr ph (L.take k)).1 ∧ is = .bool (gr ph (L.take k)).2 ∧ i = .int .i64 (k : Int) ∧ Below w.heap.size w wr) (fun _ _ i _ => L.length - (intOf i).toNat)
  case atStart => exact ⟨0, Nat.zero_le _, rfl, rfl, rfl, Below.refl _ _⟩
  case round =>
    obtain ⟨k, hk, rfl, rfl, rfl, hb⟩ := hrel
    have HB := hid hb
    by_cases hlt : k < L.length
    · have HG := hid (gr_take ph L k hlt)
      obtain ⟨b, o, rfl, y0, y1, y2⟩ := HX.out k hlt
      obtain ⟨⟨sp, sr, sa⟩, HS⟩ : ∃ s, Hid (L[k]'hlt = s) := ⟨_, rfl⟩
      rw [HS.out] at y0 y1 y2 HG
      replace y0 := cell_later hb y0
      replace y1 := cell_later hb y1
      replace y2 := cell_later hb y2
      obtain ⟨⟨m, is⟩, HM⟩ : ∃ x, Hid (gr ph (L.take k) = x) := ⟨_, rfl⟩
      rw [HM.out] at HG ⊢
      have HBn : ∀ o, Hid (Below w.heap.size w (wr.alloc o)) := fun o => hid (HB.out.alloc HB.out.size o)
      clear hb HS HM
      by_cases h1 : sp = ph
      · subst h1
        cases is with
        | false =>
          have G : Hid (gr sp (L.take (k + 1)) = (sa, true)) := by unfold Hid; rw [HG.out]; unfold grS; exact if_pos ⟨rfl, .inl rfl⟩
          clear HG
          go_wp2_with fail
          go_roundw
          case rel => exact ⟨k + 1, by omega, by rw [G.out], by rw [G.out], by go_num, (HBn _).out⟩
          case measure => simp [intOf]; omega
        | true =>
          by_cases h2 : m < sa
          · have G : Hid (gr sp (L.take (k + 1)) = (sa, true)) := by unfold Hid; rw [HG.out]; unfold grS; exact if_pos ⟨rfl, .inr h2⟩
            clear HG
            go_wp2_with fail
            go_roundw
            case rel => exact ⟨k + 1, by omega, by rw [G.out], by rw [G.out], by go_num, (HBn _).out⟩
            case measure => simp [intOf]; omega
          · have G : Hid (gr sp (L.take (k + 1)) = (m, true)) := by
              unfold Hid; rw [HG.out]; unfold grS
              exact if_neg (fun h => h.2.elim (fun h => by cases h) h2)
            clear HG
            go_wp2_with fail
            go_roundw
            case rel => exact ⟨k + 1, by omega, by rw [G.out], by rw [G.out], by go_num, (HBn _).out⟩
            case measure => simp [intOf]; omega
      · have G : Hid (gr ph (L.take (k + 1)) = (m, is)) := by unfold Hid; rw [HG.out]; unfold grS; exact if_neg (fun h => h1 h.1)
        clear HG
        go_wp2_with fail
        go_roundw
        case rel => exact ⟨k + 1, by omega, by rw [G.out], by rw [G.out], by go_num, (HBn _).out⟩
        case measure => simp [intOf]; omega
    · obtain rfl : k = L.length := by omega
      rw [HT.out]
      go_wp2_with fail
      go_ret2
      exact ⟨rfl, HB.out⟩
theorem greatest_is (pb : Nat) (a : Option Addr) (cap : Nat) (L : List S3) (ph m : Int) (is : Bool) (w : World) (hp : w.cell? ⟨pb, 0, none⟩ = some (.slice a L.length cap)) (hl : L.length ≤ 200) (hL : SL w a L) (h : gr ph L = (m, is)) :
    Calls Tryz.prog 252 #[.int .i64 ph, .pointer (some ⟨pb, 0, none⟩)] w fun e w' => e = .returned (.tuple #[.int .i64 m, .bool is]) ∧ Below w.heap.size w w' := by
  have := greatest_any pb a cap L ph w hp hl hL
  rw [h] at this
  exact this
set_option maxHeartbeats 2000000 in
set_option maxRecDepth 100000 in
theorem choose_any (a : Option Addr) (cap : Nat) (L : List S3) (w : World) (hl : L.length ≤ 200) (hL : SL w a L) :
    Calls Tryz.prog 234 #[.slice a L.length cap] w fun e w' => e = .returned (.tuple #[.int .i64 (chooseL L).1, .bool (chooseL L).2]) ∧ Below w.heap.size w w' := by
  have HL := hid hL
  obtain ⟨⟨cp, cf⟩, HC⟩ : ∃ x, Hid (chooseL L = x) := ⟨_, rfl⟩
  rw [HC.out]
  obtain ⟨⟨m2, i2⟩, H2⟩ : ∃ x, Hid (gr 2 L = x) := ⟨_, rfl⟩
  obtain ⟨⟨m3, i3⟩, H3⟩ : ∃ x, Hid (gr 3 L = x) := ⟨_, rfl⟩
  obtain ⟨⟨m4, i4⟩, H4⟩ : ∃ x, Hid (gr 4 L = x) := ⟨_, rfl⟩
  obtain ⟨⟨m5, i5⟩, H5⟩ : ∃ x, Hid (gr 5 L = x) := ⟨_, rfl⟩
  have HD : Hid ((if i2 = true then ((2 : Int), true) else if i3 = true then (3, true) else if i4 = true ∧ (i5 = false ∨ m5 ≤ m4) then (4, false) else (5, false)) = (cp, cf)) := by
    unfold Hid; rw [← HC.out]; unfold chooseL; rw [H2.out, H3.out, H4.out, H5.out]
  clear hL HC
  have hmf : ∀ (fn : Fn) (first cap : Array Value) (w : World), (Instr.makeFunc fn first cap).run Tryz.prog w = .ok (.func fn first cap) w := fun _ _ _ _ => rfl
  go_enter Tryz.func234, Tryz.ntmps234
  go_wp2_with fail
  go_loopw [16] (fun i wr => ∃ k : Nat, k ≤ 2 ∧ i = .int .i64 (k : Int) ∧ (0 < k → i2 = false) ∧ (1 < k → i3 = false) ∧ Below w.heap.size w wr ∧ wr.cell? ⟨w.heap.size, 0, none⟩ = some (.slice a L.length cap) ∧ wr.cell? ⟨w.heap.size + 1, 0, none⟩ = some (.int .i64 2) ∧ wr.cell? ⟨w.heap.size + 1, 1, none⟩ = some (.int .i64 3)) (fun i _ => 2 - (intOf i).toNat)
  case atStart =>
    refine ⟨0, by omega, rfl, by omega, by omega, ((Below.refl _ _).alloc (Nat.le_refl _) _).alloc (by simp) _, ?_, ?_, ?_⟩
    · exact cell_alloc _ (by simp)
    · rw [World.cell?_alloc_at _ _ _ _ (by simp)]; rfl
    · rw [World.cell?_alloc_at _ _ _ _ (by simp)]; rfl
  case round =>
    obtain ⟨k, hk, rfl, hk1, hk2, hb, c0, c1, c2⟩ := hrel
    have HB := hid hb
    have C0 := hid c0
    have C1 := hid c1
    have C2 := hid c2
    have HLw := hid (HL.out.later hb)
    have hlt0 := cell_lt c0
    have hlt1 := cell_lt c1
    clear hb
    rcases (by omega : k = 0 ∨ k = 1 ∨ k = 2) with rfl | rfl | rfl
    · clear hk1 hk2
      cases i2 with
      | true =>
        obtain ⟨rfl, rfl⟩ : (2 : Int) = cp ∧ true = cf := by simpa using HD.out
        clear HD
        go_wp2_with (go_at_call 252; refine (greatest_is w.heap.size a cap L 2 m2 true _ C0.out hl HLw.out H2.out).mono ?_; rintro e w1 ⟨rfl, hb1⟩)
        go_ret2
        exact ⟨rfl, below_trans HB.out hb1⟩
      | false =>
        go_wp2_with (go_at_call 252; refine (greatest_is w.heap.size a cap L 2 m2 false _ C0.out hl HLw.out H2.out).mono ?_; rintro e w1 ⟨rfl, hb1⟩)
        go_roundw
        case rel => exact ⟨1, by omega, by go_num, (by intros; trivial), by omega, below_trans HB.out hb1, cell_later hb1 C0.out, cell_later hb1 C1.out, cell_later hb1 C2.out⟩
        case measure => simp [intOf]
    · obtain rfl := hk1 (by omega)
      clear hk1 hk2
      cases i3 with
      | true =>
        obtain ⟨rfl, rfl⟩ : (3 : Int) = cp ∧ true = cf := by simpa using HD.out
        clear HD
        go_wp2_with (go_at_call 252; refine (greatest_is w.heap.size a cap L 3 m3 true _ C0.out hl HLw.out H3.out).mono ?_; rintro e w1 ⟨rfl, hb1⟩)
        go_ret2
        exact ⟨rfl, below_trans HB.out hb1⟩
      | false =>
        go_wp2_with (go_at_call 252; refine (greatest_is w.heap.size a cap L 3 m3 false _ C0.out hl HLw.out H3.out).mono ?_; rintro e w1 ⟨rfl, hb1⟩)
        go_roundw
        case rel => exact ⟨2, by omega, by go_num, (by intros; trivial), (by intros; trivial), below_trans HB.out hb1, cell_later hb1 C0.out, cell_later hb1 C1.out, cell_later hb1 C2.out⟩
        case measure => simp [intOf]
    · obtain rfl := hk1 (by omega)
      obtain rfl := hk2 (by omega)
      clear hk1 hk2 c0 c1 c2
      have HD2 : Hid ((if i4 = true ∧ (i5 = false ∨ m5 ≤ m4) then ((4 : Int), false) else (5, false)) = (cp, cf)) := by unfold Hid; simpa using HD.out
      clear HD
      cases i4 with
      | false =>
        obtain ⟨rfl, rfl⟩ : (5 : Int) = cp ∧ false = cf := by simpa using HD2.out
        clear HD2
        go_wp2_with (go_at_call 252; first
          | ((with_reducible refine (greatest_is w.heap.size a cap L 5 m5 i5 _ (cell_later hb1 C0.out) hl (HLw.out.later hb1) H5.out).mono ?_); rintro e w2 ⟨rfl, hb2⟩)
          | ((with_reducible refine (greatest_is w.heap.size a cap L 4 m4 false _ C0.out hl HLw.out H4.out).mono ?_); rintro e w1 ⟨rfl, hb1⟩))
        go_ret2
        exact ⟨rfl, below_trans (below_trans HB.out hb1) hb2⟩
      | true =>
        cases i5 with
        | false =>
          obtain ⟨rfl, rfl⟩ : (4 : Int) = cp ∧ false = cf := by simpa using HD2.out
          clear HD2
          go_wp2_with (go_at_call 252; first
            | ((with_reducible refine (greatest_is w.heap.size a cap L 5 m5 false _ (cell_later hb1 C0.out) hl (HLw.out.later hb1) H5.out).mono ?_); rintro e w2 ⟨rfl, hb2⟩)
            | ((with_reducible refine (greatest_is w.heap.size a cap L 4 m4 true _ C0.out hl HLw.out H4.out).mono ?_); rintro e w1 ⟨rfl, hb1⟩))
          go_ret2
          exact ⟨rfl, below_trans (below_trans HB.out hb1) hb2⟩
        | true =>
          by_cases hm : m5 ≤ m4
          · obtain ⟨rfl, rfl⟩ : (4 : Int) = cp ∧ false = cf := by simpa [hm] using HD2.out
            clear HD2
            go_wp2_with (go_at_call 252; first
              | ((with_reducible refine (greatest_is w.heap.size a cap L 5 m5 true _ (cell_later hb1 C0.out) hl (HLw.out.later hb1) H5.out).mono ?_); rintro e w2 ⟨rfl, hb2⟩)
              | ((with_reducible refine (greatest_is w.heap.size a cap L 4 m4 true _ C0.out hl HLw.out H4.out).mono ?_); rintro e w1 ⟨rfl, hb1⟩))
            go_ret2
            exact ⟨rfl, below_trans (below_trans HB.out hb1) hb2⟩
          · obtain ⟨rfl, rfl⟩ : (5 : Int) = cp ∧ false = cf := by simpa [hm] using HD2.out
            clear HD2
            go_wp2_with (go_at_call 252; first
              | ((with_reducible refine (greatest_is w.heap.size a cap L 5 m5 true _ (cell_later hb1 C0.out) hl (HLw.out.later hb1) H5.out).mono ?_); rintro e w2 ⟨rfl, hb2⟩)
              | ((with_reducible refine (greatest_is w.heap.size a cap L 4 m4 true _ C0.out hl HLw.out H4.out).mono ?_); rintro e w1 ⟨rfl, hb1⟩))
            go_ret2
            exact ⟨rfl, below_trans (below_trans HB.out hb1) hb2⟩
section
variable {w : World} {lb b cap id : Nat} {deal att : Int} {zs : List Int} {P : PL}
set_option maxHeartbeats 1000000 in
set_option maxRecDepth 100000 in
theorem ldvote_any (y : Bool) (hn : zs.length ≤ 7) (h : LD w lb b cap id deal att zs P) :
    Calls Tryz.prog 190 #[.pointer (some ⟨lb, 0, none⟩), .bool y] w fun e w' => ∃ v, e = .returned v ∧ FrB w.heap.size w' v (outL id deal att zs.length (voteP zs.length P y).2) ∧ LD w' lb b cap id deal att zs (voteP zs.length P y).1 ∧ Kept (In1 lb) w w' := by
  obtain ⟨c0, c1, c2, c3, c4, c5, c27, c28, c29⟩ := h.cells
  have HX := hid h
  have hp := (pow_le7 hn).1
  have hp2 := (pow_le7 hn).2
  obtain ⟨R, HR⟩ : ∃ R, Hid (voteP zs.length P y = R) := ⟨_, rfl⟩
  have hlb : lb < w.heap.size := row_ltJ h.row
  rw [HR.out]
  clear h
  cases y with
  | false =>
    obtain rfl : R = decP P 3 := HR.out.symm
    go_enter Tryz.func190, Tryz.ntmps190
    go_wp2_with fail
    refine (lddecide_any 3 HX.out hn).mono ?_
    rintro e w1 ⟨v, rfl, ho, hl, hk⟩
    have HV := hid (And.intro ho (And.intro hl hk))
    clear ho hl hk
    go_wp2_with fail
    go_ret
    exact ⟨_, rfl, HV.out⟩
  | true =>
    by_cases g : P.ans = 2 ^ zs.length - 1
    · obtain rfl : R = preP P 4 := by rw [← HR.out]; unfold voteP; rw [if_neg (by decide), if_pos g]
      rw [g] at c5
      go_enter Tryz.func190, Tryz.ntmps190
      go_wp2_with fail
      go_quiet (fail)
      go_wp2_with fail
      refine (ldprepare_any 4 (HX.out.later (below_drewN (Below.refl _ _) _)) hn).mono ?_
      rintro e w1 ⟨v, rfl, ho, hl, hk⟩
      have HV := hid (And.intro (ho.mono (below_drewN (Below.refl w.heap.size w) nq).size) (And.intro hl ((Kept.of_below (below_drewN (Below.refl _ _) nq)).trans hk)))
      clear ho hl hk
      go_wp2_with fail
      go_ret
      exact ⟨_, rfl, HV.out⟩
    · obtain rfl : R = (P, none) := by rw [← HR.out]; unfold voteP; rw [if_neg (by decide), if_neg g]
      have e1 : (P.ans != 2 ^ zs.length - 1) = true := bne_iff_ne.2 g
      go_enter Tryz.func190, Tryz.ntmps190
      go_wp2_with fail
      go_quiet (fail)
      go_wp2_with fail
      go_ret
      exact ⟨_, rfl, FrB.zero _ _, HX.out.later (below_drewN (Below.refl _ _) _), Kept.of_below (below_drewN (Below.refl _ _) _)⟩
set_option maxRecDepth 100000 in
theorem ldack_any (A : Nat → Addr) (he : errW zs = 0) (hE : Held3 w A) (h : LD w lb b cap id deal att zs P) :
    Calls Tryz.prog 193 #[.pointer (some ⟨lb, 0, none⟩)] w fun e w' => ∃ v, e = .returned v ∧ FrB w.heap.size w' v (outL id deal att zs.length (ackP zs P).2) ∧ LD w' lb b cap id deal att zs (ackP zs P).1 ∧ Kept (In1 lb) w w' := by
  obtain ⟨x, HX⟩ : ∃ x, Hid (enoughB zs P.ans = x) := ⟨_, rfl⟩
  obtain ⟨R, HR⟩ : ∃ R, Hid (ackP zs P = R) := ⟨_, rfl⟩
  rw [HR.out]
  have HL := hid h
  have HE := hid hE
  have HZ := hid he
  have hn := (errW_zero he).2.1
  clear h hE he
  go_enter Tryz.func193, Tryz.ntmps193
  go_wp2_with fail
  refine (ldenough_is A x HL.out HZ.out HE.out HX.out).mono ?_
  rintro e w1 ⟨rfl, hb⟩
  have HL1 := hid (HL.out.later hb)
  have HB := hid hb
  clear hb
  have c27 := HL1.out.cells.2.2.2.2.2.2.1
  cases x with
  | false =>
    obtain rfl : R = (P, none) := by rw [← HR.out]; unfold ackP; rw [if_pos HX.out]
    go_wp2_with fail
    go_ret
    exact ⟨_, rfl, FrB.zero _ _, HL1.out, Kept.of_below HB.out⟩
  | true =>
    obtain rfl : R = decP P (afterI P.prep) := by rw [← HR.out]; unfold ackP; rw [if_neg (by rw [HX.out]; decide)]
    go_wp2_with (go_at_call 235; refine (tafter_any P.prep _).mono ?_; rintro e w2 ⟨rfl, rfl⟩)
    refine (lddecide_any (afterI P.prep) HL1.out hn).mono ?_
    rintro e w2 ⟨v, rfl, ho, hl, hk⟩
    have HV := hid (And.intro (ho.mono HB.out.size) (And.intro hl ((Kept.of_below HB.out).trans hk)))
    clear ho hl hk
    go_wp2_with fail
    go_ret
    exact ⟨_, rfl, HV.out⟩
end
end Go.Proofs.YtbaamegnmeohoacGreatDoor
