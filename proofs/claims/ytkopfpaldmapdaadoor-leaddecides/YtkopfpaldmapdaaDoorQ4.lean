/-
  THE PROGRAM's LEAD: takes.
-/
import Derived.Test.YtkopfpaldmapdaaDoorQ3
namespace Go.Proofs.YtkopfpaldmapdaaDoor
open Go.RowKit

theorem bit_and0 {s : Int} (k : Nat) (h0 : 0 ≤ s) (h1 : s < 9223372036854775808) : (bits BinOp.and IntKind.i64 (s / 2 ^ k) 1 == 0) = !bit s k := by
  obtain ⟨m, rfl⟩ := Int.eq_ofNat_of_zero_le h0
  have e : ((m : Int) / 2 ^ k) = ((m / 2 ^ k : Nat) : Int) := by simp
  have hlt : m / 2 ^ k < 9223372036854775808 := Nat.lt_of_le_of_lt (Nat.div_le_self _ _) (by omega)
  rw [e, show (1 : Int) = ((1 : Nat) : Int) from rfl, bits_and_nat _ 1 hlt (by decide), Nat.and_one_is_mod]
  unfold bit
  rw [Int.toNat_natCast, Nat.testBit_eq_decide_div_mod_eq, Bool.eq_iff_iff]
  simp; omega
section
variable {w : World} {lb b cap id : Nat} {deal att : Int} {zs : List Int} {P : PL}
theorem ldwaits_is (k : Int) (x : Bool) (hs : P.stt < 4) (h : LD w lb b cap id deal att zs P) (hx : waitsB P att k = x) :
    Calls Tryd.prog 81 #[.pointer (some ⟨lb, 0, none⟩), .int .i64 k] w fun e w' => e = .returned (.bool x) ∧ w' = w := by
  subst hx; exact ldwaits_any k hs h
theorem tk_ids {n : Nat} {f : F9} (h : ¬ (f.t = id ∧ f.d = deal ∧ f.a = att)) : takesB n id deal att P f = false := by
  unfold takesB; rw [decide_eq_false h]; rfl
theorem tk_wait {n : Nat} {f : F9} (h : waitsB P att f.k = false) : takesB n id deal att P f = false := by
  unfold takesB; rw [h]; simp
theorem tk_from {n : Nat} {f : F9} (h : ¬ (0 ≤ f.f ∧ f.f < n)) : takesB n id deal att P f = false := by
  unfold takesB; rw [decide_eq_false h]; simp
theorem tk_in {n : Nat} {f : F9} (h : f.t = id ∧ f.d = deal ∧ f.a = att) (h2 : waitsB P att f.k = true) (h3 : 0 ≤ f.f ∧ f.f < n) : takesB n id deal att P f = !bit P.ans f.f.toNat := by
  unfold takesB; rw [decide_eq_true h, h2, decide_eq_true h3]; rfl
set_option maxHeartbeats 4000000 in
set_option maxRecDepth 100000 in
theorem ldtakes_any (f t d k a : Int) (y : Bool) (p1 p2 p3 : Int) (hn : zs.length ≤ 7) (hs : P.stt < 4) (h : LD w lb b cap id deal att zs P) :
    Calls Tryd.prog 51 #[.pointer (some ⟨lb, 0, none⟩), frV f t d k a y p1 p2 p3] w fun e w' => e = .returned (.bool (takesB zs.length id deal att P ⟨f, t, d, k, a, y, p1, p2, p3⟩)) ∧ Below w.heap.size w w' := by
  obtain ⟨W, HW⟩ : ∃ W, Hid (w.alloc (.cells #[.int .i64 f, .int .i64 t, .int .i64 d, .int .i64 k, .int .i64 a, .bool y, .int .i64 p1, .int .i64 p2, .int .i64 p3] 36) = W) := ⟨_, rfl⟩
  have HB : Hid (Below w.heap.size w W) := by rw [← HW.out]; exact (Below.refl _ _).alloc (Nat.le_refl _) _
  have HR : Hid (W.heap[w.heap.size]? = some (.cells #[.int .i64 f, .int .i64 t, .int .i64 d, .int .i64 k, .int .i64 a, .bool y, .int .i64 p1, .int .i64 p2, .int .i64 p3] 36 (0, 0))) := by rw [← HW.out]; exact heap_alloc_new w _
  have HX := hid (h.later HB.out)
  obtain ⟨b0, b1, b2, b3, b4, b5, b6, b7, b8⟩ := nine HR.out
  obtain ⟨c0, c1, c2, c3, c4, c5, c27, c28, c29⟩ := HX.out.cells
  have hW := HW.out
  have HPW := hid h.pw
  have HST := hid hs
  clear h hs
  obtain ⟨r, HR2⟩ : ∃ r, Hid (takesB zs.length id deal att P ⟨f, t, d, k, a, y, p1, p2, p3⟩ = r) := ⟨_, rfl⟩
  rw [HR2.out]
  by_cases g1 : t = (id : Int)
  · by_cases g2 : d = deal
    · by_cases g3 : a = att
      · subst g1; subst g2; subst g3
        obtain ⟨x, HWt⟩ : ∃ x, Hid (waitsB P a k = x) := ⟨_, rfl⟩
        cases x with
        | false =>
          obtain rfl : r = false := HR2.out.symm.trans (tk_wait HWt.out)
          go_enter Tryd.func51, Tryd.ntmps51
          go_wp2_with fail
          go_quiet ((go_at_call 81; exact Calls.quiet_of_same (ldwaits_is k false HST.out (by first | exact HX.out | exact HX.out.later (below_drewN (Below.refl _ _) _)) HWt.out)))
          go_wp2
          go_ret
          exact ⟨rfl, below_drewN HB.out _⟩
        | true =>
          by_cases g4 : f < 0
          · obtain rfl : r = false := HR2.out.symm.trans (tk_from (by show ¬ (0 ≤ f ∧ f < (zs.length : Int)); omega))
            have g4x : decide (0 ≤ f) = false := decide_eq_false (by omega)
            go_enter Tryd.func51, Tryd.ntmps51
            go_wp2_with fail
            go_quiet ((go_at_call 81; exact Calls.quiet_of_same (ldwaits_is k true HST.out (by first | exact HX.out | exact HX.out.later (below_drewN (Below.refl _ _) _)) HWt.out)))
            go_wp2
            go_quiet (fail)
            go_wp2
            go_ret
            exact ⟨rfl, below_drewN (below_drewN HB.out _) _⟩
          · obtain ⟨m, rfl⟩ := Int.eq_ofNat_of_zero_le (show 0 ≤ f by omega)
            by_cases g5 : (m : Int) < (zs.length : Int)
            · obtain rfl : r = !bit P.ans m := HR2.out.symm.trans (tk_in ⟨rfl, rfl, rfl⟩ HWt.out ⟨by show 0 ≤ (m : Int); omega, g5⟩)
              have hp := (pow_le7 hn).1
              have h1 := HPW.out.lo
              have h2 := HPW.out.hi
              have hbit : Hid ((bits BinOp.and IntKind.i64 (P.ans / 2 ^ m) 1 == 0) = !bit P.ans m) := bit_and0 m h1 (by omega)
              have hm7 : m < 7 := by omega
              go_enter Tryd.func51, Tryd.ntmps51
              go_wp2_with fail
              go_quiet ((go_at_call 81; exact Calls.quiet_of_same (ldwaits_is k true HST.out (by first | exact HX.out | exact HX.out.later (below_drewN (Below.refl _ _) _)) HWt.out)))
              go_wp2
              go_quiet (fail)
              go_wp2
              go_ret
              exact ⟨congrArg (fun z => Ending.returned (.bool z)) hbit.out, below_drewN (below_drewN HB.out _) _⟩
            · obtain rfl : r = false := HR2.out.symm.trans (tk_from (by show ¬ (0 ≤ (m : Int) ∧ (m : Int) < (zs.length : Int)); omega))
              have g5' : ¬ m < zs.length := by omega
              go_enter Tryd.func51, Tryd.ntmps51
              go_wp2_with fail
              go_quiet ((go_at_call 81; exact Calls.quiet_of_same (ldwaits_is k true HST.out (by first | exact HX.out | exact HX.out.later (below_drewN (Below.refl _ _) _)) HWt.out)))
              go_wp2
              go_quiet (fail)
              go_wp2
              go_ret
              exact ⟨rfl, below_drewN (below_drewN HB.out _) _⟩
      · obtain rfl : r = false := HR2.out.symm.trans (tk_ids (fun x => g3 x.2.2))
        have e3 : (a != att) = true := bne_iff_ne.2 g3
        subst g1; subst g2
        go_enter Tryd.func51, Tryd.ntmps51
        go_wp2_with fail
        go_quiet (fail)
        go_wp2
        go_ret
        exact ⟨rfl, below_drewN HB.out _⟩
    · obtain rfl : r = false := HR2.out.symm.trans (tk_ids (fun x => g2 x.2.1))
      have e2 : (d != deal) = true := bne_iff_ne.2 g2
      subst g1
      go_enter Tryd.func51, Tryd.ntmps51
      go_wp2_with fail
      go_quiet (fail)
      go_wp2
      go_ret
      exact ⟨rfl, below_drewN HB.out _⟩
  · obtain rfl : r = false := HR2.out.symm.trans (tk_ids (fun x => g1 x.1))
    have e1 : (t != (id : Int)) = true := bne_iff_ne.2 g1
    go_enter Tryd.func51, Tryd.ntmps51
    go_wp2_with fail
    go_quiet (fail)
    go_wp2
    go_ret
    exact ⟨rfl, below_drewN HB.out _⟩
end
end Go.Proofs.YtkopfpaldmapdaaDoor
