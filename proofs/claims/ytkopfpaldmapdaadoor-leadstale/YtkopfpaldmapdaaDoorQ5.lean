/-
  THE PROGRAM's LEAD: hearVote, hearAck, hearTell.
-/
import Derived.Test.YtkopfpaldmapdaaDoorQ4
import Derived.Test.YtkopfpaldmapdaaDoorTD
namespace Go.Proofs.YtkopfpaldmapdaaDoor
open Go.RowKit

section
variable {w : World} {lb b cap id : Nat} {deal att : Int} {zs : List Int} {P : PL}
set_option maxHeartbeats 1000000 in
set_option maxRecDepth 100000 in
theorem ldvote_any (y : Bool) (hn : zs.length ≤ 7) (h : LD w lb b cap id deal att zs P) :
    Calls Tryd.prog 52 #[.pointer (some ⟨lb, 0, none⟩), .bool y] w fun e w' => ∃ v, e = .returned v ∧ FrB w.heap.size w' v (outL id deal att zs.length (voteP zs.length P y).2) ∧ LD w' lb b cap id deal att zs (voteP zs.length P y).1 ∧ Kept (In1 lb) w w' := by
  obtain ⟨c0, c1, c2, c3, c4, c5, c27, c28, c29⟩ := h.cells
  have HX := hid h
  have hp := (pow_le7 hn).1
  have hp2 := (pow_le7 hn).2
  obtain ⟨R, HR⟩ : ∃ R, Hid (voteP zs.length P y = R) := ⟨_, rfl⟩
  have hlb : lb < w.heap.size := row_ltJ h.row
  rw [HR.out]
  clear h
  cases y with
  | false =>
    obtain rfl : R = decP P 3 := HR.out.symm
    go_enter Tryd.func52, Tryd.ntmps52
    go_wp2_with fail
    refine (lddecide_any 3 HX.out hn).mono ?_
    rintro e w1 ⟨v, rfl, ho, hl, hk⟩
    have HV := hid (And.intro ho (And.intro hl hk))
    clear ho hl hk
    go_wp2_with fail
    go_ret
    exact ⟨_, rfl, HV.out⟩
  | true =>
    by_cases g : P.ans = 2 ^ zs.length - 1
    · obtain rfl : R = preP P 4 := by rw [← HR.out]; unfold voteP; rw [if_neg (by decide), if_pos g]
      rw [g] at c5
      go_enter Tryd.func52, Tryd.ntmps52
      go_wp2_with fail
      go_quiet (fail)
      go_wp2_with fail
      refine (ldprepare_any 4 (HX.out.later (below_drewN (Below.refl _ _) _)) hn).mono ?_
      rintro e w1 ⟨v, rfl, ho, hl, hk⟩
      have HV := hid (And.intro (ho.mono (below_drewN (Below.refl w.heap.size w) nq).size) (And.intro hl ((Kept.of_below (below_drewN (Below.refl _ _) nq)).trans hk)))
      clear ho hl hk
      go_wp2_with fail
      go_ret
      exact ⟨_, rfl, HV.out⟩
    · obtain rfl : R = (P, none) := by rw [← HR.out]; unfold voteP; rw [if_neg (by decide), if_neg g]
      have e1 : (P.ans != 2 ^ zs.length - 1) = true := bne_iff_ne.2 g
      go_enter Tryd.func52, Tryd.ntmps52
      go_wp2_with fail
      go_quiet (fail)
      go_wp2_with fail
      go_ret
      exact ⟨_, rfl, FrB.zero _ _, HX.out.later (below_drewN (Below.refl _ _) _), Kept.of_below (below_drewN (Below.refl _ _) _)⟩
set_option maxRecDepth 100000 in
theorem ldack_any (A : Nat → Addr) (he : errW zs = 0) (hE : Held3 w A) (h : LD w lb b cap id deal att zs P) :
    Calls Tryd.prog 55 #[.pointer (some ⟨lb, 0, none⟩)] w fun e w' => ∃ v, e = .returned v ∧ FrB w.heap.size w' v (outL id deal att zs.length (ackP zs P).2) ∧ LD w' lb b cap id deal att zs (ackP zs P).1 ∧ Kept (In1 lb) w w' := by
  obtain ⟨x, HX⟩ : ∃ x, Hid (enoughB zs P.ans = x) := ⟨_, rfl⟩
  obtain ⟨R, HR⟩ : ∃ R, Hid (ackP zs P = R) := ⟨_, rfl⟩
  rw [HR.out]
  have HL := hid h
  have HE := hid hE
  have HZ := hid he
  have hn := (errW_zero he).2.1
  clear h hE he
  go_enter Tryd.func55, Tryd.ntmps55
  go_wp2_with fail
  refine (ldenough_is A x HL.out HZ.out HE.out HX.out).mono ?_
  rintro e w1 ⟨rfl, hb⟩
  have HL1 := hid (HL.out.later hb)
  have HB := hid hb
  clear hb
  have c27 := HL1.out.cells.2.2.2.2.2.2.1
  cases x with
  | false =>
    obtain rfl : R = (P, none) := by rw [← HR.out]; unfold ackP; rw [if_pos HX.out]
    go_wp2_with fail
    go_ret
    exact ⟨_, rfl, FrB.zero _ _, HL1.out, Kept.of_below HB.out⟩
  | true =>
    obtain rfl : R = decP P (afterI P.prep) := by rw [← HR.out]; unfold ackP; rw [if_neg (by rw [HX.out]; decide)]
    go_wp2_with (go_at_call 86; refine (tafter_any P.prep _).mono ?_; rintro e w2 ⟨rfl, rfl⟩)
    refine (lddecide_any (afterI P.prep) HL1.out hn).mono ?_
    rintro e w2 ⟨v, rfl, ho, hl, hk⟩
    have HV := hid (And.intro (ho.mono HB.out.size) (And.intro hl ((Kept.of_below HB.out).trans hk)))
    clear ho hl hk
    go_wp2_with fail
    go_ret
    exact ⟨_, rfl, HV.out⟩
end
end Go.Proofs.YtkopfpaldmapdaaDoor
