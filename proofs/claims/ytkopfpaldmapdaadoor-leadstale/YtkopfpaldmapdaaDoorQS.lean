/-
  Start of a lead that asks for votes.
-/
import Derived.Test.YtkopfpaldmapdaaDoorQ8
namespace Go.Proofs.YtkopfpaldmapdaaDoor
open Go.RowKit

set_option maxRecDepth 100000 in
theorem ldStart0_any {w : World} {lb b cap id : Nat} {deal : Int} {zs : List Int} {P : PL} (hn : zs.length ≤ 7) (h : LD w lb b cap id deal 0 zs P) :
    Calls Tryd.prog 49 #[.pointer (some ⟨lb, 0, none⟩)] w fun e w' => ∃ v, e = .returned v ∧ FrB w.heap.size w' v (toL id deal 1 0 0 zs.length) ∧ Below w.heap.size w w' := by
  have c2 := h.cells.2.2.1
  have H := hid h
  clear h
  go_enter Tryd.func49, Tryd.ntmps49
  go_wp2_with fail
  refine (ldtoAll_any lb b cap id deal 0 zs P 1 0 w H.out hn).mono ?_
  rintro e w1 ⟨v, rfl, ho, hb⟩
  have HV := hid (And.intro ho hb)
  clear ho hb
  go_wp2_with fail
  go_ret
  exact ⟨_, rfl, HV.out⟩
end Go.Proofs.YtkopfpaldmapdaaDoor
