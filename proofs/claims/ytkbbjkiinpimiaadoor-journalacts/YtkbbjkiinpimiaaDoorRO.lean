/-
  THE DOCUMENT's OpenError.
-/
import Derived.Test.YtkbbjkiinpimiaaDoorRQ
namespace Go.Proofs.YtkbbjkiinpimiaaDoor
open Go.RowKit

set_option maxRecDepth 100000 in
theorem ropenerr_any (r : Nat) (B : ByteArray) (off cuts : Bool) (l : Int) (w : World) (h : RP w r B off l cuts) (hB : B.size ≤ 1000) :
    Calls Tryd.prog 50 #[.pointer (some ⟨r, 0, none⟩)] w fun e w' => e = .returned (.int .i64 (if B.size < 216 then 2 else if off then 6 else 0)) ∧ w' = w := by
  have c0 := h.c0
  have c1 := h.c1
  clear h
  by_cases hs : B.size < 216
  · rw [if_pos hs]
    go_enter Tryd.func50, Tryd.ntmps50
    go_wp2
    go_ret
    exact ⟨rfl, rfl⟩
  · rw [if_neg hs]
    cases off with
    | true =>
      go_enter Tryd.func50, Tryd.ntmps50
      go_wp2
      go_ret
      exact ⟨rfl, rfl⟩
    | false =>
      go_enter Tryd.func50, Tryd.ntmps50
      go_wp2
      go_ret
      exact ⟨rfl, rfl⟩
end Go.Proofs.YtkbbjkiinpimiaaDoor
