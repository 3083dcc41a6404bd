/-
  Two states alike?
-/
import Derived.Test.YtkbbjkiinpimiaaDoorZK
namespace Go.Proofs.YtkbbjkiinpimiaaDoor
open Go.RowKit

theorem keptC {g : Nat} {w w' : World} {a : Addr} {v : Value} (h : Kept (In1 g) w w') (hc : w.cell? a = some v) (hs : a.block ≠ g) : w'.cell? a = some v := by
  rw [World.cell?_of_block (h.block _ (cell_lt hc) (fun e => hs e))]; exact hc
theorem keptF {g b : Nat} {w w' : World} {i : Nat} {o : Obj} (h : Kept (In1 g) w w') (hr : w.heap[b]? = some o) (hs : b ≠ g) : w'.frozen? ⟨b, i, none⟩ = w.frozen? ⟨b, i, none⟩ := World.frozen?_of_block (h.block b (row_ltJ hr) (fun e => hs e))
theorem st_eql (x0 x1 x2 y0 y1 y2 : Int) (b : Bool) (h : decide (x0 = y0 ∧ x1 = y1 ∧ x2 = y2) = b) (w : World) :
    (binOp .eql 74 (.agg #[.int .i64 x0, .int .i64 x1, .int .i64 x2]) (.agg #[.int .i64 y0, .int .i64 y1, .int .i64 y2])).run Tryd.prog w = .ok (.bool b) w := by
  subst h
  by_cases h0 : x0 = y0 <;> by_cases h1 : x1 = y1 <;> by_cases h2 : x2 = y2
  all_goals
    simp only [h0, h1, h2, and_true, and_self, and_false, decide_true, decide_false]
    go_simp
end Go.Proofs.YtkbbjkiinpimiaaDoor
