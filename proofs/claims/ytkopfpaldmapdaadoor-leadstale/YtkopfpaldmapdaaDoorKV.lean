/-
  A FRAME: as a value; in a row of nine cells.
-/
import Derived.Test.YtkopfpaldmapdaaDoorZ0
import Derived.Laws.Rows
namespace Go.Proofs.YtkopfpaldmapdaaDoor
open Go.RowKit

/-- A frame as a value. -/
abbrev frV (f t d k a : Int) (y : Bool) (ph pr pa : Int) : Value := .agg #[.int .i64 f, .int .i64 t, .int .i64 d, .int .i64 k, .int .i64 a, .bool y, .int .i64 ph, .int .i64 pr, .int .i64 pa]
theorem nine {w : World} {g : Nat} {f t d k a : Int} {y : Bool} {ph pr pa : Int} {ty : TypeId} {fr : Nat × Nat} (h : w.heap[g]? = some (.cells #[.int .i64 f, .int .i64 t, .int .i64 d, .int .i64 k, .int .i64 a, .bool y, .int .i64 ph, .int .i64 pr, .int .i64 pa] ty fr)) :
    w.cell? ⟨g, 0, none⟩ = some (.int .i64 f) ∧ w.cell? ⟨g, 1, none⟩ = some (.int .i64 t) ∧ w.cell? ⟨g, 2, none⟩ = some (.int .i64 d) ∧ w.cell? ⟨g, 3, none⟩ = some (.int .i64 k) ∧ w.cell? ⟨g, 4, none⟩ = some (.int .i64 a) ∧ w.cell? ⟨g, 5, none⟩ = some (.bool y) ∧ w.cell? ⟨g, 6, none⟩ = some (.int .i64 ph) ∧ w.cell? ⟨g, 7, none⟩ = some (.int .i64 pr) ∧ w.cell? ⟨g, 8, none⟩ = some (.int .i64 pa) := by
  refine ⟨?_, ?_, ?_, ?_, ?_, ?_, ?_, ?_, ?_⟩ <;> rw [cell_of_row _ _ _ _ _ _ h] <;> rfl
theorem set9 {w : World} {g : Nat} {a0 a1 a2 a3 a4 a5 a6 a7 a8 : Value} {t : TypeId} (h : w.heap[g]? = some (.cells #[a0, a1, a2, a3, a4, a5, a6, a7, a8] t (0, 0))) (x0 x1 x2 x3 x4 x5 x6 x7 x8 : Value) :
    (((((((((w.setCell ⟨g, 0, none⟩ x0).setCell ⟨g, 1, none⟩ x1).setCell ⟨g, 2, none⟩ x2).setCell ⟨g, 3, none⟩ x3).setCell ⟨g, 4, none⟩ x4).setCell ⟨g, 5, none⟩ x5).setCell ⟨g, 6, none⟩ x6).setCell ⟨g, 7, none⟩ x7).setCell ⟨g, 8, none⟩ x8).heap[g]? = some (.cells #[x0, x1, x2, x3, x4, x5, x6, x7, x8] t (0, 0)) := by
  have h0 : (w.setCell ⟨g, 0, none⟩ x0).heap[g]? = some (.cells #[x0, a1, a2, a3, a4, a5, a6, a7, a8] t (0, 0)) := heap_setCell_same _ g 0 #[a0, a1, a2, a3, a4, a5, a6, a7, a8] t x0 h
  have h1 : ((w.setCell ⟨g, 0, none⟩ x0).setCell ⟨g, 1, none⟩ x1).heap[g]? = some (.cells #[x0, x1, a2, a3, a4, a5, a6, a7, a8] t (0, 0)) := heap_setCell_same _ g 1 #[x0, a1, a2, a3, a4, a5, a6, a7, a8] t x1 h0
  have h2 : (((w.setCell ⟨g, 0, none⟩ x0).setCell ⟨g, 1, none⟩ x1).setCell ⟨g, 2, none⟩ x2).heap[g]? = some (.cells #[x0, x1, x2, a3, a4, a5, a6, a7, a8] t (0, 0)) := heap_setCell_same _ g 2 #[x0, x1, a2, a3, a4, a5, a6, a7, a8] t x2 h1
  have h3 : ((((w.setCell ⟨g, 0, none⟩ x0).setCell ⟨g, 1, none⟩ x1).setCell ⟨g, 2, none⟩ x2).setCell ⟨g, 3, none⟩ x3).heap[g]? = some (.cells #[x0, x1, x2, x3, a4, a5, a6, a7, a8] t (0, 0)) := heap_setCell_same _ g 3 #[x0, x1, x2, a3, a4, a5, a6, a7, a8] t x3 h2
  have h4 : (((((w.setCell ⟨g, 0, none⟩ x0).setCell ⟨g, 1, none⟩ x1).setCell ⟨g, 2, none⟩ x2).setCell ⟨g, 3, none⟩ x3).setCell ⟨g, 4, none⟩ x4).heap[g]? = some (.cells #[x0, x1, x2, x3, x4, a5, a6, a7, a8] t (0, 0)) := heap_setCell_same _ g 4 #[x0, x1, x2, x3, a4, a5, a6, a7, a8] t x4 h3
  have h5 : ((((((w.setCell ⟨g, 0, none⟩ x0).setCell ⟨g, 1, none⟩ x1).setCell ⟨g, 2, none⟩ x2).setCell ⟨g, 3, none⟩ x3).setCell ⟨g, 4, none⟩ x4).setCell ⟨g, 5, none⟩ x5).heap[g]? = some (.cells #[x0, x1, x2, x3, x4, x5, a6, a7, a8] t (0, 0)) := heap_setCell_same _ g 5 #[x0, x1, x2, x3, x4, a5, a6, a7, a8] t x5 h4
  have h6 : (((((((w.setCell ⟨g, 0, none⟩ x0).setCell ⟨g, 1, none⟩ x1).setCell ⟨g, 2, none⟩ x2).setCell ⟨g, 3, none⟩ x3).setCell ⟨g, 4, none⟩ x4).setCell ⟨g, 5, none⟩ x5).setCell ⟨g, 6, none⟩ x6).heap[g]? = some (.cells #[x0, x1, x2, x3, x4, x5, x6, a7, a8] t (0, 0)) := heap_setCell_same _ g 6 #[x0, x1, x2, x3, x4, x5, a6, a7, a8] t x6 h5
  have h7 : ((((((((w.setCell ⟨g, 0, none⟩ x0).setCell ⟨g, 1, none⟩ x1).setCell ⟨g, 2, none⟩ x2).setCell ⟨g, 3, none⟩ x3).setCell ⟨g, 4, none⟩ x4).setCell ⟨g, 5, none⟩ x5).setCell ⟨g, 6, none⟩ x6).setCell ⟨g, 7, none⟩ x7).heap[g]? = some (.cells #[x0, x1, x2, x3, x4, x5, x6, x7, a8] t (0, 0)) := heap_setCell_same _ g 7 #[x0, x1, x2, x3, x4, x5, x6, a7, a8] t x7 h6
  exact heap_setCell_same _ g 8 #[x0, x1, x2, x3, x4, x5, x6, x7, a8] t x8 h7
end Go.Proofs.YtkopfpaldmapdaaDoor
