/-
  A FRAME IN A ROW of nine cells: each of them; nine stores.
-/
import Derived.Test.YtkbbjkiinpimiaaDoorKA
namespace Go.Proofs.YtkbbjkiinpimiaaDoor
open Go.RowKit

theorem kept9 (w : World) (g : Nat) (x0 x1 x2 x3 x4 x5 x6 x7 x8 : Value) :
    Kept (In1 g) w (((((((((w.setCell ⟨g, 0, none⟩ x0).setCell ⟨g, 1, none⟩ x1).setCell ⟨g, 2, none⟩ x2).setCell ⟨g, 3, none⟩ x3).setCell ⟨g, 4, none⟩ x4).setCell ⟨g, 5, none⟩ x5).setCell ⟨g, 6, none⟩ x6).setCell ⟨g, 7, none⟩ x7).setCell ⟨g, 8, none⟩ x8) :=
  (((((((((Kept.refl _ _).set1 0 _).set1 1 _).set1 2 _).set1 3 _).set1 4 _).set1 5 _).set1 6 _).set1 7 _).set1 8 _
/-- Nine stores into a row: what is there then. -/
theorem stored9 {X : World} {g : Nat} {a0 a1 a2 a3 a4 a5 a6 a7 a8 : Value} (h : X.heap[g]? = some (.cells #[a0, a1, a2, a3, a4, a5, a6, a7, a8] 88 (0, 0))) (f t d k a : Int) (y : Bool) (ph pr pa : Int) :
    ∃ Y, Hid ((((((((((X.setCell ⟨g, 0, none⟩ (.int .i64 f)).setCell ⟨g, 1, none⟩ (.int .i64 t)).setCell ⟨g, 2, none⟩ (.int .i64 d)).setCell ⟨g, 3, none⟩ (.int .i64 k)).setCell ⟨g, 4, none⟩ (.int .i64 a)).setCell ⟨g, 5, none⟩ (.bool y)).setCell ⟨g, 6, none⟩ (.int .i64 ph)).setCell ⟨g, 7, none⟩ (.int .i64 pr)).setCell ⟨g, 8, none⟩ (.int .i64 pa)) = Y) ∧
      Hid (Y.heap[g]? = some (.cells #[.int .i64 f, .int .i64 t, .int .i64 d, .int .i64 k, .int .i64 a, .bool y, .int .i64 ph, .int .i64 pr, .int .i64 pa] 88 (0, 0))) ∧ Hid (Kept (In1 g) X Y) :=
  ⟨_, rfl, set9 h _ _ _ _ _ _ _ _ _, kept9 _ _ _ _ _ _ _ _ _ _ _⟩
theorem frozen9 {X : World} {g : Nat} {cs : Array Value} {t : TypeId} (h : X.heap[g]? = some (.cells cs t (0, 0))) : X.frozen? ⟨g, 0, none⟩ = false ∧ X.frozen? ⟨g, 1, none⟩ = false ∧ X.frozen? ⟨g, 2, none⟩ = false ∧ X.frozen? ⟨g, 3, none⟩ = false ∧ X.frozen? ⟨g, 4, none⟩ = false ∧ X.frozen? ⟨g, 5, none⟩ = false ∧ X.frozen? ⟨g, 6, none⟩ = false ∧ X.frozen? ⟨g, 7, none⟩ = false ∧ X.frozen? ⟨g, 8, none⟩ = false :=
  ⟨frozen_of_row X g 0 _ _ h, frozen_of_row X g 1 _ _ h, frozen_of_row X g 2 _ _ h, frozen_of_row X g 3 _ _ h, frozen_of_row X g 4 _ _ h, frozen_of_row X g 5 _ _ h, frozen_of_row X g 6 _ _ h, frozen_of_row X g 7 _ _ h, frozen_of_row X g 8 _ _ h⟩

end Go.Proofs.YtkbbjkiinpimiaaDoor
