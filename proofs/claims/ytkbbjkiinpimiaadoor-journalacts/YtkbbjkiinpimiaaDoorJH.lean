/-
  A JOURNAL IN MEMORY: its plate, six entries, whether it is over.
-/
import Derived.Test.YtkbbjkiinpimiaaDoorJG
import Derived.Deep.MidRow
namespace Go.Proofs.YtkbbjkiinpimiaaDoor
open Go.RowKit

/-- An entry's cells. -/
def entL (x : Nat × St) : List Value := [.int .i64 x.2.ph, .int .i64 x.2.pr, .int .i64 x.2.at_, .int .u32 x.1]
/-- A journal's cells. -/
def jL (p : Nat) (E : Nat → Nat × St) (over : Bool) : List Value := .pointer (some ⟨p, 0, none⟩) :: (entL (E 0) ++ (entL (E 1) ++ (entL (E 2) ++ (entL (E 3) ++ (entL (E 4) ++ (entL (E 5) ++ [.bool over]))))))
/-- A journal in block j over the plate in block p. -/
def JR (w : World) (j p : Nat) (E : Nat → Nat × St) (over : Bool) : Prop := w.heap[j]? = some (.cells (jL p E over).toArray 124 (0, 0))
def updE (E : Nat → Nat × St) (d : Nat) (x : Nat × St) : Nat → Nat × St := fun e => if e = d then x else E e
theorem JR.cell {w : World} {j p : Nat} {E : Nat → Nat × St} {over : Bool} (h : JR w j p E over) (i : Nat) : w.cell? ⟨j, i, none⟩ = (jL p E over)[i]? := by
  rw [cell_of_row w j i _ _ _ h, List.getElem?_toArray]
theorem JR.plate {w : World} {j p : Nat} {E : Nat → Nat × St} {over : Bool} (h : JR w j p E over) : w.cell? ⟨j, 0, none⟩ = some (.pointer (some ⟨p, 0, none⟩)) := h.cell 0
theorem JR.over {w : World} {j p : Nat} {E : Nat → Nat × St} {over : Bool} (h : JR w j p E over) : w.cell? ⟨j, 25, none⟩ = some (.bool over) := h.cell 25
theorem JR.fz {w : World} {j p : Nat} {E : Nat → Nat × St} {over : Bool} (h : JR w j p E over) (i : Nat) : w.frozen? ⟨j, i, none⟩ = false := frozen_of_row w j i _ _ h
theorem six {d : Nat} (hd : d < 6) : d = 0 ∨ d = 1 ∨ d = 2 ∨ d = 3 ∨ d = 4 ∨ d = 5 := by omega
theorem JR.ent {w : World} {j p d : Nat} {E : Nat → Nat × St} {over : Bool} (h : JR w j p E over) (hd : d < 6) :
    w.cell? ⟨j, 1 + d * 4, none⟩ = some (.int .i64 (E d).2.ph) ∧ w.cell? ⟨j, 1 + d * 4 + 1, none⟩ = some (.int .i64 (E d).2.pr) ∧ w.cell? ⟨j, 1 + d * 4 + 2, none⟩ = some (.int .i64 (E d).2.at_) ∧ w.cell? ⟨j, 1 + d * 4 + 3, none⟩ = some (.int .u32 (E d).1) := by
  rw [h.cell, h.cell, h.cell, h.cell]
  rcases six hd with rfl | rfl | rfl | rfl | rfl | rfl <;> exact ⟨rfl, rfl, rfl, rfl⟩
theorem JR.set {w : World} {j p d : Nat} {E : Nat → Nat × St} {over : Bool} (h : JR w j p E over) (hd : d < 6) (x : Nat × St) :
    JR ((((w.setCell ⟨j, 1 + d * 4, none⟩ (.int .i64 x.2.ph)).setCell ⟨j, 1 + d * 4 + 1, none⟩ (.int .i64 x.2.pr)).setCell ⟨j, 1 + d * 4 + 2, none⟩ (.int .i64 x.2.at_)).setCell ⟨j, 1 + d * 4 + 3, none⟩ (.int .u32 x.1)) j p (updE E d x) over := by
  have h0 := heap_setCell_same w j (1 + d * 4) _ _ (.int .i64 x.2.ph) h
  have h1 := heap_setCell_same _ j (1 + d * 4 + 1) _ _ (.int .i64 x.2.pr) h0
  have h2 := heap_setCell_same _ j (1 + d * 4 + 2) _ _ (.int .i64 x.2.at_) h1
  have h3 := heap_setCell_same _ j (1 + d * 4 + 3) _ _ (.int .u32 x.1) h2
  unfold JR
  rw [h3]
  rcases six hd with rfl | rfl | rfl | rfl | rfl | rfl <;> rfl
theorem JR.setOver {w : World} {j p : Nat} {E : Nat → Nat × St} {over : Bool} (h : JR w j p E over) (b : Bool) : JR (w.setCell ⟨j, 25, none⟩ (.bool b)) j p E b := by
  unfold JR
  rw [heap_setCell_same w j 25 _ _ _ h]
  rfl
theorem JR.ext {w : World} {j p : Nat} {E F : Nat → Nat × St} {over : Bool} (h : JR w j p E over) (he : ∀ d, d < 6 → E d = F d) : JR w j p F over := by
  unfold JR jL at h ⊢
  rw [← he 0 (by decide), ← he 1 (by decide), ← he 2 (by decide), ← he 3 (by decide), ← he 4 (by decide), ← he 5 (by decide)]
  exact h
theorem JR.drew {w : World} {j p : Nat} {E : Nat → Nat × St} {over : Bool} (h : JR w j p E over) : JR w.drew j p E over := h
theorem JR.later {w w' : World} {j p B : Nat} {E : Nat → Nat × St} {over : Bool} (h : JR w j p E over) (hb : Below B w w') (hj : j < B) : JR w' j p E over := (hb.block j hj).trans h
theorem JR.lt {w : World} {j p : Nat} {E : Nat → Nat × St} {over : Bool} (h : JR w j p E over) : j < w.heap.size := row_ltJ h
theorem JR.new (w : World) (p : Nat) (E : Nat → Nat × St) (over : Bool) : JR (w.alloc (.cells (jL p E over).toArray 124)) w.heap.size p E over := heap_alloc_new w _
end Go.Proofs.YtkbbjkiinpimiaaDoor
