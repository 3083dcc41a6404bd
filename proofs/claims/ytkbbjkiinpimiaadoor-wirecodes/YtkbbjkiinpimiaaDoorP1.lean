/-
  A PLATE IN MEMORY: its head (bytes, what is left), its row of bytes; which blocks a call leaves alone. Package plate's small functions.
-/
import Derived.Test.YtkbbjkiinpimiaaDoorCode
import Derived.Test.YtkbbjkiinpimiaaDoorZ1
import Derived.Test.YtkbbjkiinpimiaaDoorZK
import Derived.Test.YtkbbjkiinpimiaaDoorPB
import Derived.Laws.CopyRow
import Derived.Laws.Rows
namespace Go.Proofs.YtkbbjkiinpimiaaDoor
open Go.RowKit

/-- The cells of bytes. -/
def cellsB (B : ByteArray) : Array Value := (Lib.strCells B).toArray
theorem cellsB_size (B : ByteArray) : (cellsB B).size = B.size := by simp [cellsB, Lib.strCells_length]
theorem cellsB_at {B : ByteArray} {j : Nat} (h : j < B.size) : (cellsB B)[j]? = some (.int .u8 ((B[j]'h).toNat : Int)) := by
  unfold cellsB
  rw [List.getElem?_toArray]
  exact strCells_at h
/-- A plate: its head in block p, its bytes in block q. -/
structure Pl (w : World) (p q : Nat) (B : ByteArray) (l : Int) : Prop where
  ne : p ≠ q
  head : w.heap[p]? = some (.cells #[.slice (some ⟨q, 0, none⟩) B.size B.size, .int .i64 l] 117 (0, 0))
  row : w.heap[q]? = some (.cells (cellsB B) 5 (0, 0))
theorem Pl.kept {S : Nat → Prop} {w w' : World} {p q : Nat} {B : ByteArray} {l : Int} (h : Pl w p q B l) (k : Kept S w w') (hp : ¬ S p) (hq : ¬ S q) : Pl w' p q B l := ⟨h.ne, k.row h.head hp, k.row h.row hq⟩
theorem Pl.c0 {w : World} {p q : Nat} {B : ByteArray} {l : Int} (h : Pl w p q B l) : w.cell? ⟨p, 0, none⟩ = some (.slice (some ⟨q, 0, none⟩) B.size B.size) := by rw [cell_of_row w p 0 _ _ _ h.head]; rfl
theorem Pl.c1 {w : World} {p q : Nat} {B : ByteArray} {l : Int} (h : Pl w p q B l) : w.cell? ⟨p, 1, none⟩ = some (.int .i64 l) := by rw [cell_of_row w p 1 _ _ _ h.head]; rfl
theorem Pl.f1 {w : World} {p q : Nat} {B : ByteArray} {l : Int} (h : Pl w p q B l) : w.frozen? ⟨p, 1, none⟩ = false := frozen_of_row w p 1 _ _ h.head
theorem Pl.set {w : World} {p q : Nat} {B : ByteArray} {l : Int} (h : Pl w p q B l) (l' : Int) : Pl (w.setCell ⟨p, 1, none⟩ (.int .i64 l')) p q B l' :=
  ⟨h.ne, by rw [heap_setCell_same w p 1 _ _ _ h.head]; rfl, by rw [heap_setCell_other w _ q _ (Ne.symm h.ne)]; exact h.row⟩
theorem Pl.drew {w : World} {p q : Nat} {B : ByteArray} {l : Int} (h : Pl w p q B l) : Pl w.drew p q B l := ⟨h.ne, h.head, h.row⟩
/-- The blocks of a plate. -/
def In2 (p q : Nat) (k : Nat) : Prop := k = p ∨ k = q
theorem kept_set {w : World} (p q : Nat) (v : Value) : Kept (In2 p q) w (w.setCell ⟨p, 1, none⟩ v) := (Kept.refl _ w).setCell (.inl rfl) v

theorem power_any (p q : Nat) (B : ByteArray) (l : Int) (w : World) (h : Pl w p q B l) :
    Calls Tryd.prog 45 #[.pointer (some ⟨p, 0, none⟩)] w fun e w' => e = .returned (.bool (l != -2)) ∧ w' = w := by
  have c1 := h.c1
  clear h
  go_enter Tryd.func45, Tryd.ntmps45
  go_wp2
  go_ret
  exact ⟨rfl, rfl⟩
theorem pon_any (p q : Nat) (B : ByteArray) (l : Int) (w : World) (h : Pl w p q B l) :
    Calls Tryd.prog 42 #[.pointer (some ⟨p, 0, none⟩)] w fun e w' => e = .returned (.tuple #[]) ∧ Pl w' p q B (-1) ∧ Kept (In2 p q) w w' := by
  have c1 := h.c1
  have f1 := h.f1
  have H := hid (h.set (-1))
  clear h
  go_enter Tryd.func42, Tryd.ntmps42
  go_wp2
  go_end0
  exact ⟨rfl, H.out, kept_set p q _⟩
theorem poff_any (p q : Nat) (B : ByteArray) (l : Int) (w : World) (h : Pl w p q B l) :
    Calls Tryd.prog 44 #[.pointer (some ⟨p, 0, none⟩)] w fun e w' => e = .returned (.tuple #[]) ∧ Pl w' p q B (-2) ∧ Kept (In2 p q) w w' := by
  have c1 := h.c1
  have f1 := h.f1
  have H := hid (h.set (-2))
  clear h
  go_enter Tryd.func44, Tryd.ntmps44
  go_wp2
  go_end0
  exact ⟨rfl, H.out, kept_set p q _⟩
end Go.Proofs.YtkbbjkiinpimiaaDoor
