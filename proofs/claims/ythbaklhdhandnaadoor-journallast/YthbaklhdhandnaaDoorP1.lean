/-
  A PLATE IN MEMORY: its head (bytes, what is left), its row of bytes; which blocks a call leaves alone. Package plate's small functions.
-/
import Derived.Test.YthbaklhdhandnaaDoorCode
import Derived.Test.YthbaklhdhandnaaDoorW3
import Derived.Test.YthbaklhdhandnaaDoorPB
import Derived.Laws.CopyRow
import Derived.Laws.Rows
namespace Go.Proofs.YthbaklhdhandnaaDoor
open Go.RowKit

/-- What a call may have turned: the blocks S, and new ones. -/
structure Kept (S : Nat → Prop) (w w' : World) : Prop where
  os : w'.os = w.os
  tape : w'.tape = w.tape
  output : w'.output = w.output
  size : w.heap.size ≤ w'.heap.size
  block : ∀ k, k < w.heap.size → ¬ S k → w'.heap[k]? = w.heap[k]?
theorem Kept.refl (S : Nat → Prop) (w : World) : Kept S w w := ⟨rfl, rfl, rfl, Nat.le_refl _, fun _ _ _ => rfl⟩
theorem Kept.trans {S : Nat → Prop} {a b c : World} (h : Kept S a b) (k : Kept S b c) : Kept S a c :=
  ⟨k.os.trans h.os, k.tape.trans h.tape, k.output.trans h.output, Nat.le_trans h.size k.size, fun i hi hs => (k.block i (Nat.lt_of_lt_of_le hi h.size) hs).trans (h.block i hi hs)⟩
theorem Kept.drew {S : Nat → Prop} {a w : World} (h : Kept S a w) : Kept S a w.drew := ⟨h.os, h.tape, h.output, h.size, h.block⟩
theorem Kept.setCell {S : Nat → Prop} {a w : World} (h : Kept S a w) {p : Addr} (hp : S p.block) (u : Value) : Kept S a (w.setCell p u) :=
  h.trans ⟨rfl, rfl, rfl, by simp, fun k _ hk => Below.heap_setCell w p u k (fun e => hk (e ▸ hp))⟩
theorem Kept.below {S : Nat → Prop} {B : Nat} {w0 w w' : World} (h : Kept S w w') (hB : B ≤ w.heap.size) (hS : ∀ k, S k → B ≤ k) (hb : Below B w0 w) : Below B w0 w' :=
  hb.trans ⟨h.os, h.tape, h.output, h.size, fun k hk => h.block k (by omega) (fun hs => by have := hS k hs; omega)⟩
theorem Kept.of_below {S : Nat → Prop} {w w' : World} (h : Below w.heap.size w w') : Kept S w w' := ⟨h.os, h.tape, h.output, h.size, fun k hk _ => h.block k hk⟩
theorem row_lt {w : World} {b : Nat} {o : Obj} (h : w.heap[b]? = some o) : b < w.heap.size := (Array.getElem?_eq_some_iff.1 h).1
theorem Kept.row {S : Nat → Prop} {w w' : World} {b : Nat} {o : Obj} (h : Kept S w w') (hb : w.heap[b]? = some o) (hs : ¬ S b) : w'.heap[b]? = some o := (h.block b (row_lt hb) hs).trans hb

/-- The cells of bytes. -/
def cellsB (B : ByteArray) : Array Value := (Lib.strCells B).toArray
theorem cellsB_size (B : ByteArray) : (cellsB B).size = B.size := by simp [cellsB, Lib.strCells_length]
theorem cellsB_at {B : ByteArray} {j : Nat} (h : j < B.size) : (cellsB B)[j]? = some (.int .u8 ((B[j]'h).toNat : Int)) := by
  unfold cellsB
  rw [List.getElem?_toArray]
  exact strCells_at h
/-- A plate: its head in block p, its bytes in block q. -/
structure Pl (w : World) (p q : Nat) (B : ByteArray) (l : Int) : Prop where
  ne : p ≠ q
  head : w.heap[p]? = some (.cells #[.slice (some ⟨q, 0, none⟩) B.size B.size, .int .i64 l] 117 (0, 0))
  row : w.heap[q]? = some (.cells (cellsB B) 5 (0, 0))
theorem Pl.kept {S : Nat → Prop} {w w' : World} {p q : Nat} {B : ByteArray} {l : Int} (h : Pl w p q B l) (k : Kept S w w') (hp : ¬ S p) (hq : ¬ S q) : Pl w' p q B l := ⟨h.ne, k.row h.head hp, k.row h.row hq⟩
theorem Pl.c0 {w : World} {p q : Nat} {B : ByteArray} {l : Int} (h : Pl w p q B l) : w.cell? ⟨p, 0, none⟩ = some (.slice (some ⟨q, 0, none⟩) B.size B.size) := by rw [cell_of_row w p 0 _ _ _ h.head]; rfl
theorem Pl.c1 {w : World} {p q : Nat} {B : ByteArray} {l : Int} (h : Pl w p q B l) : w.cell? ⟨p, 1, none⟩ = some (.int .i64 l) := by rw [cell_of_row w p 1 _ _ _ h.head]; rfl
theorem Pl.f1 {w : World} {p q : Nat} {B : ByteArray} {l : Int} (h : Pl w p q B l) : w.frozen? ⟨p, 1, none⟩ = false := frozen_of_row w p 1 _ _ h.head
theorem Pl.set {w : World} {p q : Nat} {B : ByteArray} {l : Int} (h : Pl w p q B l) (l' : Int) : Pl (w.setCell ⟨p, 1, none⟩ (.int .i64 l')) p q B l' :=
  ⟨h.ne, by rw [heap_setCell_same w p 1 _ _ _ h.head]; rfl, by rw [heap_setCell_other w _ q _ (Ne.symm h.ne)]; exact h.row⟩
theorem Pl.drew {w : World} {p q : Nat} {B : ByteArray} {l : Int} (h : Pl w p q B l) : Pl w.drew p q B l := ⟨h.ne, h.head, h.row⟩
/-- The blocks of a plate. -/
def In2 (p q : Nat) (k : Nat) : Prop := k = p ∨ k = q
theorem kept_set {w : World} (p q : Nat) (v : Value) : Kept (In2 p q) w (w.setCell ⟨p, 1, none⟩ v) := (Kept.refl _ w).setCell (.inl rfl) v

theorem power_any (p q : Nat) (B : ByteArray) (l : Int) (w : World) (h : Pl w p q B l) :
    Calls Tryd.prog 45 #[.pointer (some ⟨p, 0, none⟩)] w fun e w' => e = .returned (.bool (l != -2)) ∧ w' = w := by
  have c1 := h.c1
  clear h
  go_enter Tryd.func45, Tryd.ntmps45
  go_wp2
  go_ret
  exact ⟨rfl, rfl⟩
theorem pon_any (p q : Nat) (B : ByteArray) (l : Int) (w : World) (h : Pl w p q B l) :
    Calls Tryd.prog 42 #[.pointer (some ⟨p, 0, none⟩)] w fun e w' => e = .returned (.tuple #[]) ∧ Pl w' p q B (-1) ∧ Kept (In2 p q) w w' := by
  have c1 := h.c1
  have f1 := h.f1
  have H := hid (h.set (-1))
  clear h
  go_enter Tryd.func42, Tryd.ntmps42
  go_wp2
  go_end0
  exact ⟨rfl, H.out, kept_set p q _⟩
theorem poff_any (p q : Nat) (B : ByteArray) (l : Int) (w : World) (h : Pl w p q B l) :
    Calls Tryd.prog 44 #[.pointer (some ⟨p, 0, none⟩)] w fun e w' => e = .returned (.tuple #[]) ∧ Pl w' p q B (-2) ∧ Kept (In2 p q) w w' := by
  have c1 := h.c1
  have f1 := h.f1
  have H := hid (h.set (-2))
  clear h
  go_enter Tryd.func44, Tryd.ntmps44
  go_wp2
  go_end0
  exact ⟨rfl, H.out, kept_set p q _⟩
end Go.Proofs.YthbaklhdhandnaaDoor
