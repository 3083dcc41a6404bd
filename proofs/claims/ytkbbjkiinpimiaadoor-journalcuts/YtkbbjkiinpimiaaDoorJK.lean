/-
  A JOURNAL AND ITS PLATE; what the three writes of a slot leave.
-/
import Derived.Test.YtkbbjkiinpimiaaDoorJI
namespace Go.Proofs.YtkbbjkiinpimiaaDoor
open Go.RowKit

/-- A journal over its plate, in memory that was not there in w0. -/
structure JP (w0 w : World) (j p q : Nat) (E : Nat → Nat × St) (over : Bool) (B : ByteArray) (l : Int) : Prop where
  bel : Below w0.heap.size w0 w
  jr : JR w j p E over
  pl : Pl w p q B l
  jp : j ≠ p
  jq : j ≠ q
  j0 : w0.heap.size ≤ j
  p0 : w0.heap.size ≤ p
  q0 : w0.heap.size ≤ q
  l0 : -2 ≤ l
  l1 : l ≤ 9223372036854775807
  sz : B.size ≤ 1000
  s6 : 216 ≤ B.size
section
variable {w0 w w' : World} {j p q : Nat} {E : Nat → Nat × St} {over : Bool} {B B' : ByteArray} {l l' : Int} {A : Nat → Addr}
theorem JP.later (h : JP w0 w j p q E over B l) (hb : Below w.heap.size w w') : JP w0 w' j p q E over B l :=
  ⟨h.bel.trans (hb.mono h.bel.size), h.jr.later hb h.jr.lt, h.pl.kept (S := fun _ => False) (Kept.of_below hb) (fun x => x) (fun x => x), h.jp, h.jq, h.j0, h.p0, h.q0, h.l0, h.l1, h.sz, h.s6⟩
theorem JP.drew (h : JP w0 w j p q E over B l) : JP w0 w.drew j p q E over B l := h.later (Below.refl _ _).drew
theorem JP.plate (h : JP w0 w j p q E over B l) (hk : Kept (In2 p q) w w') (hp : Pl w' p q B' l') (h0 : -2 ≤ l') (h1 : l' ≤ 9223372036854775807) (hs : B'.size = B.size) : JP w0 w' j p q E over B' l' :=
  ⟨hk.below h.bel.size (fun k g => by have := h.p0; have := h.q0; unfold In2 at g; omega) h.bel, hk.row h.jr (fun g => g.elim h.jp h.jq), hp, h.jp, h.jq, h.j0, h.p0, h.q0, h0, h1, by rw [hs]; exact h.sz, by rw [hs]; exact h.s6⟩
theorem JP.held (h : JP w0 w j p q E over B l) (hE : HeldE w0 A) : HeldE w A := hE.later h.bel
theorem JP.gp (h : JP w0 w j p q E over B l) (hE : HeldE w0 A) : 5 ≠ p ∧ 5 ≠ q := by
  have := cell_lt hE.g5
  have := h.p0
  have := h.q0
  exact ⟨fun e => by subst e; simp at *; omega, fun e => by subst e; simp at *; omega⟩
/-- The journal alone is written. -/
theorem JP.own {E' : Nat → Nat × St} {over' : Bool} (h : JP w0 w j p q E over B l) (hk : Kept (In1 j) w w') (hj : JR w' j p E' over') : JP w0 w' j p q E' over' B l :=
  ⟨hk.below h.bel.size (fun k g => by have := h.j0; unfold In1 at g; omega) h.bel, hj, h.pl.kept hk (fun g => h.jp g.symm) (fun g => h.jq g.symm), h.jp, h.jq, h.j0, h.p0, h.q0, h.l0, h.l1, h.sz, h.s6⟩
end
theorem wL_ge (B s : ByteArray) (l a : Int) (h : -2 ≤ l) : -2 ≤ wL B s l a := by
  unfold wL
  repeat' split
  all_goals omega
theorem wL_le (B s : ByteArray) (l a : Int) (h : l ≤ 9223372036854775807) : wL B s l a ≤ 9223372036854775807 := by
  unfold wL
  repeat' split
  all_goals omega
/-- A write onto a journal's plate. -/
theorem write_jp (A : Nat → Addr) (w0 w : World) (j p q : Nat) (E : Nat → Nat × St) (over : Bool) (B s : ByteArray) (l a : Int) (h : JP w0 w j p q E over B l) (hE : HeldE w0 A) (hs : s.size ≤ 1000) (c : Nat) (hc : wC B s l a = c) :
    Calls Tryd.prog 38 #[.pointer (some ⟨p, 0, none⟩), .int .i64 a, .string s] w fun e w' => e = .returned (ev A c) ∧ JP w0 w' j p q E over (wB B s l a) (wL B s l a) ∧ Kept (In2 p q) w w' := by
  rw [← hc]
  refine (write_pl A p q B s l a w h.pl (h.held hE) h.sz hs h.l0 h.l1 (h.gp hE).1 (h.gp hE).2).mono ?_
  rintro e w' ⟨rfl, hp, hk⟩
  exact ⟨rfl, h.plate hk hp (wL_ge B s l a h.l0) (wL_le B s l a h.l1) (wB_size B s l a), hk⟩

/-- A write by its three answers. -/
structure Out where
  c : Nat
  b : ByteArray
  l : Int
def wOut (B s : ByteArray) (l : Int) (a : Nat) : Out := ⟨wC B s l a, wB B s l a, wL B s l a⟩
/-- The last byte of slot k made 0, if it is not. -/
def fill1 (B : ByteArray) (l : Int) (k : Nat) : Out := if l = -2 then ⟨6, B, l⟩ else if B.data.toList[18 * k + 17]? = some 0 then ⟨0, B, l⟩ else wOut B (bA [0]) l (18 * k + 17)
def fill2 (B : ByteArray) (l : Int) (k n : Nat) (s : St) : Out := if (fill1 B l k).c = 0 then wOut (fill1 B l k).b (bA (bodyL n s)) (fill1 B l k).l (18 * k) else fill1 B l k
def fill3 (B : ByteArray) (l : Int) (k n : Nat) (s : St) : Out := if (fill2 B l k n s).c = 0 then wOut (fill2 B l k n s).b (bA [165]) (fill2 B l k n s).l (18 * k + 17) else fill2 B l k n s
end Go.Proofs.YtkbbjkiinpimiaaDoor
