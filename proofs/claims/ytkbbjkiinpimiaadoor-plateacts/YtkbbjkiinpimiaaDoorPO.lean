/-
  What each act leaves of what stands along the law's loop.
-/
import Derived.Test.YtkbbjkiinpimiaaDoorPM
namespace Go.Proofs.YtkbbjkiinpimiaaDoor
open Go.RowKit

theorem heap_drewN (w : World) (n : Nat) : (w.drewN n).heap = w.heap := by
  induction n with
  | zero => rfl
  | succ n ih => first | exact ih | (unfold World.drewN; exact ih) | (simp [World.drewN]; done)
theorem Pl.drewN {w : World} {p q : Nat} {B : ByteArray} {l : Int} (h : Pl w p q B l) (n : Nat) : Pl (w.drewN n) p q B l := ⟨h.ne, by rw [heap_drewN]; exact h.head, by rw [heap_drewN]; exact h.row⟩
theorem PI.drewN {w0 w : World} {A : Nat → Addr} {p q r : Nat} {B : ByteArray} {l : Int} {off : Bool} {l' : Int} {cuts : Bool} (h : PI w0 w A p q r B l off l' cuts) (n : Nat) : PI w0 (w.drewN n) A p q r B l off l' cuts :=
  h.later (below_drewN (Below.refl _ _) n)
theorem PI.drew {w0 w : World} {A : Nat → Addr} {p q r : Nat} {B : ByteArray} {l : Int} {off : Bool} {l' : Int} {cuts : Bool} (h : PI w0 w A p q r B l off l' cuts) : PI w0 w.drew A p q r B l off l' cuts :=
  h.later (Below.refl _ _).drew
theorem PI.alloc {w0 w : World} {A : Nat → Addr} {p q r : Nat} {B : ByteArray} {l : Int} {off : Bool} {l' : Int} {cuts : Bool} (h : PI w0 w A p q r B l off l' cuts) (o : Obj) : PI w0 (w.alloc o) A p q r B l off l' cuts :=
  h.later ((Below.refl _ _).alloc (Nat.le_refl _) o)
theorem PI.both {w0 w w5 w6 : World} {A : Nat → Addr} {p q r : Nat} {B B2 : ByteArray} {l l2 : Int} {off off2 : Bool} {l' l2' : Int} {cuts cuts2 : Bool} (h : PI w0 w A p q r B l off l' cuts) (hP : Pl w5 p q B2 l2) (hK5 : Kept (In2 p q) w w5)
    (hR : RP w6 r B2 off2 l2' cuts2) (hk : Lk l2 off2 l2' cuts2) (hK6 : Kept (In1 r) w5 w6) (hs : B2.size ≤ 1000) : PI w0 w6 A p q r B2 l2 off2 l2' cuts2 :=
  ⟨hK6.below (h.plate hK5).1.size (fun k g => by have := h.r0; unfold In1 at g; omega) (h.plate hK5).1, hP.kept hK6 (fun g => h.rpne g.symm) (fun g => h.rqne g.symm), hR, hk, hs, h.p0, h.q0, h.r0, h.rpne, h.rqne⟩
theorem Kept.cell {S : Nat → Prop} {w w' : World} {a : Addr} {v : Value} (h : Kept S w w') (hc : w.cell? a = some v) (hs : ¬ S a.block) : w'.cell? a = some v := by
  rw [World.cell?_of_block (w := w) (h.block a.block (cell_lt hc) hs)]; exact hc
theorem Kept.mid {w5 w6 : World} {w : World} {p q r : Nat} {a : Addr} {v : Value} (h5 : Kept (In2 p q) w w5) (h6 : Kept (In1 r) w5 w6) (hc : w.cell? a = some v) (hp : a.block ≠ p) (hq : a.block ≠ q) (hr : a.block ≠ r) : w6.cell? a = some v :=
  h6.cell (h5.cell hc (fun g => g.elim hp hq)) hr
theorem PI.lts {w0 w : World} {A : Nat → Addr} {p q r : Nat} {B : ByteArray} {l : Int} {off : Bool} {l' : Int} {cuts : Bool} (h : PI w0 w A p q r B l off l' cuts) : p < w.heap.size ∧ q < w.heap.size ∧ r < w.heap.size := ⟨row_lt h.pl.head, row_lt h.pl.row, row_lt h.rp⟩
theorem power_lk (p q : Nat) (B : ByteArray) (l l' : Int) (off cuts : Bool) (w : World) (h : Pl w p q B l) (hk : Lk l off l' cuts) :
    Calls Tryd.prog 45 #[.pointer (some ⟨p, 0, none⟩)] w fun e w' => e = .returned (.bool (!off)) ∧ w' = w := by
  rw [← hk.power]; exact power_any p q B l w h
theorem err_is (r : Nat) (B : ByteArray) (l a n l' : Int) (off cuts : Bool) (m : Int) (w : World) (h : RP w r B off l' cuts) (hk : Lk l off l' cuts) (hB : B.size ≤ 1000) (hm : (rC B l a n : Int) = m) :
    Calls Tryd.prog 37 #[.pointer (some ⟨r, 0, none⟩), .int .i64 a, .int .i64 n] w fun e w' => e = .returned (.int .i64 m) ∧ w' = w := by
  rw [← hm]; exact err_rp r B l a n l' off cuts w h hk hB
theorem no_off (off : Bool) : ((!off) == off) = false := by cases off <;> rfl
end Go.Proofs.YtkbbjkiinpimiaaDoor
