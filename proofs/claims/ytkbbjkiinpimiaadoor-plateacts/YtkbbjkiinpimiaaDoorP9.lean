/-
  The closed fact 'plated'; what a law's list of acts is in memory; what stands all along the law PlateActs.
-/
import Derived.Test.YtkbbjkiinpimiaaDoorP8
namespace Go.Proofs.YtkbbjkiinpimiaaDoor
open Go.RowKit

theorem plated_X : (putB (zeroB 4) 1 ⟨#[97, 98]⟩ 2).extract 0 (0 + 4) = ⟨#[0, 97, 98, 0]⟩ := by
  apply ba_ext
  rw [ext_list, putB_list]
  rfl
set_option maxRecDepth 100000 in
theorem plated_any (A : Nat → Addr) (w : World) (hE : HeldE w A) :
    Calls Tryd.prog 32 #[] w fun e w' => e = .returned (.bool true) ∧ Below w.heap.size w w' := by
  have HE := hid hE
  have hX := hid plated_X
  clear hE
  go_enter Tryd.func32, Tryd.ntmps32
  go_wp2_with fail
  refine (pnew_ok 4 _ (by omega)).mono ?_
  rintro e w1 ⟨rfl, hP1, hb1, hs1⟩
  have HE1 := hid (HE.out.later hb1)
  have h5 : 5 < w.heap.size := cell_lt HE.out.g5
  go_wp2_with fail
  refine (pwrite_free A (w.heap.size + 1) w.heap.size (zeroB 4) ⟨#[97, 98]⟩ 1 (-1) _ hP1 HE1.out (by rw [zeroB_size]; omega) (by rw [zeroB_size]; decide) (by omega) (by omega)).mono ?_
  rintro e w2 ⟨rfl, hP2, hK2⟩
  have hb2 : Below w.heap.size w w2 := hK2.below hb1.size (fun k hk => by unfold In2 at hk; omega) hb1
  have HE2 := hid (HE.out.later hb2)
  have hsz : (putB (zeroB 4) 1 ⟨#[97, 98]⟩ 2).size = 4 := by rw [size_putB (by rw [zeroB_size]; decide) (by decide), zeroB_size]
  go_wp2_with fail
  refine (pread_ok A _ _ _ (-1) 0 4 _ hP2 HE2.out (by exact Nat.le_trans (Nat.le_of_eq hsz) (by decide)) (by omega) (by exact Nat.le_of_eq hsz.symm)).mono ?_
  rw [show (ByteArray.mk #[97, 98]).size = 2 from rfl, hX.out]
  rintro e wx ⟨rfl, hx⟩
  subst wx
  go_wp2_with (go_at_call 45; refine (power_any _ _ _ _ _ hP2).mono ?_; rintro e wx ⟨rfl, hx⟩; subst wx)
  go_ret
  exact ⟨rfl, hb2⟩

/-- An act of the law's list. -/
structure Act4 where
  kind : ByteArray
  b : ByteArray
  at_ : Int
  n : Int
/-- A slice value whose elements are the acts xs. -/
def IsActs (w : World) (v : Value) (xs : List Act4) : Prop :=
  ∃ a cap, v = .slice a xs.length cap ∧ xs.length ≤ maxLen ∧ (∀ i (h : i < xs.length), ∃ b off, a = some ⟨b, off, none⟩ ∧ w.cell? ⟨b, off + i * 4, none⟩ = some (.string (xs[i]'h).kind) ∧ w.cell? ⟨b, off + i * 4 + 1, none⟩ = some (.string (xs[i]'h).b) ∧
    w.cell? ⟨b, off + i * 4 + 2, none⟩ = some (.int .i64 (xs[i]'h).at_) ∧ w.cell? ⟨b, off + i * 4 + 3, none⟩ = some (.int .i64 (xs[i]'h).n) ∧ (xs[i]'h).n ≤ 9223372036854775807 ∧ (xs[i]'h).b.size ≤ 9223372036854775807)
/-- What stands along the law's loop: memory that was there is as it was; the plate, the document's plate, alike. -/
structure PI (w0 w : World) (A : Nat → Addr) (p q r : Nat) (B : ByteArray) (l : Int) (off : Bool) (l' : Int) (cuts : Bool) : Prop where
  bel : Below w0.heap.size w0 w
  pl : Pl w p q B l
  rp : RP w r B off l' cuts
  lk : Lk l off l' cuts
  sz : B.size ≤ 1000
  p0 : w0.heap.size ≤ p
  q0 : w0.heap.size ≤ q
  r0 : w0.heap.size ≤ r
  rpne : r ≠ p
  rqne : r ≠ q
theorem PI.later {w0 w w' : World} {A : Nat → Addr} {p q r : Nat} {B : ByteArray} {l : Int} {off : Bool} {l' : Int} {cuts : Bool} (h : PI w0 w A p q r B l off l' cuts) (hb : Below w.heap.size w w') : PI w0 w' A p q r B l off l' cuts :=
  ⟨h.bel.trans (hb.mono h.bel.size), h.pl.kept (S := fun _ => False) (Kept.of_below hb) (fun x => x) (fun x => x), h.rp.kept (S := fun _ => False) (Kept.of_below hb) (fun x => x), h.lk, h.sz, h.p0, h.q0, h.r0, h.rpne, h.rqne⟩
theorem PI.plate {w0 w w' : World} {A : Nat → Addr} {p q r : Nat} {B : ByteArray} {l : Int} {off : Bool} {l' : Int} {cuts : Bool} (h : PI w0 w A p q r B l off l' cuts) (hk : Kept (In2 p q) w w') : Below w0.heap.size w0 w' ∧ RP w' r B off l' cuts :=
  ⟨hk.below h.bel.size (fun k g => by have := h.p0; have := h.q0; unfold In2 at g; omega) h.bel, h.rp.kept hk (fun g => g.elim h.rpne h.rqne)⟩
end Go.Proofs.YtkbbjkiinpimiaaDoor
