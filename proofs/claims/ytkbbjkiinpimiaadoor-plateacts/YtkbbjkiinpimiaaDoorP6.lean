/-
  THE DOCUMENT's PLATE (threefoldref1.Plate): Error, Write, Cut, On.
-/
import Derived.Test.YtkbbjkiinpimiaaDoorP5
namespace Go.Proofs.YtkbbjkiinpimiaaDoor
open Go.RowKit

/-- The document's plate in block r. -/
def RP (w : World) (r : Nat) (B : ByteArray) (off : Bool) (l : Int) (cuts : Bool) : Prop :=
  w.heap[r]? = some (.cells #[.string B, .bool off, .int .i64 l, .bool cuts] 58 (0, 0))
theorem RP.c0 {w : World} {r : Nat} {B : ByteArray} {off cuts : Bool} {l : Int} (h : RP w r B off l cuts) : w.cell? ⟨r, 0, none⟩ = some (.string B) := by rw [cell_of_row w r 0 _ _ _ h]; rfl
theorem RP.c1 {w : World} {r : Nat} {B : ByteArray} {off cuts : Bool} {l : Int} (h : RP w r B off l cuts) : w.cell? ⟨r, 1, none⟩ = some (.bool off) := by rw [cell_of_row w r 1 _ _ _ h]; rfl
theorem RP.c2 {w : World} {r : Nat} {B : ByteArray} {off cuts : Bool} {l : Int} (h : RP w r B off l cuts) : w.cell? ⟨r, 2, none⟩ = some (.int .i64 l) := by rw [cell_of_row w r 2 _ _ _ h]; rfl
theorem RP.c3 {w : World} {r : Nat} {B : ByteArray} {off cuts : Bool} {l : Int} (h : RP w r B off l cuts) : w.cell? ⟨r, 3, none⟩ = some (.bool cuts) := by rw [cell_of_row w r 3 _ _ _ h]; rfl
theorem RP.fz {w : World} {r : Nat} {B : ByteArray} {off cuts : Bool} {l : Int} (h : RP w r B off l cuts) (i : Nat) : w.frozen? ⟨r, i, none⟩ = false := frozen_of_row w r i _ _ h
theorem RP.s0 {w : World} {r : Nat} {B : ByteArray} {off cuts : Bool} {l : Int} (h : RP w r B off l cuts) (B' : ByteArray) : RP (w.setCell ⟨r, 0, none⟩ (.string B')) r B' off l cuts := by unfold RP; rw [heap_setCell_same w r 0 _ _ _ h]; rfl
theorem RP.s1 {w : World} {r : Nat} {B : ByteArray} {off cuts : Bool} {l : Int} (h : RP w r B off l cuts) (b : Bool) : RP (w.setCell ⟨r, 1, none⟩ (.bool b)) r B b l cuts := by unfold RP; rw [heap_setCell_same w r 1 _ _ _ h]; rfl
theorem RP.s2 {w : World} {r : Nat} {B : ByteArray} {off cuts : Bool} {l : Int} (h : RP w r B off l cuts) (l' : Int) : RP (w.setCell ⟨r, 2, none⟩ (.int .i64 l')) r B off l' cuts := by unfold RP; rw [heap_setCell_same w r 2 _ _ _ h]; rfl
theorem RP.s3 {w : World} {r : Nat} {B : ByteArray} {off cuts : Bool} {l : Int} (h : RP w r B off l cuts) (b : Bool) : RP (w.setCell ⟨r, 3, none⟩ (.bool b)) r B off l b := by unfold RP; rw [heap_setCell_same w r 3 _ _ _ h]; rfl
theorem RP.drew {w : World} {r : Nat} {B : ByteArray} {off cuts : Bool} {l : Int} (h : RP w r B off l cuts) : RP w.drew r B off l cuts := h
theorem RP.kept {S : Nat → Prop} {w w' : World} {r : Nat} {B : ByteArray} {off cuts : Bool} {l : Int} (h : RP w r B off l cuts) (k : Kept S w w') (hr : ¬ S r) : RP w' r B off l cuts := k.row h hr
theorem rperr_bound (r : Nat) (B : ByteArray) (off cuts : Bool) (l a n : Int) (w : World) (h : RP w r B off l cuts) (hB : B.size ≤ 1000) (hb : a < 0 ∨ n < 0 ∨ (B.size : Int) - n < a) :
    Calls Tryd.prog 37 #[.pointer (some ⟨r, 0, none⟩), .int .i64 a, .int .i64 n] w fun e w' => e = .returned (.int .i64 2) ∧ w' = w := by
  have c0 := h.c0
  clear h
  by_cases h1 : a < 0
  · clear hb
    go_enter Tryd.func37, Tryd.ntmps37
    go_wp2
    go_ret
    exact ⟨rfl, rfl⟩
  · by_cases h2 : n < 0
    · clear hb
      go_enter Tryd.func37, Tryd.ntmps37
      go_wp2
      go_ret
      exact ⟨rfl, rfl⟩
    · by_cases h3 : (B.size : Int) < a
      · clear hb
        go_enter Tryd.func37, Tryd.ntmps37
        go_wp2
        go_ret
        exact ⟨rfl, rfl⟩
      · have h4 : (B.size : Int) - a < n := by omega
        clear hb
        go_enter Tryd.func37, Tryd.ntmps37
        go_wp2
        go_ret
        exact ⟨rfl, rfl⟩
theorem rperr_in (r : Nat) (B : ByteArray) (off cuts : Bool) (l a n : Int) (w : World) (h : RP w r B off l cuts) (hB : B.size ≤ 1000) (hb : ¬ (a < 0 ∨ n < 0 ∨ (B.size : Int) - n < a)) :
    Calls Tryd.prog 37 #[.pointer (some ⟨r, 0, none⟩), .int .i64 a, .int .i64 n] w fun e w' => e = .returned (.int .i64 (if off then 6 else 0)) ∧ w' = w := by
  have c0 := h.c0
  have c1 := h.c1
  have h1 : ¬ a < 0 := fun g => hb (.inl g)
  have h2 : ¬ n < 0 := fun g => hb (.inr (.inl g))
  have h3 : ¬ (B.size : Int) - n < a := fun g => hb (.inr (.inr g))
  have h4 : ¬ (B.size : Int) < a := by omega
  have h5 : ¬ (B.size : Int) - a < n := by omega
  clear h hb
  cases off with
  | true =>
    go_enter Tryd.func37, Tryd.ntmps37
    go_wp2
    go_ret
    exact ⟨rfl, rfl⟩
  | false =>
    go_enter Tryd.func37, Tryd.ntmps37
    go_wp2
    go_ret
    exact ⟨rfl, rfl⟩
theorem rpcut_bound (v : Value) (n : Int) (w : World) (hn : n < 0) :
    Calls Tryd.prog 41 #[v, .int .i64 n] w fun e w' => e = .returned (.int .i64 2) ∧ w' = w := by
  go_enter Tryd.func41, Tryd.ntmps41
  go_wp2
  go_ret
  exact ⟨rfl, rfl⟩
theorem rpcut_off (r : Nat) (B : ByteArray) (cuts : Bool) (l n : Int) (w : World) (h : RP w r B true l cuts) (hn : ¬ n < 0) :
    Calls Tryd.prog 41 #[.pointer (some ⟨r, 0, none⟩), .int .i64 n] w fun e w' => e = .returned (.int .i64 6) ∧ w' = w := by
  have c1 := h.c1
  clear h
  go_enter Tryd.func41, Tryd.ntmps41
  go_wp2
  go_ret
  exact ⟨rfl, rfl⟩
theorem rpcut_ok (r : Nat) (B : ByteArray) (cuts : Bool) (l n : Int) (w : World) (h : RP w r B false l cuts) (hn : ¬ n < 0) :
    Calls Tryd.prog 41 #[.pointer (some ⟨r, 0, none⟩), .int .i64 n] w fun e w' => e = .returned (.int .i64 0) ∧ RP w' r B false n true ∧ Kept (In1 r) w w' := by
  have c1 := h.c1
  have c2 := h.c2
  have c3 := h.c3
  have f2 := h.fz 2
  have f3 := h.fz 3
  have H := hid ((h.s3 true).s2 n)
  clear h
  go_enter Tryd.func41, Tryd.ntmps41
  go_wp2
  go_ret
  exact ⟨rfl, H.out, ((Kept.refl _ w).set1 _ _).set1 _ _⟩
theorem rpon_any (r : Nat) (B : ByteArray) (off cuts : Bool) (l : Int) (w : World) (h : RP w r B off l cuts) :
    Calls Tryd.prog 43 #[.pointer (some ⟨r, 0, none⟩)] w fun e w' => e = .returned (.tuple #[]) ∧ RP w' r B false l false ∧ Kept (In1 r) w w' := by
  have c1 := h.c1
  have c3 := h.c3
  have f1 := h.fz 1
  have f3 := h.fz 3
  have H := hid ((h.s1 false).s3 false)
  clear h
  go_enter Tryd.func43, Tryd.ntmps43
  go_wp2
  go_end0
  exact ⟨rfl, H.out, ((Kept.refl _ w).set1 _ _).set1 _ _⟩
end Go.Proofs.YtkbbjkiinpimiaaDoor
