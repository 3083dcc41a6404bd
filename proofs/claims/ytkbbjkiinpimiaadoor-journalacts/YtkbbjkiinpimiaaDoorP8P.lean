/-
  THE PROGRAM's PLATE, by numbers: a write, a cut, a read.
-/
import Derived.Test.YtkbbjkiinpimiaaDoorP5
namespace Go.Proofs.YtkbbjkiinpimiaaDoor
open Go.RowKit

/-- How the two tell power: the plate's one number; the document's three cells. -/
def Lk (l : Int) (off : Bool) (l' : Int) (cuts : Bool) : Prop :=
  (off = true ∧ l = -2) ∨ (off = false ∧ cuts = false ∧ l = -1) ∨ (off = false ∧ cuts = true ∧ l = l' ∧ 0 ≤ l ∧ l ≤ 9223372036854775807)
theorem Lk.le {l : Int} {off : Bool} {l' : Int} {cuts : Bool} (h : Lk l off l' cuts) : l ≤ 9223372036854775807 := by
  rcases h with ⟨_, h⟩ | ⟨_, _, h⟩ | ⟨_, _, _, _, h⟩ <;> omega
theorem Lk.ge {l : Int} {off : Bool} {l' : Int} {cuts : Bool} (h : Lk l off l' cuts) : -2 ≤ l := by
  rcases h with ⟨_, h⟩ | ⟨_, _, h⟩ | ⟨_, _, _, h, _⟩ <;> omega
theorem Lk.power {l : Int} {off : Bool} {l' : Int} {cuts : Bool} (h : Lk l off l' cuts) : (l != -2) = !off := by
  rcases h with ⟨rfl, rfl⟩ | ⟨rfl, _, rfl⟩ | ⟨rfl, _, _, h, _⟩
  · rfl
  · rfl
  · simp; omega

/-- A write: its error's number, the bytes, what is left. -/
abbrev wBad (B s : ByteArray) (a : Int) : Prop := a < 0 ∨ (B.size : Int) - s.size < a
def wC (B s : ByteArray) (l a : Int) : Nat := if wBad B s a then 2 else if l = -2 then 6 else if 0 ≤ l ∧ l < s.size then 6 else 0
def wB (B s : ByteArray) (l a : Int) : ByteArray := if wBad B s a then B else if l = -2 then B else if 0 ≤ l ∧ l < s.size then putB B a.toNat s l.toNat else putB B a.toNat s s.size
def wL (B s : ByteArray) (l a : Int) : Int := if wBad B s a then l else if l = -2 then -2 else if 0 ≤ l ∧ l < s.size then -2 else if l < 0 then l else l - s.size
theorem wC_le (B s : ByteArray) (l a : Int) : wC B s l a ≤ 9 := by
  unfold wC; repeat' split
  all_goals decide
theorem wB_size (B s : ByteArray) (l a : Int) : (wB B s l a).size = B.size := by
  unfold wB
  split
  · rfl
  · rename_i h
    unfold wBad at h
    split
    · rfl
    · split
      · rename_i h2; exact size_putB (by omega) (by omega)
      · exact size_putB (by omega) (by omega)

theorem write_pl (A : Nat → Addr) (p q : Nat) (B s : ByteArray) (l a : Int) (w : World) (h : Pl w p q B l) (hE : HeldE w A) (hB : B.size ≤ 1000) (hs : s.size ≤ 1000) (h1 : -2 ≤ l) (h2 : l ≤ 9223372036854775807) (hp : 5 ≠ p) (hq : 5 ≠ q) :
    Calls Tryd.prog 38 #[.pointer (some ⟨p, 0, none⟩), .int .i64 a, .string s] w fun e w' => e = .returned (ev A (wC B s l a)) ∧ Pl w' p q (wB B s l a) (wL B s l a) ∧ Kept (In2 p q) w w' := by
  by_cases hb : wBad B s a
  · simp only [wC, wB, wL, if_pos hb]
    refine (pwrite_bound A p q B s l a w h hE hB hs hb).mono ?_
    rintro e w' ⟨rfl, rfl⟩
    exact ⟨rfl, h, Kept.refl _ _⟩
  · by_cases hl : l = -2
    · subst hl
      simp only [wC, wB, wL, if_neg hb, if_pos]
      refine (pwrite_off A p q B s a w h hE hB hs hb).mono ?_
      rintro e w' ⟨rfl, rfl⟩
      exact ⟨rfl, h, Kept.refl _ _⟩
    · have hb' := hb
      unfold wBad at hb'
      obtain ⟨a', rfl⟩ : ∃ a' : Nat, a = a' := ⟨a.toNat, by omega⟩
      by_cases hn : 0 ≤ l ∧ l < s.size
      · obtain ⟨l', rfl⟩ : ∃ l' : Nat, l = l' := ⟨l.toNat, by omega⟩
        simp only [wC, wB, wL, if_neg hb, if_neg hl, if_pos hn, Int.toNat_natCast]
        exact pwrite_near A p q B s a' l' w h hE hB (by omega) (by omega) hp hq
      · simp only [wC, wB, wL, if_neg hb, if_neg hl, if_neg hn, Int.toNat_natCast]
        by_cases hl0 : l < 0
        · rw [if_pos hl0]
          exact pwrite_free A p q B s a' l w h hE hB (by omega) hl0 hl
        · rw [if_neg hl0]
          exact pwrite_far A p q B s a' l w h hE hB (by omega) (by omega) h2
/-- A cut: its error's number, what is left. -/
def cC (l n : Int) : Nat := if n < 0 then 2 else if l = -2 then 6 else 0
def cL (l n : Int) : Int := if n < 0 then l else if l = -2 then l else n
theorem cC_le (l n : Int) : cC l n ≤ 9 := by
  unfold cC; repeat' split
  all_goals decide
theorem cut_pl (A : Nat → Addr) (p q : Nat) (B : ByteArray) (l n : Int) (w : World) (h : Pl w p q B l) (hE : HeldE w A) :
    Calls Tryd.prog 40 #[.pointer (some ⟨p, 0, none⟩), .int .i64 n] w fun e w' => e = .returned (ev A (cC l n)) ∧ Pl w' p q B (cL l n) ∧ Kept (In2 p q) w w' := by
  by_cases hn : n < 0
  · simp only [cC, cL, if_pos hn]
    refine (pcut_bound A _ n w hE hn).mono ?_
    rintro e w' ⟨rfl, rfl⟩
    exact ⟨rfl, h, Kept.refl _ _⟩
  · by_cases hl : l = -2
    · subst hl
      simp only [cC, cL, if_neg hn, if_pos]
      refine (pcut_off A p q B n w h hE hn).mono ?_
      rintro e w' ⟨rfl, rfl⟩
      exact ⟨rfl, h, Kept.refl _ _⟩
    · simp only [cC, cL, if_neg hn, if_neg hl]
      exact pcut_ok p q B l n w h hl hn
/-- A read: its error's number. -/
def rC (B : ByteArray) (l a n : Int) : Nat := if a < 0 ∨ n < 0 ∨ (B.size : Int) - n < a then 2 else if l = -2 then 6 else 0
theorem rC_zero {B : ByteArray} {l a n : Int} (h : rC B l a n = 0) : 0 ≤ a ∧ 0 ≤ n ∧ a + n ≤ B.size ∧ ¬ l = -2 := by
  unfold rC at h
  split at h
  · cases h
  · split at h
    · cases h
    · rename_i h1 h2; exact ⟨by omega, by omega, by omega, h2⟩
theorem rC_le (B : ByteArray) (l a n : Int) : rC B l a n ≤ 9 := by
  unfold rC; repeat' split
  all_goals decide
theorem read_bad (A : Nat → Addr) (p q : Nat) (B : ByteArray) (l a n : Int) (c : Nat) (w : World) (h : Pl w p q B l) (hE : HeldE w A) (hB : B.size ≤ 1000) (hn9 : n ≤ 9223372036854775807) (hc : rC B l a n = c + 1) :
    Calls Tryd.prog 36 #[.pointer (some ⟨p, 0, none⟩), .int .i64 a, .int .i64 n] w fun e w' => e = .returned (.tuple #[.string ⟨#[]⟩, .iface 107 (.pointer (some (A c)))]) ∧ w' = w := by
  unfold rC at hc
  split at hc
  · rename_i hb
    obtain rfl : c = 1 := by omega
    exact pread_bound A p q B l a n w h hE hB hn9 hb
  · rename_i hb
    split at hc
    · rename_i hl
      subst hl
      obtain rfl : c = 5 := by omega
      exact pread_off A p q B a n w h hE hB hb
    · omega
/-- coded of an error and its own number. -/
theorem coded_ev (A : Nat → Addr) (c : Nat) (w : World) (hE : Held9 w A) (hc : c ≤ 9) :
    Calls Tryd.prog 17 #[ev A c, .int .i64 c] w fun e w' => e = .returned (.bool true) ∧ Below w.heap.size w w' := by
  match c, hc with
  | 0, _ =>
    refine (coded_nil 0 w).mono ?_
    rintro e w' ⟨rfl, rfl⟩
    exact ⟨rfl, Below.refl _ _⟩
  | c + 1, hc =>
    refine (coded_at A c _ w hE (by omega)).mono ?_
    rintro e w' ⟨rfl, hb⟩
    refine ⟨?_, hb⟩
    have : ((c : Int) + 1 == ((c + 1 : Nat) : Int)) = true := by simp
    rw [this]
end Go.Proofs.YtkbbjkiinpimiaaDoor
