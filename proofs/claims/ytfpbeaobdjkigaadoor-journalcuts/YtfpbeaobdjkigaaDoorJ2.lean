/-
  What a write by the plate's own answer is.
-/
import Derived.Test.YtfpbeaobdjkigaaDoorJD
import Derived.Test.YtfpbeaobdjkigaaDoorP8
namespace Go.Proofs.YtfpbeaobdjkigaaDoor
open Go.RowKit

/-- What the plate answers to a write that lies on it: done, or cut ahead of its end. -/
theorem wr_of (B s : ByteArray) (l : Int) (a : Nat) (h : a + s.size ≤ B.size) (h0 : 0 < s.size) : Wr B.data.toList a s.data.toList (wB B s l a).data.toList (wC B s l a) := by
  have hb : ¬ wBad B s a := by unfold wBad; omega
  by_cases hl : l = -2
  · simp only [wC, wB, if_neg hb, if_pos hl]
    exact .inr ⟨rfl, 0, by rw [← size_list]; exact h0, by rw [List.take_zero, putL_nil]⟩
  · by_cases hn : 0 ≤ l ∧ l < s.size
    · simp only [wC, wB, if_neg hb, if_neg hl, if_pos hn, Int.toNat_natCast]
      refine .inr ⟨rfl, l.toNat, by rw [← size_list]; omega, ?_⟩
      rw [putB_putL (by omega)]
    · simp only [wC, wB, if_neg hb, if_neg hl, if_neg hn, Int.toNat_natCast]
      refine .inl ⟨rfl, ?_⟩
      rw [putB_putL (Nat.le_refl _), size_list, List.take_length]
theorem wL_off (B s : ByteArray) (l : Int) (a : Nat) (h : wC B s l a = 6) : wL B s l a = -2 := by
  unfold wC at h
  unfold wL
  split at h
  · cases h
  · rename_i hb
    rw [if_neg hb]
    split at h
    · rename_i hl; rw [if_pos hl]
    · rename_i hl
      rw [if_neg hl]
      split at h
      · rename_i hn; rw [if_pos hn]
      · cases h
theorem bits_xor_nat (a b : Nat) (ha : a < 9223372036854775808) (hb : b < 9223372036854775808) : bits .xor .i64 (a : Int) (b : Int) = ((a ^^^ b : Nat) : Int) := by
  have hx : a ^^^ b < 2 ^ 63 := Nat.xor_lt_two_pow (by omega) (by omega)
  show IntKind.i64.wrap ((BitVec.ofInt 64 (a : Int) ^^^ BitVec.ofInt 64 (b : Int)).toNat : Int) = _
  rw [BitVec.toNat_xor, ofInt_nat a ha, ofInt_nat b hb, IntKind.wrap_i64]
  omega
end Go.Proofs.YtfpbeaobdjkigaaDoor
