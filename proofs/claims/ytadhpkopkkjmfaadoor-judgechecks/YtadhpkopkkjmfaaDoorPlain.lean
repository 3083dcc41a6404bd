/-
  PLAIN MATHEMATICS, no Go text: weights as a list of integers, a set of sites as the bits of a number: what a set weighs ('sumTo'), what all weigh ('tot'), which number an error has ('errW', 'errS'), what is enough ('enoughB'); that two quorums meet.
-/
import Derived.WalkKit
namespace Go.Proofs.YtadhpkopkkjmfaaDoor
open Go.RowKit

/-! ### Bits of an int that is not below 0 -/
theorem ofInt_nat (a : Nat) (ha : a < 9223372036854775808) : (BitVec.ofInt 64 (a : Int)).toNat = a := by
  rw [BitVec.ofInt_natCast, BitVec.toNat_ofNat]; exact Nat.mod_eq_of_lt (by omega)
theorem bits_and_nat (a b : Nat) (ha : a < 9223372036854775808) (hb : b < 9223372036854775808) : bits .and .i64 (a : Int) (b : Int) = ((a &&& b : Nat) : Int) := by
  have hx : a &&& b < 2 ^ 63 := Nat.and_lt_two_pow _ (by omega)
  show IntKind.i64.wrap ((BitVec.ofInt 64 (a : Int) &&& BitVec.ofInt 64 (b : Int)).toNat : Int) = _
  rw [BitVec.toNat_and, ofInt_nat a ha, ofInt_nat b hb, IntKind.wrap_i64]
  omega
theorem bits_or_nat (a b : Nat) (ha : a < 9223372036854775808) (hb : b < 9223372036854775808) : bits .or .i64 (a : Int) (b : Int) = ((a ||| b : Nat) : Int) := by
  have hx : a ||| b < 2 ^ 63 := Nat.or_lt_two_pow (by omega) (by omega)
  show IntKind.i64.wrap ((BitVec.ofInt 64 (a : Int) ||| BitVec.ofInt 64 (b : Int)).toNat : Int) = _
  rw [BitVec.toNat_or, ofInt_nat a ha, ofInt_nat b hb, IntKind.wrap_i64]
  omega

/-- Is site k in set s? -/
def bit (s : Int) (k : Nat) : Bool := s.toNat.testBit k
/-- What the sites of set s below k weigh. -/
def sumTo (zs : List Int) (s : Int) : Nat → Int
  | 0 => 0
  | k + 1 => sumTo zs s k + if bit s k then zs.getD k 0 else 0
/-- What all sites below k weigh. -/
def psum (zs : List Int) : Nat → Int
  | 0 => 0
  | k + 1 => psum zs k + zs.getD k 0
def tot (zs : List Int) : Int := psum zs zs.length
/-- Are the first k weights within their bounds? -/
def okTo (zs : List Int) (k : Nat) : Prop := ∀ i, i < k → 0 ≤ zs.getD i 0 ∧ zs.getD i 0 ≤ 1000
/-- The number of weights' error (0: none). -/
def errW (zs : List Int) : Nat :=
  if zs.length < 1 ∨ 7 < zs.length then 3 else if (zs.all fun n => decide (0 ≤ n ∧ n ≤ 1000)) = true then (if tot zs = 0 then 4 else 0) else 2
/-- The number of a set's error. -/
def errS (zs : List Int) (s : Int) : Nat := if errW zs = 0 then (if s < 0 ∨ 2 ^ zs.length ≤ s then 2 else 0) else errW zs
def enoughB (zs : List Int) (s : Int) : Bool := decide (tot zs < 2 * sumTo zs s zs.length)

theorem getD_lt (zs : List Int) (k : Nat) (h : k < zs.length) : zs.getD k 0 = zs[k] := by simp [h]
theorem okTo_all (zs : List Int) : okTo zs zs.length ↔ (zs.all fun n => decide (0 ≤ n ∧ n ≤ 1000)) = true := by
  rw [List.all_eq_true]
  constructor
  · intro h x hx
    obtain ⟨i, hi, rfl⟩ := List.getElem_of_mem hx
    have := h i hi
    rw [getD_lt zs i hi] at this
    simpa using this
  · intro h i hi
    have := h zs[i] (List.getElem_mem hi)
    rw [getD_lt zs i hi]
    simpa using this
theorem okTo_succ {zs : List Int} {k : Nat} (h : okTo zs k) (h0 : 0 ≤ zs.getD k 0) (h1 : zs.getD k 0 ≤ 1000) : okTo zs (k + 1) := by
  intro i hi
  rcases Nat.lt_succ_iff_lt_or_eq.1 hi with h' | rfl
  · exact h i h'
  · exact ⟨h0, h1⟩
theorem psum_bd {zs : List Int} : ∀ {k : Nat}, okTo zs k → 0 ≤ psum zs k ∧ psum zs k ≤ 1000 * k
  | 0, _ => by simp [psum]
  | k + 1, h => by
    have ih := psum_bd (k := k) (fun i hi => h i (Nat.lt_succ_of_lt hi))
    have := h k (Nat.lt_succ_self k)
    simp only [psum]; omega
theorem sumTo_bd {zs : List Int} (s : Int) : ∀ {k : Nat}, okTo zs k → 0 ≤ sumTo zs s k ∧ sumTo zs s k ≤ psum zs k
  | 0, _ => by simp [psum, sumTo]
  | k + 1, h => by
    have ih := sumTo_bd s (k := k) (fun i hi => h i (Nat.lt_succ_of_lt hi))
    have := h k (Nat.lt_succ_self k)
    simp only [psum, sumTo]; split <;> omega
theorem errW_shape {zs : List Int} (h : zs.length < 1 ∨ 7 < zs.length) : errW zs = 3 := by unfold errW; rw [if_pos h]
theorem errW_bound {zs : List Int} (h : ¬ (zs.length < 1 ∨ 7 < zs.length)) {k : Nat} (hk : k < zs.length) (hb : zs.getD k 0 < 0 ∨ 1000 < zs.getD k 0) : errW zs = 2 := by
  unfold errW; rw [if_neg h, if_neg]
  rw [← okTo_all]; intro g; have := g k hk; omega
theorem errW_ok {zs : List Int} (h : ¬ (zs.length < 1 ∨ 7 < zs.length)) (g : okTo zs zs.length) : errW zs = if tot zs = 0 then 4 else 0 := by
  unfold errW; rw [if_neg h, if_pos ((okTo_all zs).1 g)]
theorem errW_zero {zs : List Int} (h : errW zs = 0) : 1 ≤ zs.length ∧ zs.length ≤ 7 ∧ okTo zs zs.length ∧ tot zs ≠ 0 := by
  unfold errW at h
  split at h
  · cases h
  · split at h
    · split at h
      · cases h
      · refine ⟨by omega, by omega, (okTo_all zs).2 (by assumption), by assumption⟩
    · cases h
theorem errS_zero {zs : List Int} {s : Int} (h : errS zs s = 0) : errW zs = 0 ∧ 0 ≤ s ∧ s < 2 ^ zs.length := by
  unfold errS at h
  split at h
  · split at h
    · cases h
    · exact ⟨by assumption, by omega, by omega⟩
  · exact absurd h (by assumption)
theorem errS_mk {zs : List Int} {s : Int} (h : errW zs = 0) (h0 : 0 ≤ s) (h1 : s < 2 ^ zs.length) : errS zs s = 0 := by
  unfold errS; rw [if_pos h, if_neg (by omega)]
theorem pow_le7 {n : Nat} (h : n ≤ 7) : (2 : Int) ^ n ≤ 128 ∧ (1 : Int) ≤ 2 ^ n := by
  have : n = 0 ∨ n = 1 ∨ n = 2 ∨ n = 3 ∨ n = 4 ∨ n = 5 ∨ n = 6 ∨ n = 7 := by omega
  rcases this with rfl | rfl | rfl | rfl | rfl | rfl | rfl | rfl <;> decide
theorem pow_le30 {n : Nat} (h : n ≤ 30) : (2 : Int) ^ n ≤ 1073741824 ∧ (1 : Int) ≤ 2 ^ n := by
  have h1 : (2 : Nat) ^ n ≤ 2 ^ 30 := Nat.pow_le_pow_right (by decide) h
  have h2 : 1 ≤ (2 : Nat) ^ n := Nat.one_le_two_pow
  have e : ((2 : Int) ^ n) = (((2 : Nat) ^ n : Nat) : Int) := by simp
  rw [e]; constructor
  · have : (2 : Nat) ^ 30 = 1073741824 := by decide
    omega
  · omega
theorem bit_and {s : Int} (k : Nat) (h0 : 0 ≤ s) (h1 : s < 9223372036854775808) : (bits BinOp.and IntKind.i64 (s / 2 ^ k) 1 == 1) = bit s k := by
  obtain ⟨m, rfl⟩ := Int.eq_ofNat_of_zero_le h0
  have e : ((m : Int) / 2 ^ k) = ((m / 2 ^ k : Nat) : Int) := by simp
  have hlt : m / 2 ^ k < 9223372036854775808 := Nat.lt_of_le_of_lt (Nat.div_le_self _ _) (by omega)
  rw [e, show (1 : Int) = ((1 : Nat) : Int) from rfl, bits_and_nat _ 1 hlt (by decide), Nat.and_one_is_mod]
  unfold bit
  rw [Int.toNat_natCast, Nat.testBit_eq_decide_div_mod_eq, Bool.eq_iff_iff]
  simp; omega
theorem bit_two {n k : Nat} (h : k < n) : bit (2 ^ n - 1) k = true := by
  unfold bit
  have e : ((2 : Int) ^ n - 1).toNat = 2 ^ n - 1 := by
    have h2 : 1 ≤ (2 : Nat) ^ n := Nat.one_le_two_pow
    have e : ((2 : Int) ^ n) = (((2 : Nat) ^ n : Nat) : Int) := by simp
    rw [e]; omega
  rw [e, Nat.testBit_two_pow_sub_one]; simpa using h
theorem sumTo_all (zs : List Int) {n : Nat} : ∀ {k : Nat}, k ≤ n → sumTo zs (2 ^ n - 1) k = psum zs k
  | 0, _ => rfl
  | k + 1, h => by simp only [sumTo, psum]; rw [sumTo_all zs (k := k) (by omega), bit_two (by omega)]; simp
end Go.Proofs.YtadhpkopkkjmfaaDoor
