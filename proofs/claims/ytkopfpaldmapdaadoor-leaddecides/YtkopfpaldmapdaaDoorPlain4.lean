/-
  PLAIN MATHEMATICS, no Go text: which sites of a quorum are needed: one by one ('neededTo'), and by taking away the lowest bit of what is left ('low').
-/
import Derived.Test.YtkopfpaldmapdaaDoorPlain3
namespace Go.Proofs.YtkopfpaldmapdaaDoor
open Go.RowKit

/-- The needed sites of set s below k, as a set: sites without which s is no quorum. -/
def neededTo (zs : List Int) (s : Int) : Nat → Int
  | 0 => 0
  | k + 1 => neededTo zs s k + if bit s k && !enoughB zs (s - 2 ^ k) then 2 ^ k else 0
def neededN (zs : List Int) (s : Int) : Int := if enoughB zs s then neededTo zs s zs.length else 0

theorem neededTo_bd (zs : List Int) (s : Int) : ∀ k, 0 ≤ neededTo zs s k ∧ neededTo zs s k < 2 ^ k
  | 0 => by simp [neededTo]
  | k + 1 => by
    have ih := neededTo_bd zs s k
    have e : (2 : Int) ^ (k + 1) = 2 * 2 ^ k := by rw [Int.pow_succ]; omega
    simp only [neededTo]; rw [e]; split <;> omega
theorem neededTo_skip (zs : List Int) (s : Int) {p : Nat} : ∀ {q : Nat}, p ≤ q → (∀ i, p ≤ i → i < q → bit s i = false) → neededTo zs s q = neededTo zs s p
  | 0, h, _ => by
    have : p = 0 := by omega
    rw [this]
  | q + 1, h, hz => by
    rcases Nat.lt_or_ge q p with h' | h'
    · have : p = q + 1 := by omega
      rw [this]
    · simp only [neededTo]
      rw [hz q h' (by omega), neededTo_skip zs s h' (fun i h1 h2 => hz i h1 (by omega))]
      simp
/-- One round of taking the lowest bit away, at every set of at most seven sites and every place. -/
def lowB (s p : Nat) : Bool :=
  let rest : Int := ((s / 2 ^ p * 2 ^ p : Nat) : Int)
  (rest == 0) || (List.range 7).any fun q => decide (p ≤ q) && (bits .and .i64 rest (-rest) == 2 ^ q) && (bits .and .i64 rest (rest - 1) == ((s / 2 ^ (q + 1) * 2 ^ (q + 1) : Nat) : Int)) && (bits .andNot .i64 (s : Int) (2 ^ q) == (s : Int) - 2 ^ q) && bit s q && decide (s / 2 ^ (q + 1) * 2 ^ (q + 1) < s / 2 ^ p * 2 ^ p) && (List.range q).all fun i => decide (i < p) || !bit s i
theorem lowAll : ((List.range 128).all fun s => (List.range 8).all fun p => lowB s p) = true := by decide +kernel
theorem low {s p : Nat} (hs : s < 128) (hp : p < 8) (h0 : ((s / 2 ^ p * 2 ^ p : Nat) : Int) ≠ 0) :
    ∃ q, p ≤ q ∧ q < 7 ∧ bits .and .i64 ((s / 2 ^ p * 2 ^ p : Nat) : Int) (-((s / 2 ^ p * 2 ^ p : Nat) : Int)) = 2 ^ q ∧ bits .and .i64 ((s / 2 ^ p * 2 ^ p : Nat) : Int) (((s / 2 ^ p * 2 ^ p : Nat) : Int) - 1) = ((s / 2 ^ (q + 1) * 2 ^ (q + 1) : Nat) : Int) ∧
      bits .andNot .i64 (s : Int) (2 ^ q) = (s : Int) - 2 ^ q ∧ bit s q = true ∧ s / 2 ^ (q + 1) * 2 ^ (q + 1) < s / 2 ^ p * 2 ^ p ∧ ∀ i, p ≤ i → i < q → bit s i = false := by
  have h := List.all_eq_true.1 (List.all_eq_true.1 lowAll s (List.mem_range.2 hs)) p (List.mem_range.2 hp)
  unfold lowB at h
  rw [Bool.or_eq_true] at h
  rcases h with h | h
  · exact absurd (by simpa using h) h0
  · obtain ⟨q, hq, h⟩ := List.any_eq_true.1 h
    simp only [Bool.and_eq_true, decide_eq_true_eq, beq_iff_eq] at h
    obtain ⟨⟨⟨⟨⟨⟨h1, h2⟩, h3⟩, h4⟩, h5⟩, h7⟩, h6⟩ := h
    refine ⟨q, h1, List.mem_range.1 hq, h2, h3, h4, h5, h7, fun i hi1 hi2 => ?_⟩
    have := List.all_eq_true.1 h6 i (List.mem_range.2 hi2)
    simp at this
    rcases this with h | h
    · omega
    · exact h
theorem bit_pow_le {s : Int} {q : Nat} (h0 : 0 ≤ s) (h : bit s q = true) : 2 ^ q ≤ s := by
  obtain ⟨m, rfl⟩ := Int.eq_ofNat_of_zero_le h0
  unfold bit at h
  rw [Int.toNat_natCast] at h
  have := Nat.ge_two_pow_of_testBit h
  rw [pow_nat]; omega
theorem pow_lt_pow {q n : Nat} (h : (2 : Int) ^ q < 2 ^ n) : q < n := by
  rw [pow_nat, pow_nat] at h
  exact (Nat.pow_lt_pow_iff_right (a := 2) (by decide)).1 (Int.ofNat_lt.1 h)
theorem or_pow {x : Int} {q : Nat} (hq : q < 7) (h0 : 0 ≤ x) (h1 : x < 2 ^ q) : bits .or .i64 x (2 ^ q) = x + 2 ^ q := by
  obtain ⟨m, rfl⟩ := Int.eq_ofNat_of_zero_le h0
  have hp := (pow_le7 (n := q) (by omega)).1
  rw [pow_nat] at h1 hp ⊢
  rw [bits_or_nat m (2 ^ q) (by omega) (by omega)]
  have h2 := Nat.two_pow_add_eq_or_of_lt (i := q) (b := m) (by omega) 1
  rw [Nat.mul_one, Nat.or_comm] at h2
  rw [← h2]; omega
theorem bit_has {s : Int} (k : Nat) (h0 : 0 ≤ s) : (s / 2 ^ k % 2 == 1) = bit s k := by
  obtain ⟨m, rfl⟩ := Int.eq_ofNat_of_zero_le h0
  unfold bit
  rw [Int.toNat_natCast, Nat.testBit_eq_decide_div_mod_eq, Bool.eq_iff_iff]
  have e : ((m : Int) / 2 ^ k) = ((m / 2 ^ k : Nat) : Int) := by simp
  rw [e]
  simp; omega
theorem enoughB_alt (zs : List Int) (s : Int) : decide (tot zs - sumTo zs s zs.length < sumTo zs s zs.length) = enoughB zs s := by
  unfold enoughB; exact decide_eq_decide.2 (by omega)
end Go.Proofs.YtkopfpaldmapdaaDoor
