/-
  PLAIN MATHEMATICS, no Go text: GIFFORD: two quorums have a site in common; of a set and the others at most one is a quorum; a quorum with more sites is one; all sites are one.
-/
import Derived.Test.YtadhpkopkkjmfaaDoorPlain
namespace Go.Proofs.YtadhpkopkkjmfaaDoor
open Go.RowKit

theorem pow_nat (n : Nat) : ((2 : Int) ^ n) = (((2 : Nat) ^ n : Nat) : Int) := by simp
theorem bit_compl {n : Nat} {a : Int} (h0 : 0 ≤ a) (h1 : a < 2 ^ n) {k : Nat} (hk : k < n) : bit (2 ^ n - 1 - a) k = !bit a k := by
  obtain ⟨m, rfl⟩ := Int.eq_ofNat_of_zero_le h0
  rw [pow_nat] at h1
  unfold bit
  have e : ((2 : Int) ^ n - 1 - (m : Int)).toNat = 2 ^ n - (m + 1) := by rw [pow_nat]; omega
  rw [e, Nat.testBit_two_pow_sub_succ (by omega)]
  simp [hk]
theorem sumTo_compl (zs : List Int) {n : Nat} {a : Int} (h0 : 0 ≤ a) (h1 : a < 2 ^ n) : ∀ {k : Nat}, k ≤ n → sumTo zs (2 ^ n - 1 - a) k + sumTo zs a k = psum zs k
  | 0, _ => by simp [sumTo, psum]
  | k + 1, h => by
    have ih := sumTo_compl zs h0 h1 (k := k) (by omega)
    simp only [sumTo, psum]
    rw [bit_compl h0 h1 (k := k) (by omega)]
    cases bit a k <;> simp <;> omega
theorem bit_or {a b : Int} (h0 : 0 ≤ a) (h1 : a < 128) (g0 : 0 ≤ b) (g1 : b < 128) (k : Nat) : bit (bits .or .i64 a b) k = (bit a k || bit b k) := by
  obtain ⟨m, rfl⟩ := Int.eq_ofNat_of_zero_le h0
  obtain ⟨n, rfl⟩ := Int.eq_ofNat_of_zero_le g0
  rw [bits_or_nat m n (by omega) (by omega)]
  unfold bit
  simp [Nat.testBit_or]
theorem bit_none {a b : Int} (h0 : 0 ≤ a) (h1 : a < 128) (g0 : 0 ≤ b) (g1 : b < 128) (h : bits .and .i64 a b = 0) (k : Nat) : (bit a k && bit b k) = false := by
  obtain ⟨m, rfl⟩ := Int.eq_ofNat_of_zero_le h0
  obtain ⟨n, rfl⟩ := Int.eq_ofNat_of_zero_le g0
  rw [bits_and_nat m n (by omega) (by omega)] at h
  have e : m &&& n = 0 := by omega
  unfold bit
  rw [Int.toNat_natCast, Int.toNat_natCast, ← Nat.testBit_and, e, Nat.zero_testBit]
theorem sumTo_or {zs : List Int} {a b : Int} (h0 : 0 ≤ a) (h1 : a < 128) (g0 : 0 ≤ b) (g1 : b < 128) : ∀ {k : Nat}, okTo zs k → sumTo zs a k ≤ sumTo zs (bits .or .i64 a b) k
  | 0, _ => by simp [sumTo]
  | k + 1, h => by
    have ih := sumTo_or h0 h1 g0 g1 (k := k) (fun i hi => h i (by omega))
    have := h k (by omega)
    simp only [sumTo]
    rw [bit_or h0 h1 g0 g1]
    generalize zs.getD k 0 = z at *
    cases bit a k <;> cases bit b k <;> simp <;> omega
theorem sumTo_apart {zs : List Int} {a b : Int} (h0 : 0 ≤ a) (h1 : a < 128) (g0 : 0 ≤ b) (g1 : b < 128) (hab : bits .and .i64 a b = 0) : ∀ {k : Nat}, okTo zs k → sumTo zs a k + sumTo zs b k ≤ psum zs k
  | 0, _ => by simp [sumTo, psum]
  | k + 1, h => by
    have ih := sumTo_apart h0 h1 g0 g1 hab (k := k) (fun i hi => h i (by omega))
    have := h k (by omega)
    have hn := bit_none h0 h1 g0 g1 hab k
    simp only [sumTo, psum]
    revert hn
    generalize zs.getD k 0 = z at *
    cases bit a k <;> cases bit b k <;> simp <;> omega
theorem or_lt {n : Nat} {a b : Int} (hn : n ≤ 7) (h0 : 0 ≤ a) (h1 : a < 2 ^ n) (g0 : 0 ≤ b) (g1 : b < 2 ^ n) : 0 ≤ bits .or .i64 a b ∧ bits .or .i64 a b < 2 ^ n := by
  have hp := (pow_le7 hn).1
  obtain ⟨m, rfl⟩ := Int.eq_ofNat_of_zero_le h0
  obtain ⟨l, rfl⟩ := Int.eq_ofNat_of_zero_le g0
  rw [pow_nat] at h1 g1 hp ⊢
  have : m ||| l < 2 ^ n := Nat.or_lt_two_pow (by omega) (by omega)
  rw [bits_or_nat m l (by omega) (by omega)]
  omega

theorem errS_compl {zs : List Int} {a : Int} (h : errS zs a = 0) : errS zs (2 ^ zs.length - 1 - a) = 0 := by
  obtain ⟨h1, h2, h3⟩ := errS_zero h
  exact errS_mk h1 (by omega) (by omega)
theorem errS_or {zs : List Int} {a b : Int} (h : errS zs a = 0) (g : errS zs b = 0) : errS zs (bits .or .i64 a b) = 0 := by
  obtain ⟨h1, h2, h3⟩ := errS_zero h
  obtain ⟨-, g2, g3⟩ := errS_zero g
  have := or_lt (errW_zero h1).2.1 h2 h3 g2 g3
  exact errS_mk h1 this.1 this.2
theorem errS_all {zs : List Int} (h : errW zs = 0) : errS zs (2 ^ zs.length - 1) = 0 := by
  have := (pow_le7 (errW_zero h).2.1).2
  exact errS_mk h (by omega) (by omega)
theorem lt128 {zs : List Int} {a : Int} (h : errS zs a = 0) : 0 ≤ a ∧ a < 128 := by
  obtain ⟨h1, h2, h3⟩ := errS_zero h
  have := (pow_le7 (errW_zero h1).2.1).1
  omega
/-- Two quorums have a site in common. -/
theorem meet {zs : List Int} {a b : Int} (h : errS zs a = 0) (g : errS zs b = 0) (x : enoughB zs a = true) (y : enoughB zs b = true) : (bits .and .i64 a b == 0) = false := by
  rw [beq_eq_false_iff_ne]
  intro e
  have ha := lt128 h
  have hb := lt128 g
  have := sumTo_apart ha.1 ha.2 hb.1 hb.2 e (errW_zero (errS_zero h).1).2.2.1
  unfold enoughB tot at x y
  have x' := of_decide_eq_true x
  have y' := of_decide_eq_true y
  omega
/-- The others are none. -/
theorem others {zs : List Int} {a : Int} (h : errS zs a = 0) (x : enoughB zs a = true) : enoughB zs (2 ^ zs.length - 1 - a) = false := by
  obtain ⟨-, h2, h3⟩ := errS_zero h
  have := sumTo_compl zs h2 h3 (Nat.le_refl _)
  unfold enoughB tot at x ⊢
  have x' := of_decide_eq_true x
  exact decide_eq_false (by omega)
theorem more {zs : List Int} {a b : Int} (h : errS zs a = 0) (g : errS zs b = 0) (x : enoughB zs a = true) : enoughB zs (bits .or .i64 a b) = true := by
  have ha := lt128 h
  have hb := lt128 g
  have := sumTo_or ha.1 ha.2 hb.1 hb.2 (errW_zero (errS_zero h).1).2.2.1
  unfold enoughB at x ⊢
  have x' := of_decide_eq_true x
  exact decide_eq_true (by omega)
theorem allEnough {zs : List Int} (h : errW zs = 0) : enoughB zs (2 ^ zs.length - 1) = true := by
  obtain ⟨h1, h2, h3, h4⟩ := errW_zero h
  have := psum_bd h3
  unfold tot at h4
  unfold enoughB tot
  rw [sumTo_all zs (Nat.le_refl _)]
  exact decide_eq_true (by omega)
end Go.Proofs.YtadhpkopkkjmfaaDoor
