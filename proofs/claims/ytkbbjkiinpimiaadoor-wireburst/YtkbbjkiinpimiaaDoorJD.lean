/-
  PLAIN MATHEMATICS of the sum: the byte laid over the low bits first, then eight bits; the same sum.
-/
import Derived.Test.YtkbbjkiinpimiaaDoorJ1
namespace Go.Proofs.YtkbbjkiinpimiaaDoor

/-- One bit, the byte laid over the sum before. -/
def devBit (c : Nat) : Nat := if c % 2 = 1 then (c / 2) ^^^ 3988292384 else c / 2
def devBits (c : Nat) : Nat → Nat
  | 0 => c
  | k + 1 => devBit (devBits c k)
theorem xor_half (x y : Nat) : (x ^^^ y) / 2 = x / 2 ^^^ y / 2 := by
  apply Nat.eq_of_testBit_eq
  intro i
  simp [Nat.testBit_xor, Nat.testBit_div_two]
theorem dev_step (c b k : Nat) : devBit (c ^^^ b / 2 ^ k) = crcBit c b k ^^^ b / 2 ^ (k + 1) := by
  have e : b / 2 ^ k / 2 = b / 2 ^ (k + 1) := by rw [Nat.div_div_eq_div_mul, Nat.pow_succ]
  unfold devBit crcBit
  split
  · rw [xor_half, e, Nat.xor_assoc, Nat.xor_assoc, Nat.xor_comm 3988292384]
  · rw [xor_half, e]
theorem dev_bits (c b : Nat) : ∀ k, devBits (c ^^^ b) k = crcBits c b k ^^^ b / 2 ^ k
  | 0 => by simp [devBits, crcBits]
  | k + 1 => by rw [devBits, dev_bits c b k, dev_step]; rfl
/-- Eight bits, either way. -/
theorem dev_eight (c : Nat) (b : UInt8) : devBits (c ^^^ b.toNat) 8 = crcBits c b.toNat 8 := by
  rw [dev_bits]
  have h := UInt8.toNat_lt b
  rw [show b.toNat / 2 ^ 8 = 0 by omega, Nat.xor_zero]
theorem devBit_lt {c : Nat} (h : c < 4294967296) : devBit c < 4294967296 := by
  unfold devBit
  split
  · exact Nat.xor_lt_two_pow (n := 32) (by omega) (by decide)
  · omega
theorem devBits_lt {c : Nat} (h : c < 4294967296) : ∀ k, devBits c k < 4294967296
  | 0 => h
  | k + 1 => devBit_lt (devBits_lt h k)

end Go.Proofs.YtkbbjkiinpimiaaDoor
