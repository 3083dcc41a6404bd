/-
  PLAIN MATHEMATICS of a burst: the sum of bytes as a register that takes bit after bit; it is linear, and no turn of it makes 0 of another number: so a burst of at most 32 bits is seen, also over text and sum.
-/
import Derived.Test.YtkbbjkiinpimiaaDoorJD
namespace Go.Proofs.YtkbbjkiinpimiaaDoor

theorem devBit_xor (a b : Nat) : devBit (a ^^^ b) = devBit a ^^^ devBit b := by
  have hp : (a ^^^ b) % 2 = (a % 2 + b % 2) % 2 := by
    have h := congrArg (· % 2) (show a ^^^ b = a ^^^ b from rfl)
    have e : (a ^^^ b) % 2 = (a % 2) ^^^ (b % 2) := by
      rw [show (2 : Nat) = 2 ^ 1 from rfl, Nat.xor_mod_two_pow]
    rcases (show a % 2 = 0 ∨ a % 2 = 1 by omega) with ha | ha <;> rcases (show b % 2 = 0 ∨ b % 2 = 1 by omega) with hb | hb <;> rw [e, ha, hb] <;> rfl
  unfold devBit
  rw [xor_half]
  rcases (show a % 2 = 0 ∨ a % 2 = 1 by omega) with ha | ha <;> rcases (show b % 2 = 0 ∨ b % 2 = 1 by omega) with hb | hb
  · rw [if_neg (by omega), if_neg (by omega), if_neg (by omega)]
  · rw [if_pos (by omega), if_neg (by omega), if_pos (by omega), Nat.xor_assoc]
  · rw [if_pos (by omega), if_pos (by omega), if_neg (by omega), Nat.xor_assoc, Nat.xor_assoc, Nat.xor_comm (b / 2)]
  · rw [if_neg (by omega), if_pos (by omega), if_pos (by omega)]
    rw [Nat.xor_assoc, Nat.xor_comm 3988292384, Nat.xor_assoc, Nat.xor_self, Nat.xor_zero]
theorem devBit_even (w : Nat) : devBit (2 * w) = w := by
  unfold devBit
  rw [if_neg (by omega)]
  omega
theorem devBit_zero {x : Nat} (hx : x < 4294967296) (h : devBit x = 0) : x = 0 := by
  unfold devBit at h
  split at h
  · exfalso
    have e : x / 2 = 3988292384 := by
      have := congrArg (· ^^^ 3988292384) h
      simpa [Nat.xor_assoc] using this
    omega
  · omega

/-- Bit n of bytes, the lowest of each byte first. -/
def bitL (l : List UInt8) (n : Nat) : Bool := (l.getD (n / 8) 0).toNat.testBit (n % 8)
/-- The register behind n bits. -/
def regL (l : List UInt8) : Nat → Nat
  | 0 => 4294967295
  | n + 1 => devBit (regL l n ^^^ (bitL l n).toNat)
theorem testBit_div (b k : Nat) : b / 2 ^ k % 2 = (b.testBit k).toNat := by
  rw [Nat.testBit_eq_decide_div_mod_eq]
  rcases (show b / 2 ^ k % 2 = 0 ∨ b / 2 ^ k % 2 = 1 by omega) with h | h <;> rw [h] <;> rfl
theorem crcBit_dev (c b k : Nat) : crcBit c b k = devBit (c ^^^ (b.testBit k).toNat) := by
  rw [← testBit_div]
  have e : (c ^^^ b / 2 ^ k) % 2 = (c ^^^ b / 2 ^ k % 2) % 2 := by
    rw [show (2 : Nat) = 2 ^ 1 from rfl, Nat.xor_mod_two_pow, Nat.xor_mod_two_pow, Nat.mod_mod]
  unfold crcBit devBit
  rw [xor_half, e, show b / 2 ^ k % 2 / 2 = 0 by omega, Nat.xor_zero]
theorem reg_bits (l : List UInt8) (m : Nat) : ∀ k, k ≤ 8 → crcBits (regL l (8 * m)) (l.getD m 0).toNat k = regL l (8 * m + k)
  | 0, _ => rfl
  | k + 1, h => by
    rw [crcBits, reg_bits l m k (by omega), crcBit_dev]
    show _ = devBit (regL l (8 * m + k) ^^^ (bitL l (8 * m + k)).toNat)
    unfold bitL
    rw [show (8 * m + k) / 8 = m by omega, show (8 * m + k) % 8 = k by omega]
theorem crc_reg (l : List UInt8) : ∀ m, m ≤ l.length → crcFold 4294967295 (l.take m) = regL l (8 * m)
  | 0, _ => rfl
  | m + 1, h => by
    have hm : m < l.length := by omega
    rw [List.take_add_one, List.getElem?_eq_getElem hm]
    show crcFold _ (l.take m ++ [l[m]]) = _
    rw [crcFold_snoc, crc_reg l m (by omega), show 8 * (m + 1) = 8 * m + 8 by omega, ← reg_bits l m 8 (Nat.le_refl _)]
    rw [List.getD_eq_getElem?_getD, List.getElem?_eq_getElem hm]
    rfl
theorem regL_lt (l : List UInt8) : ∀ n, regL l n < 4294967296
  | 0 => by show 4294967295 < 4294967296; decide
  | n + 1 => devBit_lt (Nat.xor_lt_two_pow (n := 32) (regL_lt l n) (by cases bitL l n <;> decide))

/-- A run of bits as a number, the first the lowest. -/
def wordAt (d : Nat → Bool) (n : Nat) : Nat → Nat
  | 0 => 0
  | c + 1 => (d n).toNat + 2 * wordAt d (n + 1) c
theorem wordAt_lt (d : Nat → Bool) : ∀ c n, wordAt d n c < 2 ^ c
  | 0, _ => by simp [wordAt]
  | c + 1, n => by
    have := wordAt_lt d c (n + 1)
    have h : (d n).toNat ≤ 1 := Bool.toNat_le (d n)
    simp only [wordAt, Nat.pow_succ]
    omega
theorem wordAt_last (d : Nat → Bool) : ∀ c n, d (n + c) = false → wordAt d n (c + 1) = wordAt d n c
  | 0, n, h => by
    have h' : d n = false := h
    simp [wordAt, h']
  | c + 1, n, h => by
    have := wordAt_last d c (n + 1) (by rw [show n + 1 + c = n + (c + 1) by omega]; exact h)
    rw [wordAt, this, wordAt]
theorem wordAt_zero (d : Nat → Bool) : ∀ c n, wordAt d n c = 0 → ∀ i, i < c → d (n + i) = false
  | 0, _, _, i, hi => absurd hi (Nat.not_lt_zero i)
  | c + 1, n, h, i, hi => by
    simp only [wordAt] at h
    cases i with
    | zero => cases hd : d n with
      | false => rfl
      | true => rw [hd] at h; simp at h
    | succ i =>
      have := wordAt_zero d c (n + 1) (by omega) i (by omega)
      rwa [show n + 1 + i = n + (i + 1) by omega] at this
theorem xor_low (b : Bool) (w : Nat) : b.toNat ^^^ (2 * w) = b.toNat + 2 * w := by
  apply Nat.eq_of_testBit_eq
  intro i
  cases i with
  | zero => cases b <;> simp [Nat.testBit_zero]
  | succ i =>
    have h : ∀ (c : Bool) (z : Nat), (c.toNat + 2 * z) / 2 = z := fun c z => by have := Bool.toNat_le c; omega
    have h1 : b.toNat / 2 = 0 := by have := Bool.toNat_le b; omega
    rw [Nat.testBit_succ, Nat.testBit_succ, xor_half, h, h1, Nat.zero_xor, show 2 * w / 2 = w by omega]
/-- What two texts' registers part by: bit after bit. -/
theorem reg_diff (s t : List UInt8) (n : Nat) : regL s (n + 1) ^^^ regL t (n + 1) = devBit ((regL s n ^^^ regL t n) ^^^ (bitL s n ^^ bitL t n).toNat) := by
  show devBit _ ^^^ devBit _ = _
  rw [← devBit_xor]
  congr 1
  have e : ∀ a b : Bool, (a ^^ b).toNat = a.toNat ^^^ b.toNat := by decide
  rw [e, Nat.xor_assoc, Nat.xor_assoc]
  congr 1
  rw [← Nat.xor_assoc, Nat.xor_comm _ (regL t n), Nat.xor_assoc]
theorem reg_same (s t : List UInt8) : ∀ n, (∀ i, i < n → (bitL s i ^^ bitL t i) = false) → regL s n ^^^ regL t n = 0
  | 0, _ => Nat.xor_self _
  | n + 1, h => by
    rw [reg_diff, reg_same s t n (fun i hi => h i (by omega)), h n (by omega)]
    rfl
/-- The difference of the registers and of the next 32 bits is one number, that turns as the register. -/
theorem reg_turn (s t : List UInt8) (d : Nat → Bool) (hd : ∀ n, d n = (bitL s n ^^ bitL t n)) (n : Nat) (h : d (n + 32) = false) :
    (regL s (n + 1) ^^^ regL t (n + 1)) ^^^ wordAt d (n + 1) 32 = devBit ((regL s n ^^^ regL t n) ^^^ wordAt d n 32) := by
  rw [reg_diff, ← hd n]
  have e1 : wordAt d (n + 1) 32 = wordAt d (n + 1) 31 := wordAt_last d 31 (n + 1) (by rw [show n + 1 + 31 = n + 32 by omega]; exact h)
  have e2 : wordAt d n 32 = (d n).toNat + 2 * wordAt d (n + 1) 31 := rfl
  rw [e1, e2]
  conv => lhs; rhs; rw [← devBit_even (wordAt d (n + 1) 31)]
  rw [← devBit_xor, Nat.xor_assoc, xor_low (d n)]
theorem burst_back (s t : List UInt8) (d : Nat → Bool) (hd : ∀ n, d n = (bitL s n ^^ bitL t n)) (a : Nat) (hb : ∀ n, a + 32 ≤ n → d n = false) :
    ∀ m, (regL s (a + m) ^^^ regL t (a + m)) ^^^ wordAt d (a + m) 32 = 0 → (regL s a ^^^ regL t a) ^^^ wordAt d a 32 = 0
  | 0, h => h
  | m + 1, h => by
    have e := reg_turn s t d hd (a + m) (hb _ (by omega))
    rw [show a + (m + 1) = a + m + 1 by omega, e] at h
    refine burst_back s t d hd a hb m (devBit_zero ?_ h)
    exact Nat.xor_lt_two_pow (n := 32) (Nat.xor_lt_two_pow (n := 32) (regL_lt _ _) (regL_lt _ _)) (wordAt_lt _ _ _)
theorem xor_zero_eq {a b : Nat} (h : a ^^^ b = 0) : a = b := by
  have := congrArg (· ^^^ b) h
  simpa [Nat.xor_assoc] using this
theorem wordAt_xor (p q : Nat → Bool) : ∀ c n, wordAt (fun n => p n ^^ q n) n c = wordAt p n c ^^^ wordAt q n c
  | 0, _ => (Nat.xor_self 0).symm
  | c + 1, n => by
    have e : ∀ (a b : Bool) (x y : Nat), (a ^^ b).toNat + 2 * (x ^^^ y) = (a.toNat + 2 * x) ^^^ (b.toNat + 2 * y) := by
      intro a b x y
      apply Nat.eq_of_testBit_eq
      intro i
      cases i with
      | zero => cases a <;> cases b <;> simp [Nat.testBit_zero]
      | succ i =>
        have h : ∀ (c : Bool) (z : Nat), (c.toNat + 2 * z) / 2 = z := fun c z => by have := Bool.toNat_le c; omega
        rw [Nat.testBit_succ, Nat.testBit_succ, xor_half, h, h, h]
    simp only [wordAt]
    rw [wordAt_xor p q c (n + 1), e]
theorem xor4 (a b c d : Nat) : (a ^^^ b) ^^^ (c ^^^ d) = (a ^^^ c) ^^^ (b ^^^ d) := by
  simp only [Nat.xor_assoc]
  congr 1
  rw [← Nat.xor_assoc, Nat.xor_comm b, Nat.xor_assoc]
/-- Where the sums of two texts are well, and they part by a burst of at most 32 bits: they part nowhere. -/
theorem burst_seen (s t : List UInt8) (a : Nat) (hs : regL s 144 ^^^ wordAt (bitL s) 144 32 = 4294967295) (ht : regL t 144 ^^^ wordAt (bitL t) 144 32 = 4294967295)
    (hlo : ∀ n, n < a → bitL s n = bitL t n) (hhi : ∀ n, a + 32 ≤ n → bitL s n = bitL t n) : ∀ n, n < 176 → bitL s n = bitL t n := by
  have hd : ∀ n, (fun n => bitL s n ^^ bitL t n) n = (bitL s n ^^ bitL t n) := fun _ => rfl
  have hx : (regL s 144 ^^^ regL t 144) ^^^ wordAt (fun n => bitL s n ^^ bitL t n) 144 32 = 0 := by
    rw [wordAt_xor]
    rw [xor4, hs, ht, Nat.xor_self]
  have hsame : ∀ {p q : Bool}, (p ^^ q) = false → p = q := by decide
  have hback : ∀ {p q : Bool}, p = q → (p ^^ q) = false := by decide
  intro n hn
  by_cases ha : a ≤ 144
  · obtain ⟨m, hm⟩ := Nat.exists_eq_add_of_le ha
    rw [hm] at hx
    have h0 := burst_back s t _ hd a (fun n hn => hback (hhi n hn)) m hx
    rw [reg_same s t a (fun i hi => hback (hlo i hi)), Nat.zero_xor] at h0
    by_cases h1 : n < a
    · exact hlo n h1
    · by_cases h2 : a + 32 ≤ n
      · exact hhi n h2
      · have := wordAt_zero _ 32 a h0 (n - a) (by omega)
        rw [show a + (n - a) = n by omega] at this
        exact hsame this
  · rw [reg_same s t 144 (fun i hi => hback (hlo i (by omega))), Nat.zero_xor] at hx
    by_cases h1 : n < 144
    · exact hlo n (by omega)
    · have := wordAt_zero _ 32 144 hx (n - 144) (by omega)
      rw [show 144 + (n - 144) = n by omega] at this
      exact hsame this

/-- A number below 2^32 in four bytes, the lowest first. -/
def lowL (n : Nat) : List UInt8 := [UInt8.ofNat (n % 256), UInt8.ofNat (n / 256 % 256), UInt8.ofNat (n / 65536 % 256), UInt8.ofNat (n / 16777216 % 256)]
theorem lowL_length (n : Nat) : (lowL n).length = 4 := rfl
theorem wordAt_testBit (d : Nat → Bool) : ∀ c n i, (wordAt d n c).testBit i = (decide (i < c) && d (n + i))
  | 0, n, i => by simp [wordAt]
  | c + 1, n, i => by
    have hb : ((d n).toNat + 2 * wordAt d (n + 1) c) / 2 = wordAt d (n + 1) c := by have := Bool.toNat_le (d n); omega
    cases i with
    | zero => cases h : d n <;> simp [wordAt, Nat.testBit_zero, h]
    | succ i =>
      rw [wordAt, Nat.testBit_succ, hb, wordAt_testBit d c (n + 1) i, show n + 1 + i = n + (i + 1) by omega]
      congr 1
      simp
theorem low_byte (n i k : Nat) (hi : i < 4) (hk : k < 8) : ((lowL n).getD i 0).toNat.testBit k = n.testBit (8 * i + k) := by
  have e : ∀ x : Nat, (UInt8.ofNat (x % 256)).toNat.testBit k = x.testBit k := by
    intro x
    rw [UInt8.toNat_ofNat', show (2 : Nat) ^ 8 = 256 from rfl, Nat.mod_mod, show (256 : Nat) = 2 ^ 8 from rfl, Nat.testBit_mod_two_pow]
    simp [hk]
  have f : ∀ j x : Nat, (x / 2 ^ j).testBit k = x.testBit (j + k) := by
    intro j x
    rw [Nat.testBit_div_two_pow, Nat.add_comm]
  match i, hi with
  | 0, _ => show (UInt8.ofNat (n % 256)).toNat.testBit k = _; rw [e]; simp
  | 1, _ => show (UInt8.ofNat (n / 256 % 256)).toNat.testBit k = _; rw [e, show (256 : Nat) = 2 ^ 8 from rfl, f]
  | 2, _ => show (UInt8.ofNat (n / 65536 % 256)).toNat.testBit k = _; rw [e, show (65536 : Nat) = 2 ^ 16 from rfl, f]
  | 3, _ => show (UInt8.ofNat (n / 16777216 % 256)).toNat.testBit k = _; rw [e, show (16777216 : Nat) = 2 ^ 24 from rfl, f]
/-- The last four of 22 bytes, as a number. -/
theorem word_low (l : List UInt8) (n : Nat) (hn : n < 4294967296) (h : lowL n = l.drop 18) : wordAt (bitL l) 144 32 = n := by
  apply Nat.eq_of_testBit_eq
  intro i
  rw [wordAt_testBit]
  by_cases hi : i < 32
  · simp only [hi, decide_true, Bool.true_and]
    unfold bitL
    have e : l.getD ((144 + i) / 8) 0 = (lowL n).getD (i / 8) 0 := by
      rw [h, List.getD_eq_getElem?_getD, List.getD_eq_getElem?_getD, List.getElem?_drop, show (144 + i) / 8 = 18 + i / 8 by omega]
    rw [e, show (144 + i) % 8 = i % 8 by omega, low_byte n (i / 8) (i % 8) (by omega) (by omega), show 8 * (i / 8) + i % 8 = i by omega]
  · simp only [hi, decide_false, Bool.false_and]
    exact (Nat.testBit_lt_two_pow (Nat.lt_of_lt_of_le hn (by rw [show (4294967296 : Nat) = 2 ^ 32 from rfl]; exact Nat.pow_le_pow_right (by omega) (by omega)))).symm
/-- Is the sum behind 18 bytes well? -/
def wellL (l : List UInt8) : Prop := lowL (crcL (l.take 18)) = l.drop 18
theorem well_reg (l : List UInt8) (hl : l.length = 22) (h : wellL l) : regL l 144 ^^^ wordAt (bitL l) 144 32 = 4294967295 := by
  rw [word_low l _ (crcL_lt _) h, crcL, crc_reg l 18 (by omega), ← Nat.xor_assoc, Nat.xor_self, Nat.zero_xor]
theorem bits_eq (s t : List UInt8) (hs : s.length = 22) (ht : t.length = 22) (h : ∀ n, n < 176 → bitL s n = bitL t n) : s = t := by
  apply List.ext_getElem (by omega)
  intro i hi hj
  apply UInt8.toNat_inj.1
  apply Nat.eq_of_testBit_eq
  intro k
  by_cases hk : k < 8
  · have := h (8 * i + k) (by omega)
    unfold bitL at this
    rw [show (8 * i + k) / 8 = i by omega, show (8 * i + k) % 8 = k by omega] at this
    simpa [List.getD_eq_getElem?_getD, List.getElem?_eq_getElem hi, List.getElem?_eq_getElem hj] using this
  · have e : ∀ x : UInt8, x.toNat.testBit k = false := fun x => Nat.testBit_lt_two_pow (Nat.lt_of_lt_of_le (UInt8.toNat_lt x) (Nat.pow_le_pow_right (by omega) (by omega)))
    rw [e, e]
/-- PETERSON: a burst of at most 32 bits is seen. -/
theorem burst_law (s t : List UInt8) (a : Nat) (hs : s.length = 22) (ht : t.length = 22) (ws : wellL s) (wt : wellL t)
    (hlo : ∀ n, n < a → bitL s n = bitL t n) (hhi : ∀ n, a + 32 ≤ n → bitL s n = bitL t n) : s = t :=
  bits_eq s t hs ht (burst_seen s t a (well_reg s hs ws) (well_reg t ht wt) hlo hhi)
/-- One bit turned. -/
theorem flip_bit (l : List UInt8) (k : Nat) (x : UInt8) (hk : k < 8 * l.length) (hx : x.toNat = (l.getD (k / 8) 0).toNat ^^^ 2 ^ (k % 8)) (n : Nat) : bitL (l.set (k / 8) x) n = (bitL l n ^^ decide (n = k)) := by
  unfold bitL
  rw [List.getD_eq_getElem?_getD, List.getElem?_set]
  by_cases h : k / 8 = n / 8
  · rw [if_pos h, if_pos (by omega)]
    show x.toNat.testBit (n % 8) = _
    rw [hx, h, Nat.testBit_xor, Nat.testBit_two_pow]
    congr 1
    exact decide_eq_decide.2 ⟨fun _ => by omega, fun _ => by omega⟩
  · rw [if_neg h, ← List.getD_eq_getElem?_getD]
    have : decide (n = k) = false := decide_eq_false (fun e => h (by rw [e]))
    rw [this, Bool.xor_false]
end Go.Proofs.YtkbbjkiinpimiaaDoor
