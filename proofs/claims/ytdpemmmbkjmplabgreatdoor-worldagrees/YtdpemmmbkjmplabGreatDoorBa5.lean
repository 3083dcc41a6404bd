/-
  PLAIN MATHEMATICS of a burst: the sum of bytes as a register that takes bit after bit; it is linear, and no turn of it makes 0 of another number: so a burst of at most 32 bits is seen, also over text and sum.
  PLAIN MATHEMATICS of a frame's bytes: 22 of them; what is written is read, and what is read is written.
  WALKS of package wire: between, fits, Check, one, four, tail.
  A FRAME IN A ROW of nine cells: each of them; nine stores.
  WALKS of package site: vote, step.
  WALKS of package site: New, State, Refuse; Hear of a wrong frame.
  FRAMES IN MEMORY: an answer of none or of one; the document's SameFrames.
  THE WALK of (*site.Site).Hear of a right frame.
-/
import Derived.Test.YtdpemmmbkjmplabGreatDoorBa2
import Derived.Test.YtdpemmmbkjmplabGreatDoorBa1
import Derived.Test.YtdpemmmbkjmplabGreatDoorBa3
import Derived.Test.YtdpemmmbkjmplabGreatDoorBa4
import Derived.Laws.StructEq
import Derived.BigRegion
import Derived.Deep.CutRange
namespace Go.Proofs.YtdpemmmbkjmplabGreatDoor

theorem devBit_xor (a b : Nat) : devBit (a ^^^ b) = devBit a ^^^ devBit b := by
  have hp : (a ^^^ b) % 2 = (a % 2 + b % 2) % 2 := by
    have h := congrArg (· % 2) (show a ^^^ b = a ^^^ b from rfl)
    have e : (a ^^^ b) % 2 = (a % 2) ^^^ (b % 2) := by
      rw [show (2 : Nat) = 2 ^ 1 from rfl, Nat.xor_mod_two_pow]
    rcases (show a % 2 = 0 ∨ a % 2 = 1 by omega) with ha | ha <;> rcases (show b % 2 = 0 ∨ b % 2 = 1 by omega) with hb | hb <;> rw [e, ha, hb] <;> rfl
  unfold devBit
  rw [xor_half]
  rcases (show a % 2 = 0 ∨ a % 2 = 1 by omega) with ha | ha <;> rcases (show b % 2 = 0 ∨ b % 2 = 1 by omega) with hb | hb
  · rw [if_neg (by omega), if_neg (by omega), if_neg (by omega)]
  · rw [if_pos (by omega), if_neg (by omega), if_pos (by omega), Nat.xor_assoc]
  · rw [if_pos (by omega), if_pos (by omega), if_neg (by omega), Nat.xor_assoc, Nat.xor_assoc, Nat.xor_comm (b / 2)]
  · rw [if_neg (by omega), if_pos (by omega), if_pos (by omega)]
    rw [Nat.xor_assoc, Nat.xor_comm 3988292384, Nat.xor_assoc, Nat.xor_self, Nat.xor_zero]
theorem devBit_even (w : Nat) : devBit (2 * w) = w := by
  unfold devBit
  rw [if_neg (by omega)]
  omega
theorem devBit_zero {x : Nat} (hx : x < 4294967296) (h : devBit x = 0) : x = 0 := by
  unfold devBit at h
  split at h
  · exfalso
    have e : x / 2 = 3988292384 := by
      have := congrArg (· ^^^ 3988292384) h
      simpa [Nat.xor_assoc] using this
    omega
  · omega

/-- Bit n of bytes, the lowest of each byte first. -/
def bitL (l : List UInt8) (n : Nat) : Bool := (l.getD (n / 8) 0).toNat.testBit (n % 8)
/-- The register behind n bits. -/
def regL (l : List UInt8) : Nat → Nat
  | 0 => 4294967295
  | n + 1 => devBit (regL l n ^^^ (bitL l n).toNat)
theorem testBit_div (b k : Nat) : b / 2 ^ k % 2 = (b.testBit k).toNat := by
  rw [Nat.testBit_eq_decide_div_mod_eq]
  rcases (show b / 2 ^ k % 2 = 0 ∨ b / 2 ^ k % 2 = 1 by omega) with h | h <;> rw [h] <;> rfl
theorem crcBit_dev (c b k : Nat) : crcBit c b k = devBit (c ^^^ (b.testBit k).toNat) := by
  rw [← testBit_div]
  have e : (c ^^^ b / 2 ^ k) % 2 = (c ^^^ b / 2 ^ k % 2) % 2 := by
    rw [show (2 : Nat) = 2 ^ 1 from rfl, Nat.xor_mod_two_pow, Nat.xor_mod_two_pow, Nat.mod_mod]
  unfold crcBit devBit
  rw [xor_half, e, show b / 2 ^ k % 2 / 2 = 0 by omega, Nat.xor_zero]
theorem reg_bits (l : List UInt8) (m : Nat) : ∀ k, k ≤ 8 → crcBits (regL l (8 * m)) (l.getD m 0).toNat k = regL l (8 * m + k)
  | 0, _ => rfl
  | k + 1, h => by
    rw [crcBits, reg_bits l m k (by omega), crcBit_dev]
    show _ = devBit (regL l (8 * m + k) ^^^ (bitL l (8 * m + k)).toNat)
    unfold bitL
    rw [show (8 * m + k) / 8 = m by omega, show (8 * m + k) % 8 = k by omega]
theorem crc_reg (l : List UInt8) : ∀ m, m ≤ l.length → crcFold 4294967295 (l.take m) = regL l (8 * m)
  | 0, _ => rfl
  | m + 1, h => by
    have hm : m < l.length := by omega
    rw [List.take_add_one, List.getElem?_eq_getElem hm]
    show crcFold _ (l.take m ++ [l[m]]) = _
    rw [crcFold_snoc, crc_reg l m (by omega), show 8 * (m + 1) = 8 * m + 8 by omega, ← reg_bits l m 8 (Nat.le_refl _)]
    rw [List.getD_eq_getElem?_getD, List.getElem?_eq_getElem hm]
    rfl
theorem regL_lt (l : List UInt8) : ∀ n, regL l n < 4294967296
  | 0 => by show 4294967295 < 4294967296; decide
  | n + 1 => devBit_lt (Nat.xor_lt_two_pow (n := 32) (regL_lt l n) (by cases bitL l n <;> decide))

/-- A run of bits as a number, the first the lowest. -/
def wordAt (d : Nat → Bool) (n : Nat) : Nat → Nat
  | 0 => 0
  | c + 1 => (d n).toNat + 2 * wordAt d (n + 1) c
theorem wordAt_lt (d : Nat → Bool) : ∀ c n, wordAt d n c < 2 ^ c
  | 0, _ => by simp [wordAt]
  | c + 1, n => by
    have := wordAt_lt d c (n + 1)
    have h : (d n).toNat ≤ 1 := Bool.toNat_le (d n)
    simp only [wordAt, Nat.pow_succ]
    omega
theorem wordAt_last (d : Nat → Bool) : ∀ c n, d (n + c) = false → wordAt d n (c + 1) = wordAt d n c
  | 0, n, h => by
    have h' : d n = false := h
    simp [wordAt, h']
  | c + 1, n, h => by
    have := wordAt_last d c (n + 1) (by rw [show n + 1 + c = n + (c + 1) by omega]; exact h)
    rw [wordAt, this, wordAt]
theorem wordAt_zero (d : Nat → Bool) : ∀ c n, wordAt d n c = 0 → ∀ i, i < c → d (n + i) = false
  | 0, _, _, i, hi => absurd hi (Nat.not_lt_zero i)
  | c + 1, n, h, i, hi => by
    simp only [wordAt] at h
    cases i with
    | zero => cases hd : d n with
      | false => rfl
      | true => rw [hd] at h; simp at h
    | succ i =>
      have := wordAt_zero d c (n + 1) (by omega) i (by omega)
      rwa [show n + 1 + i = n + (i + 1) by omega] at this
theorem xor_low (b : Bool) (w : Nat) : b.toNat ^^^ (2 * w) = b.toNat + 2 * w := by
  apply Nat.eq_of_testBit_eq
  intro i
  cases i with
  | zero => cases b <;> simp [Nat.testBit_zero]
  | succ i =>
    have h : ∀ (c : Bool) (z : Nat), (c.toNat + 2 * z) / 2 = z := fun c z => by have := Bool.toNat_le c; omega
    have h1 : b.toNat / 2 = 0 := by have := Bool.toNat_le b; omega
    rw [Nat.testBit_succ, Nat.testBit_succ, xor_half, h, h1, Nat.zero_xor, show 2 * w / 2 = w by omega]
/-- What two texts' registers part by: bit after bit. -/
theorem reg_diff (s t : List UInt8) (n : Nat) : regL s (n + 1) ^^^ regL t (n + 1) = devBit ((regL s n ^^^ regL t n) ^^^ (bitL s n ^^ bitL t n).toNat) := by
  show devBit _ ^^^ devBit _ = _
  rw [← devBit_xor]
  congr 1
  have e : ∀ a b : Bool, (a ^^ b).toNat = a.toNat ^^^ b.toNat := by decide
  rw [e, Nat.xor_assoc, Nat.xor_assoc]
  congr 1
  rw [← Nat.xor_assoc, Nat.xor_comm _ (regL t n), Nat.xor_assoc]
theorem reg_same (s t : List UInt8) : ∀ n, (∀ i, i < n → (bitL s i ^^ bitL t i) = false) → regL s n ^^^ regL t n = 0
  | 0, _ => Nat.xor_self _
  | n + 1, h => by
    rw [reg_diff, reg_same s t n (fun i hi => h i (by omega)), h n (by omega)]
    rfl
/-- The difference of the registers and of the next 32 bits is one number, that turns as the register. -/
theorem reg_turn (s t : List UInt8) (d : Nat → Bool) (hd : ∀ n, d n = (bitL s n ^^ bitL t n)) (n : Nat) (h : d (n + 32) = false) :
    (regL s (n + 1) ^^^ regL t (n + 1)) ^^^ wordAt d (n + 1) 32 = devBit ((regL s n ^^^ regL t n) ^^^ wordAt d n 32) := by
  rw [reg_diff, ← hd n]
  have e1 : wordAt d (n + 1) 32 = wordAt d (n + 1) 31 := wordAt_last d 31 (n + 1) (by rw [show n + 1 + 31 = n + 32 by omega]; exact h)
  have e2 : wordAt d n 32 = (d n).toNat + 2 * wordAt d (n + 1) 31 := rfl
  rw [e1, e2]
  conv => lhs; rhs; rw [← devBit_even (wordAt d (n + 1) 31)]
  rw [← devBit_xor, Nat.xor_assoc, xor_low (d n)]
theorem burst_back (s t : List UInt8) (d : Nat → Bool) (hd : ∀ n, d n = (bitL s n ^^ bitL t n)) (a : Nat) (hb : ∀ n, a + 32 ≤ n → d n = false) :
    ∀ m, (regL s (a + m) ^^^ regL t (a + m)) ^^^ wordAt d (a + m) 32 = 0 → (regL s a ^^^ regL t a) ^^^ wordAt d a 32 = 0
  | 0, h => h
  | m + 1, h => by
    have e := reg_turn s t d hd (a + m) (hb _ (by omega))
    rw [show a + (m + 1) = a + m + 1 by omega, e] at h
    refine burst_back s t d hd a hb m (devBit_zero ?_ h)
    exact Nat.xor_lt_two_pow (n := 32) (Nat.xor_lt_two_pow (n := 32) (regL_lt _ _) (regL_lt _ _)) (wordAt_lt _ _ _)
theorem xor_zero_eq {a b : Nat} (h : a ^^^ b = 0) : a = b := by
  have := congrArg (· ^^^ b) h
  simpa [Nat.xor_assoc] using this
theorem wordAt_xor (p q : Nat → Bool) : ∀ c n, wordAt (fun n => p n ^^ q n) n c = wordAt p n c ^^^ wordAt q n c
  | 0, _ => (Nat.xor_self 0).symm
  | c + 1, n => by
    have e : ∀ (a b : Bool) (x y : Nat), (a ^^ b).toNat + 2 * (x ^^^ y) = (a.toNat + 2 * x) ^^^ (b.toNat + 2 * y) := by
      intro a b x y
      apply Nat.eq_of_testBit_eq
      intro i
      cases i with
      | zero => cases a <;> cases b <;> simp [Nat.testBit_zero]
      | succ i =>
        have h : ∀ (c : Bool) (z : Nat), (c.toNat + 2 * z) / 2 = z := fun c z => by have := Bool.toNat_le c; omega
        rw [Nat.testBit_succ, Nat.testBit_succ, xor_half, h, h, h]
    simp only [wordAt]
    rw [wordAt_xor p q c (n + 1), e]
theorem xor4 (a b c d : Nat) : (a ^^^ b) ^^^ (c ^^^ d) = (a ^^^ c) ^^^ (b ^^^ d) := by
  simp only [Nat.xor_assoc]
  congr 1
  rw [← Nat.xor_assoc, Nat.xor_comm b, Nat.xor_assoc]
/-- Where the sums of two texts are well, and they part by a burst of at most 32 bits: they part nowhere. -/
theorem burst_seen (s t : List UInt8) (a : Nat) (hs : regL s 144 ^^^ wordAt (bitL s) 144 32 = 4294967295) (ht : regL t 144 ^^^ wordAt (bitL t) 144 32 = 4294967295)
    (hlo : ∀ n, n < a → bitL s n = bitL t n) (hhi : ∀ n, a + 32 ≤ n → bitL s n = bitL t n) : ∀ n, n < 176 → bitL s n = bitL t n := by
  have hd : ∀ n, (fun n => bitL s n ^^ bitL t n) n = (bitL s n ^^ bitL t n) := fun _ => rfl
  have hx : (regL s 144 ^^^ regL t 144) ^^^ wordAt (fun n => bitL s n ^^ bitL t n) 144 32 = 0 := by
    rw [wordAt_xor]
    rw [xor4, hs, ht, Nat.xor_self]
  have hsame : ∀ {p q : Bool}, (p ^^ q) = false → p = q := by decide
  have hback : ∀ {p q : Bool}, p = q → (p ^^ q) = false := by decide
  intro n hn
  by_cases ha : a ≤ 144
  · obtain ⟨m, hm⟩ := Nat.exists_eq_add_of_le ha
    rw [hm] at hx
    have h0 := burst_back s t _ hd a (fun n hn => hback (hhi n hn)) m hx
    rw [reg_same s t a (fun i hi => hback (hlo i hi)), Nat.zero_xor] at h0
    by_cases h1 : n < a
    · exact hlo n h1
    · by_cases h2 : a + 32 ≤ n
      · exact hhi n h2
      · have := wordAt_zero _ 32 a h0 (n - a) (by omega)
        rw [show a + (n - a) = n by omega] at this
        exact hsame this
  · rw [reg_same s t 144 (fun i hi => hback (hlo i (by omega))), Nat.zero_xor] at hx
    by_cases h1 : n < 144
    · exact hlo n (by omega)
    · have := wordAt_zero _ 32 144 hx (n - 144) (by omega)
      rw [show 144 + (n - 144) = n by omega] at this
      exact hsame this

/-- A number below 2^32 in four bytes, the lowest first. -/
def lowL (n : Nat) : List UInt8 := [UInt8.ofNat (n % 256), UInt8.ofNat (n / 256 % 256), UInt8.ofNat (n / 65536 % 256), UInt8.ofNat (n / 16777216 % 256)]
theorem lowL_length (n : Nat) : (lowL n).length = 4 := rfl
theorem wordAt_testBit (d : Nat → Bool) : ∀ c n i, (wordAt d n c).testBit i = (decide (i < c) && d (n + i))
  | 0, n, i => by simp [wordAt]
  | c + 1, n, i => by
    have hb : ((d n).toNat + 2 * wordAt d (n + 1) c) / 2 = wordAt d (n + 1) c := by have := Bool.toNat_le (d n); omega
    cases i with
    | zero => cases h : d n <;> simp [wordAt, Nat.testBit_zero, h]
    | succ i =>
      rw [wordAt, Nat.testBit_succ, hb, wordAt_testBit d c (n + 1) i, show n + 1 + i = n + (i + 1) by omega]
      congr 1
      simp
theorem low_byte (n i k : Nat) (hi : i < 4) (hk : k < 8) : ((lowL n).getD i 0).toNat.testBit k = n.testBit (8 * i + k) := by
  have e : ∀ x : Nat, (UInt8.ofNat (x % 256)).toNat.testBit k = x.testBit k := by
    intro x
    rw [UInt8.toNat_ofNat', show (2 : Nat) ^ 8 = 256 from rfl, Nat.mod_mod, show (256 : Nat) = 2 ^ 8 from rfl, Nat.testBit_mod_two_pow]
    simp [hk]
  have f : ∀ j x : Nat, (x / 2 ^ j).testBit k = x.testBit (j + k) := by
    intro j x
    rw [Nat.testBit_div_two_pow, Nat.add_comm]
  match i, hi with
  | 0, _ => show (UInt8.ofNat (n % 256)).toNat.testBit k = _; rw [e]; simp
  | 1, _ => show (UInt8.ofNat (n / 256 % 256)).toNat.testBit k = _; rw [e, show (256 : Nat) = 2 ^ 8 from rfl, f]
  | 2, _ => show (UInt8.ofNat (n / 65536 % 256)).toNat.testBit k = _; rw [e, show (65536 : Nat) = 2 ^ 16 from rfl, f]
  | 3, _ => show (UInt8.ofNat (n / 16777216 % 256)).toNat.testBit k = _; rw [e, show (16777216 : Nat) = 2 ^ 24 from rfl, f]
/-- The last four of 22 bytes, as a number. -/
theorem word_low (l : List UInt8) (n : Nat) (hn : n < 4294967296) (h : lowL n = l.drop 18) : wordAt (bitL l) 144 32 = n := by
  apply Nat.eq_of_testBit_eq
  intro i
  rw [wordAt_testBit]
  by_cases hi : i < 32
  · simp only [hi, decide_true, Bool.true_and]
    unfold bitL
    have e : l.getD ((144 + i) / 8) 0 = (lowL n).getD (i / 8) 0 := by
      rw [h, List.getD_eq_getElem?_getD, List.getD_eq_getElem?_getD, List.getElem?_drop, show (144 + i) / 8 = 18 + i / 8 by omega]
    rw [e, show (144 + i) % 8 = i % 8 by omega, low_byte n (i / 8) (i % 8) (by omega) (by omega), show 8 * (i / 8) + i % 8 = i by omega]
  · simp only [hi, decide_false, Bool.false_and]
    exact (Nat.testBit_lt_two_pow (Nat.lt_of_lt_of_le hn (by rw [show (4294967296 : Nat) = 2 ^ 32 from rfl]; exact Nat.pow_le_pow_right (by omega) (by omega)))).symm
/-- Is the sum behind 18 bytes well? -/
def wellL (l : List UInt8) : Prop := lowL (crcL (l.take 18)) = l.drop 18
theorem well_reg (l : List UInt8) (hl : l.length = 22) (h : wellL l) : regL l 144 ^^^ wordAt (bitL l) 144 32 = 4294967295 := by
  rw [word_low l _ (crcL_lt _) h, crcL, crc_reg l 18 (by omega), ← Nat.xor_assoc, Nat.xor_self, Nat.zero_xor]
theorem bits_eq (s t : List UInt8) (hs : s.length = 22) (ht : t.length = 22) (h : ∀ n, n < 176 → bitL s n = bitL t n) : s = t := by
  apply List.ext_getElem (by omega)
  intro i hi hj
  apply UInt8.toNat_inj.1
  apply Nat.eq_of_testBit_eq
  intro k
  by_cases hk : k < 8
  · have := h (8 * i + k) (by omega)
    unfold bitL at this
    rw [show (8 * i + k) / 8 = i by omega, show (8 * i + k) % 8 = k by omega] at this
    simpa [List.getD_eq_getElem?_getD, List.getElem?_eq_getElem hi, List.getElem?_eq_getElem hj] using this
  · have e : ∀ x : UInt8, x.toNat.testBit k = false := fun x => Nat.testBit_lt_two_pow (Nat.lt_of_lt_of_le (UInt8.toNat_lt x) (Nat.pow_le_pow_right (by omega) (by omega)))
    rw [e, e]
/-- PETERSON: a burst of at most 32 bits is seen. -/
theorem burst_law (s t : List UInt8) (a : Nat) (hs : s.length = 22) (ht : t.length = 22) (ws : wellL s) (wt : wellL t)
    (hlo : ∀ n, n < a → bitL s n = bitL t n) (hhi : ∀ n, a + 32 ≤ n → bitL s n = bitL t n) : s = t :=
  bits_eq s t hs ht (burst_seen s t a (well_reg s hs ws) (well_reg t ht wt) hlo hhi)
/-- One bit turned. -/
theorem flip_bit (l : List UInt8) (k : Nat) (x : UInt8) (hk : k < 8 * l.length) (hx : x.toNat = (l.getD (k / 8) 0).toNat ^^^ 2 ^ (k % 8)) (n : Nat) : bitL (l.set (k / 8) x) n = (bitL l n ^^ decide (n = k)) := by
  unfold bitL
  rw [List.getD_eq_getElem?_getD, List.getElem?_set]
  by_cases h : k / 8 = n / 8
  · rw [if_pos h, if_pos (by omega)]
    show x.toNat.testBit (n % 8) = _
    rw [hx, h, Nat.testBit_xor, Nat.testBit_two_pow]
    congr 1
    exact decide_eq_decide.2 ⟨fun _ => by omega, fun _ => by omega⟩
  · rw [if_neg h, ← List.getD_eq_getElem?_getD]
    have : decide (n = k) = false := decide_eq_false (fun e => h (by rw [e]))
    rw [this, Bool.xor_false]
end Go.Proofs.YtdpemmmbkjmplabGreatDoor
namespace Go.Proofs.YtdpemmmbkjmplabGreatDoor

/-- A frame of numbers. -/
structure FN where
  f : Nat
  t : Nat
  d : Nat
  k : Nat
  a : Nat
  y : Bool
  ph : Nat
  pr : Nat
  pa : Nat
/-- Within its bounds? -/
abbrev FN.ok (F : FN) : Prop := F.f ≤ 6 ∧ F.t ≤ 6 ∧ F.d ≤ 5 ∧ 1 ≤ F.k ∧ F.k ≤ 7 ∧ F.a ≤ 1048576 ∧ F.ph ≤ 5 ∧ F.pr ≤ 1048576 ∧ F.pa ≤ 1048576
def FN.zero : FN := ⟨0, 0, 0, 0, 0, false, 0, 0, 0⟩
def fieldsL (F : FN) : List UInt8 := wideL F.f 1 ++ (wideL F.t 1 ++ (wideL F.d 1 ++ (wideL F.k 1 ++ (wideL F.a 4 ++ (wideL F.y.toNat 1 ++ (wideL F.ph 1 ++ (wideL F.pr 4 ++ wideL F.pa 4)))))))
theorem fieldsL_length (F : FN) : (fieldsL F).length = 18 := by simp [fieldsL, wideL_length]
def frameL (F : FN) : List UInt8 := fieldsL F ++ lowL (crcL (fieldsL F))
theorem frameL_length (F : FN) : (frameL F).length = 22 := by simp [frameL, fieldsL_length, lowL_length]
def segL (l : List UInt8) (o a : Nat) : List UInt8 := (l.drop o).take a
theorem segL_len (l : List UInt8) (o a : Nat) (h : o + a ≤ l.length) : (segL l o a).length = a := by simp [segL]; omega
def readF (l : List UInt8) : FN := ⟨numL (segL l 0 1), numL (segL l 1 1), numL (segL l 2 1), numL (segL l 3 1), numL (segL l 4 4), numL (segL l 8 1) == 1, numL (segL l 9 1), numL (segL l 10 4), numL (segL l 14 4)⟩
/-- What any bytes are answered: an error's number. -/
def codeF (l : List UInt8) : Nat := if l.length ≠ 22 then 1 else if lowL (crcL (l.take 18)) ≠ l.drop 18 then 7 else if 1 < numL (segL l 8 1) then 1 else if (readF l).ok then 0 else 2
theorem seg_step {l A r : List UInt8} {o a : Nat} (h : l.drop o = A ++ r) (hA : A.length = a) : segL l o a = A ∧ l.drop (o + a) = r := by
  constructor
  · rw [segL, h, take_app hA]
  · rw [← List.drop_drop, h, drop_app hA]
theorem seg_join (l : List UInt8) (o a : Nat) : segL l o a ++ l.drop (o + a) = l.drop o := by rw [segL, ← List.drop_drop, List.take_append_drop]
theorem num_w1 {n : Nat} (h : n < 256) : numL (wideL n 1) = n := by rw [numL_wide]; omega
theorem num_w4 {n : Nat} (h : n ≤ 1048576) : numL (wideL n 4) = n := by rw [numL_wide]; omega
theorem segs_frame (F : FN) : segL (frameL F) 0 1 = wideL F.f 1 ∧ segL (frameL F) 1 1 = wideL F.t 1 ∧ segL (frameL F) 2 1 = wideL F.d 1 ∧ segL (frameL F) 3 1 = wideL F.k 1 ∧ segL (frameL F) 4 4 = wideL F.a 4 ∧
    segL (frameL F) 8 1 = wideL F.y.toNat 1 ∧ segL (frameL F) 9 1 = wideL F.ph 1 ∧ segL (frameL F) 10 4 = wideL F.pr 4 ∧ segL (frameL F) 14 4 = wideL F.pa 4 := by
  have h0 : (frameL F).drop 0 = wideL F.f 1 ++ (wideL F.t 1 ++ (wideL F.d 1 ++ (wideL F.k 1 ++ (wideL F.a 4 ++ (wideL F.y.toNat 1 ++ (wideL F.ph 1 ++ (wideL F.pr 4 ++ (wideL F.pa 4 ++ lowL (crcL (fieldsL F)))))))))) := by
    rw [List.drop_zero, frameL]
    conv => lhs; arg 1; unfold fieldsL
    simp only [List.append_assoc]
  obtain ⟨s0, h1⟩ := seg_step h0 (wideL_length 1 _)
  obtain ⟨s1, h2⟩ := seg_step h1 (wideL_length 1 _)
  obtain ⟨s2, h3⟩ := seg_step h2 (wideL_length 1 _)
  obtain ⟨s3, h4⟩ := seg_step h3 (wideL_length 1 _)
  obtain ⟨s4, h5⟩ := seg_step h4 (wideL_length 4 _)
  obtain ⟨s5, h6⟩ := seg_step h5 (wideL_length 1 _)
  obtain ⟨s6, h7⟩ := seg_step h6 (wideL_length 1 _)
  obtain ⟨s7, h8⟩ := seg_step h7 (wideL_length 4 _)
  obtain ⟨s8, _⟩ := seg_step h8 (wideL_length 4 _)
  exact ⟨s0, s1, s2, s3, s4, s5, s6, s7, s8⟩
theorem toNat_is (y : Bool) : (y.toNat == 1) = y := by cases y <;> rfl
/-- What is written is read. -/
theorem read_frame (F : FN) (h : F.ok) : readF (frameL F) = F ∧ numL (segL (frameL F) 8 1) = F.y.toNat := by
  obtain ⟨s0, s1, s2, s3, s4, s5, s6, s7, s8⟩ := segs_frame F
  obtain ⟨b0, b1, b2, b3, b4, b5, b6, b7, b8⟩ := h
  have hy := Bool.toNat_le F.y
  have e5 : numL (segL (frameL F) 8 1) = F.y.toNat := by rw [s5, num_w1 (by omega)]
  refine ⟨?_, e5⟩
  rw [readF, e5, s0, s1, s2, s3, s4, s6, s7, s8, num_w1 (by omega), num_w1 (by omega), num_w1 (by omega), num_w1 (by omega), num_w4 b5, num_w1 (by omega), num_w4 b7, num_w4 b8, toNat_is]
theorem frame_parts (F : FN) : (frameL F).take 18 = fieldsL F ∧ (frameL F).drop 18 = lowL (crcL (fieldsL F)) := ⟨take_app (fieldsL_length F), drop_app (fieldsL_length F)⟩
theorem frame_well (F : FN) : wellL (frameL F) := by rw [wellL, (frame_parts F).1, (frame_parts F).2]
theorem code_frame (F : FN) (h : F.ok) : codeF (frameL F) = 0 := by
  have hy := Bool.toNat_le F.y
  rw [codeF, if_neg (by rw [frameL_length]; simp), if_neg (by rw [(frame_parts F).1, (frame_parts F).2]; simp), if_neg (by rw [(read_frame F h).2]; omega), (read_frame F h).1, if_pos h]
theorem wide_seg (l : List UInt8) (o a : Nat) (h : o + a ≤ l.length) : wideL (numL (segL l o a)) a = segL l o a := by
  have := wide_numL (segL l o a)
  rwa [segL_len l o a h] at this
/-- What is read well is written as it was. -/
theorem frame_read (l : List UInt8) (h : codeF l = 0) : frameL (readF l) = l ∧ (readF l).ok ∧ l.length = 22 := by
  unfold codeF at h
  split at h
  · cases h
  · rename_i hl
    have hl' : l.length = 22 := Classical.not_not.1 hl
    split at h
    · cases h
    · rename_i hw
      have hw' := Classical.not_not.1 hw
      split at h
      · cases h
      · rename_i hy
        split at h
        · rename_i hok
          have ey : wideL (readF l).y.toNat 1 = segL l 8 1 := by
            rw [← wide_seg l 8 1 (by omega)]
            congr 1
            show (numL (segL l 8 1) == 1).toNat = _
            rcases (show numL (segL l 8 1) = 0 ∨ numL (segL l 8 1) = 1 by omega) with e | e <;> rw [e] <;> rfl
          have ef : fieldsL (readF l) = l.take 18 := by
            unfold fieldsL
            rw [ey]
            show wideL (numL (segL l 0 1)) 1 ++ (wideL (numL (segL l 1 1)) 1 ++ (wideL (numL (segL l 2 1)) 1 ++ (wideL (numL (segL l 3 1)) 1 ++ (wideL (numL (segL l 4 4)) 4 ++ (segL l 8 1 ++ (wideL (numL (segL l 9 1)) 1 ++ (wideL (numL (segL l 10 4)) 4 ++ wideL (numL (segL l 14 4)) 4))))))) = _
            rw [wide_seg l 0 1 (by omega), wide_seg l 1 1 (by omega), wide_seg l 2 1 (by omega), wide_seg l 3 1 (by omega), wide_seg l 4 4 (by omega), wide_seg l 9 1 (by omega), wide_seg l 10 4 (by omega), wide_seg l 14 4 (by omega)]
            apply List.append_cancel_right (bs := l.drop 18)
            rw [List.take_append_drop]
            simp only [List.append_assoc]
            rw [seg_join l 14 4, seg_join l 10 4, seg_join l 9 1, seg_join l 8 1, seg_join l 4 4, seg_join l 3 1, seg_join l 2 1, seg_join l 1 1, seg_join l 0 1, List.drop_zero]
          refine ⟨?_, hok, hl'⟩
          rw [frameL, ef, hw', List.take_append_drop]
        · cases h
end Go.Proofs.YtdpemmmbkjmplabGreatDoor
namespace Go.Proofs.YtdpemmmbkjmplabGreatDoor
open Go.RowKit

theorem between_is (n l m : Int) (b : Bool) (w : World) (h : decide (l ≤ n ∧ n ≤ m) = b) :
    Calls Tryz.prog 134 #[.int .i64 n, .int .i64 l, .int .i64 m] w fun e w' => e = .returned (.bool b) ∧ w' = w := by
  subst h
  by_cases h1 : l ≤ n
  · by_cases h2 : n ≤ m
    · rw [decide_eq_true ⟨h1, h2⟩]
      go_enter Tryz.func134, Tryz.ntmps134
      go_wp2
      go_ret
      exact ⟨rfl, rfl⟩
    · rw [decide_eq_false (fun h => h2 h.2)]
      go_enter Tryz.func134, Tryz.ntmps134
      go_wp2
      go_ret
      exact ⟨rfl, rfl⟩
  · rw [decide_eq_false (fun h => h1 h.1)]
    go_enter Tryz.func134, Tryz.ntmps134
    go_wp2
    go_ret
    exact ⟨rfl, rfl⟩

abbrev stOk (ph pr pa : Int) : Prop := (0 ≤ ph ∧ ph ≤ 5) ∧ (0 ≤ pr ∧ pr ≤ 1048576) ∧ (0 ≤ pa ∧ pa ≤ 1048576)
abbrev frOk (f t d k a ph pr pa : Int) : Prop := (0 ≤ f ∧ f ≤ 6) ∧ (0 ≤ t ∧ t ≤ 6) ∧ (0 ≤ d ∧ d ≤ 5) ∧ (1 ≤ k ∧ k ≤ 7) ∧ (0 ≤ a ∧ a ≤ 1048576) ∧ stOk ph pr pa
theorem dec_and3 (p q r : Prop) [Decidable p] [Decidable q] [Decidable r] (i : Decidable (p ∧ q ∧ r)) : @decide _ i = (decide p && (decide q && decide r)) := by
  by_cases hp : p <;> by_cases hq : q <;> by_cases hr : r <;> simp [hp, hq, hr]
theorem ite_bool {p : Prop} [Decidable p] {b : Bool} (h : p ↔ b = true) (x y : Nat) : (if p then x else y) = if b = true then x else y := by
  by_cases hp : p
  · rw [if_pos hp, if_pos (h.1 hp)]
  · rw [if_neg hp, if_neg (fun g => hp (h.2 g))]
theorem bools3 (a b c : Bool) : a = false ∨ (a = true ∧ b = false) ∨ (a = true ∧ b = true ∧ c = false) ∨ (a = true ∧ b = true ∧ c = true) := by cases a <;> cases b <;> cases c <;> simp
theorem bools2 (a b : Bool) : a = false ∨ (a = true ∧ b = false) ∨ (a = true ∧ b = true) := by cases a <;> cases b <;> simp

set_option maxHeartbeats 2000000 in
set_option maxRecDepth 100000 in
theorem wfits_is (ph pr pa : Int) (b : Bool) (w : World) (h : decide (stOk ph pr pa) = b) :
    Calls Tryz.prog 135 #[.agg #[.int .i64 ph, .int .i64 pr, .int .i64 pa]] w fun e w' => e = .returned (.bool b) ∧ Below w.heap.size w w' := by
  have HB : Hid (Below w.heap.size w (w.alloc (.cells #[.int .i64 ph, .int .i64 pr, .int .i64 pa] 43))) := (Below.refl _ _).alloc (Nat.le_refl _) _
  obtain ⟨b1, H1⟩ : ∃ b : Bool, Hid (decide (0 ≤ ph ∧ ph ≤ 5) = b) := ⟨_, hid (Eq.refl _)⟩
  obtain ⟨b2, H2⟩ : ∃ b : Bool, Hid (decide (0 ≤ pr ∧ pr ≤ 1048576) = b) := ⟨_, hid (Eq.refl _)⟩
  obtain ⟨b3, H3⟩ : ∃ b : Bool, Hid (decide (0 ≤ pa ∧ pa ≤ 1048576) = b) := ⟨_, hid (Eq.refl _)⟩
  have HH : Hid (b = (b1 && (b2 && b3))) := by
    unfold Hid
    rw [← h, ← H1.out, ← H2.out, ← H3.out]
    exact dec_and3 _ _ _ _
  clear h
  rcases bools3 b1 b2 b3 with rfl | ⟨rfl, rfl⟩ | ⟨rfl, rfl, rfl⟩ | ⟨rfl, rfl, rfl⟩
  all_goals
    go_enter Tryz.func135, Tryz.ntmps135
    go_wp2_with (go_at_call 134; first | (with_reducible refine (between_is ph 0 5 _ _ H1.out).mono ?_; rintro e wx ⟨rfl, hx⟩; subst wx) | (with_reducible refine (between_is pr 0 1048576 _ _ H2.out).mono ?_; rintro e wx ⟨rfl, hx⟩; subst wx) | (with_reducible refine (between_is pa 0 1048576 _ _ H3.out).mono ?_; rintro e wx ⟨rfl, hx⟩; subst wx))
    go_ret
    exact ⟨by rw [HH.out]; rfl, HB.out⟩

set_option maxHeartbeats 8000000 in
set_option maxRecDepth 100000 in
theorem wcheck_e (A : Nat → Addr) (f t d k a : Int) (y : Bool) (ph pr pa : Int) (c : Nat) (w : World) (hE : HeldE w A) (h : (if frOk f t d k a ph pr pa then 0 else 2) = c) :
    Calls Tryz.prog 123 #[frV f t d k a y ph pr pa] w fun e w' => e = .returned (ev A c) ∧ Below w.heap.size w w' := by
  obtain ⟨W, HW⟩ : ∃ W, Hid (w.alloc (.cells #[.int .i64 f, .int .i64 t, .int .i64 d, .int .i64 k, .int .i64 a, .bool y, .int .i64 ph, .int .i64 pr, .int .i64 pa] 93) = W) := ⟨_, rfl⟩
  have HB : Hid (Below w.heap.size w W) := by rw [← HW.out]; exact (Below.refl _ _).alloc (Nat.le_refl _) _
  have HR : Hid (W.heap[w.heap.size]? = some (.cells #[.int .i64 f, .int .i64 t, .int .i64 d, .int .i64 k, .int .i64 a, .bool y, .int .i64 ph, .int .i64 pr, .int .i64 pa] 93 (0, 0))) := by rw [← HW.out]; exact heap_alloc_new w _
  have HG : Hid (∀ wx, Below W.heap.size W wx → wx.cell? ⟨3, 0, none⟩ = some (.iface 222 (.pointer (some (A 1)))) ∧ Below w.heap.size w wx) := fun wx hx => ⟨(hE.later (HB.out.trans (hx.mono HB.out.size))).g1, HB.out.trans (hx.mono HB.out.size)⟩
  clear hE
  obtain ⟨b1, H1⟩ : ∃ b : Bool, Hid (decide (0 ≤ f ∧ f ≤ 6) = b) := ⟨_, hid (Eq.refl _)⟩
  obtain ⟨b2, H2⟩ : ∃ b : Bool, Hid (decide (0 ≤ t ∧ t ≤ 6) = b) := ⟨_, hid (Eq.refl _)⟩
  obtain ⟨b3, H3⟩ : ∃ b : Bool, Hid (decide (0 ≤ d ∧ d ≤ 5) = b) := ⟨_, hid (Eq.refl _)⟩
  obtain ⟨b4, H4⟩ : ∃ b : Bool, Hid (decide (1 ≤ k ∧ k ≤ 7) = b) := ⟨_, hid (Eq.refl _)⟩
  obtain ⟨b5, H5⟩ : ∃ b : Bool, Hid (decide (0 ≤ a ∧ a ≤ 1048576) = b) := ⟨_, hid (Eq.refl _)⟩
  obtain ⟨b6, H6⟩ : ∃ b : Bool, Hid (decide (stOk ph pr pa) = b) := ⟨_, hid (Eq.refl _)⟩
  have HC : Hid (c = if (b1 && (b2 && (b3 && (b4 && (b5 && b6))))) = true then 0 else 2) := by
    unfold Hid
    rw [← h]
    refine ite_bool ?_ 0 2
    rw [← H1.out, ← H2.out, ← H3.out, ← H4.out, ← H5.out, ← H6.out]
    simp only [frOk, decide_eq_true_eq, Bool.and_eq_true]
  clear h
  have hW := HW.out
  have c0 : W.cell? ⟨w.heap.size, 0, none⟩ = some (.int .i64 f) := by rw [cell_of_row _ _ _ _ _ _ HR.out]; rfl
  have c1 : W.cell? ⟨w.heap.size, 1, none⟩ = some (.int .i64 t) := by rw [cell_of_row _ _ _ _ _ _ HR.out]; rfl
  have c2 : W.cell? ⟨w.heap.size, 2, none⟩ = some (.int .i64 d) := by rw [cell_of_row _ _ _ _ _ _ HR.out]; rfl
  have c3 : W.cell? ⟨w.heap.size, 3, none⟩ = some (.int .i64 k) := by rw [cell_of_row _ _ _ _ _ _ HR.out]; rfl
  have c4 : W.cell? ⟨w.heap.size, 4, none⟩ = some (.int .i64 a) := by rw [cell_of_row _ _ _ _ _ _ HR.out]; rfl
  have c6 : W.cell? ⟨w.heap.size, 6, none⟩ = some (.int .i64 ph) := by rw [cell_of_row _ _ _ _ _ _ HR.out]; rfl
  have c7 : W.cell? ⟨w.heap.size, 7, none⟩ = some (.int .i64 pr) := by rw [cell_of_row _ _ _ _ _ _ HR.out]; rfl
  have c8 : W.cell? ⟨w.heap.size, 8, none⟩ = some (.int .i64 pa) := by rw [cell_of_row _ _ _ _ _ _ HR.out]; rfl
  obtain ⟨g1W, hbW⟩ := HG.out W (Below.refl _ _)
  have HBW0 := hid hbW
  clear hbW
  have HX : (b1 && (b2 && (b3 && (b4 && b5)))) = true ∨ (b1 && (b2 && (b3 && (b4 && b5)))) = false := by cases (b1 && (b2 && (b3 && (b4 && b5)))) <;> simp
  rcases HX with HX | HX
  · simp only [Bool.and_eq_true] at HX
    obtain ⟨rfl, rfl, rfl, rfl, rfl⟩ := HX
    cases b6
    all_goals
      go_enter Tryz.func123, Tryz.ntmps123
      go_wp2_with (first | (go_at_call 134; first | (with_reducible refine (between_is f 0 6 _ _ H1.out).mono ?_; rintro e wx ⟨rfl, hx⟩; subst wx) | (with_reducible refine (between_is t 0 6 _ _ H2.out).mono ?_; rintro e wx ⟨rfl, hx⟩; subst wx) | (with_reducible refine (between_is d 0 5 _ _ H3.out).mono ?_; rintro e wx ⟨rfl, hx⟩; subst wx) | (with_reducible refine (between_is k 1 7 _ _ H4.out).mono ?_; rintro e wx ⟨rfl, hx⟩; subst wx) | (with_reducible refine (between_is a 0 1048576 _ _ H5.out).mono ?_; rintro e wx ⟨rfl, hx⟩; subst wx)) | (go_at_call 135; (with_reducible refine (wfits_is ph pr pa _ _ H6.out).mono ?_); rintro e wx ⟨rfl, hx⟩; obtain ⟨g1, hbw⟩ := HG.out wx hx; have HBW := hid hbw; clear hx hbw))
      go_ret
      refine ⟨by rw [HC.out]; rfl, Hid.out (by assumption)⟩
  · have HZ : Hid (c = 2) := by unfold Hid; rw [HC.out]; revert HX; cases b1 <;> cases b2 <;> cases b3 <;> cases b4 <;> cases b5 <;> cases b6 <;> decide
    rcases bools2 b1 b2 with rfl | ⟨rfl, rfl⟩ | ⟨rfl, rfl⟩
    all_goals rcases bools3 b3 b4 b5 with rfl | ⟨rfl, rfl⟩ | ⟨rfl, rfl, rfl⟩ | ⟨rfl, rfl, rfl⟩
    all_goals try (exact absurd HX (by decide))
    all_goals clear HX
    all_goals
      go_enter Tryz.func123, Tryz.ntmps123
      go_wp2_with (first | (go_at_call 134; first | (with_reducible refine (between_is f 0 6 _ _ H1.out).mono ?_; rintro e wx ⟨rfl, hx⟩; subst wx) | (with_reducible refine (between_is t 0 6 _ _ H2.out).mono ?_; rintro e wx ⟨rfl, hx⟩; subst wx) | (with_reducible refine (between_is d 0 5 _ _ H3.out).mono ?_; rintro e wx ⟨rfl, hx⟩; subst wx) | (with_reducible refine (between_is k 1 7 _ _ H4.out).mono ?_; rintro e wx ⟨rfl, hx⟩; subst wx) | (with_reducible refine (between_is a 0 1048576 _ _ H5.out).mono ?_; rintro e wx ⟨rfl, hx⟩; subst wx)) | (go_at_call 135; (with_reducible refine (wfits_is ph pr pa _ _ H6.out).mono ?_); rintro e wx ⟨rfl, hx⟩; obtain ⟨g1, hbw⟩ := HG.out wx hx; have HBW := hid hbw; clear hx hbw))
      go_ret
      exact ⟨by rw [HZ.out]; rfl, HBW0.out⟩
theorem wcheck_is (A : Nat → Addr) (f t d k a : Int) (y : Bool) (ph pr pa : Int) (c : Nat) (w : World) (hE : Held9 w A) (h : (if frOk f t d k a ph pr pa then 0 else 2) = c) :
    Calls Tryz.prog 123 #[frV f t d k a y ph pr pa] w fun e w' => e = .returned (ev A c) ∧ Below w.heap.size w w' := wcheck_e A f t d k a y ph pr pa c w hE.toE h
end Go.Proofs.YtdpemmmbkjmplabGreatDoor
namespace Go.Proofs.YtdpemmmbkjmplabGreatDoor
open Go.RowKit

theorem kept9 (w : World) (g : Nat) (x0 x1 x2 x3 x4 x5 x6 x7 x8 : Value) :
    Kept (In1 g) w (((((((((w.setCell ⟨g, 0, none⟩ x0).setCell ⟨g, 1, none⟩ x1).setCell ⟨g, 2, none⟩ x2).setCell ⟨g, 3, none⟩ x3).setCell ⟨g, 4, none⟩ x4).setCell ⟨g, 5, none⟩ x5).setCell ⟨g, 6, none⟩ x6).setCell ⟨g, 7, none⟩ x7).setCell ⟨g, 8, none⟩ x8) :=
  (((((((((Kept.refl _ _).set1 0 _).set1 1 _).set1 2 _).set1 3 _).set1 4 _).set1 5 _).set1 6 _).set1 7 _).set1 8 _
/-- Nine stores into a row: what is there then. -/
theorem stored9 {X : World} {g : Nat} {a0 a1 a2 a3 a4 a5 a6 a7 a8 : Value} (h : X.heap[g]? = some (.cells #[a0, a1, a2, a3, a4, a5, a6, a7, a8] 93 (0, 0))) (f t d k a : Int) (y : Bool) (ph pr pa : Int) :
    ∃ Y, Hid ((((((((((X.setCell ⟨g, 0, none⟩ (.int .i64 f)).setCell ⟨g, 1, none⟩ (.int .i64 t)).setCell ⟨g, 2, none⟩ (.int .i64 d)).setCell ⟨g, 3, none⟩ (.int .i64 k)).setCell ⟨g, 4, none⟩ (.int .i64 a)).setCell ⟨g, 5, none⟩ (.bool y)).setCell ⟨g, 6, none⟩ (.int .i64 ph)).setCell ⟨g, 7, none⟩ (.int .i64 pr)).setCell ⟨g, 8, none⟩ (.int .i64 pa)) = Y) ∧
      Hid (Y.heap[g]? = some (.cells #[.int .i64 f, .int .i64 t, .int .i64 d, .int .i64 k, .int .i64 a, .bool y, .int .i64 ph, .int .i64 pr, .int .i64 pa] 93 (0, 0))) ∧ Hid (Kept (In1 g) X Y) :=
  ⟨_, rfl, set9 h _ _ _ _ _ _ _ _ _, kept9 _ _ _ _ _ _ _ _ _ _ _⟩
theorem frozen9 {X : World} {g : Nat} {cs : Array Value} {t : TypeId} (h : X.heap[g]? = some (.cells cs t (0, 0))) : X.frozen? ⟨g, 0, none⟩ = false ∧ X.frozen? ⟨g, 1, none⟩ = false ∧ X.frozen? ⟨g, 2, none⟩ = false ∧ X.frozen? ⟨g, 3, none⟩ = false ∧ X.frozen? ⟨g, 4, none⟩ = false ∧ X.frozen? ⟨g, 5, none⟩ = false ∧ X.frozen? ⟨g, 6, none⟩ = false ∧ X.frozen? ⟨g, 7, none⟩ = false ∧ X.frozen? ⟨g, 8, none⟩ = false :=
  ⟨frozen_of_row X g 0 _ _ h, frozen_of_row X g 1 _ _ h, frozen_of_row X g 2 _ _ h, frozen_of_row X g 3 _ _ h, frozen_of_row X g 4 _ _ h, frozen_of_row X g 5 _ _ h, frozen_of_row X g 6 _ _ h, frozen_of_row X g 7 _ _ h, frozen_of_row X g 8 _ _ h⟩

end Go.Proofs.YtdpemmmbkjmplabGreatDoor
namespace Go.Proofs.YtdpemmmbkjmplabGreatDoor
open Go.RowKit

section
variable {w W : World} {x y z : Int}
theorem In2r.set0 (h : In2r w W x y z) (v : Int) : In2r w (W.setCell ⟨w.heap.size, 0, none⟩ (.int .i64 v)) v y z :=
  ⟨by rw [heap_setCell_same W w.heap.size 0 _ _ _ h.a]; rfl, h.set 0 _, h.b.setCell (Nat.le_refl _) _⟩
theorem In2r.alloc (h : In2r w W x y z) (o : Obj) : In2r w (W.alloc o) x y z :=
  ⟨(Below.heap_alloc W _ _ (row_ltJ h.a)).trans h.a, (Below.heap_alloc W _ _ (row_ltJ h.r)).trans h.r, h.b.alloc h.b.size _⟩
end
theorem row_mid (w : World) (o1 o2 o3 : Obj) : (((w.alloc o1).alloc o2).alloc o3).heap[w.heap.size + 1]? = some o2 := by
  have hs : (w.alloc o1).heap.size = w.heap.size + 1 := by simp
  rw [Below.heap_alloc _ _ _ (by simp), ← hs]
  exact heap_alloc_new _ _
set_option maxRecDepth 100000 in
theorem vote_is (s j mb n d sh sp sa v : Nat) (id : Int) (R : Nat → Bool) (w : World) (h : SR w s j mb id R n) (hd : d < 6) (hv : askP ⟨sh, sp, sa⟩ (R d) = v) :
    Calls Tryz.prog 136 #[.pointer (some ⟨s, 0, none⟩), .int .i64 (d : Int), agS sh sp sa] w fun e w' => e = .returned (agS v sp sa) ∧ Below w.heap.size w w' := by
  obtain ⟨W, HW⟩ : ∃ W, Hid (((w.alloc (.cells #[.int .i64 (sh : Int), .int .i64 (sp : Int), .int .i64 (sa : Int)] 43)).alloc (.cells #[.int .i64 0, .int .i64 0, .int .i64 0] 43)) = W) := ⟨_, rfl⟩
  have HI : Hid (In2r w W sh sp sa) := by rw [← HW.out]; exact in2r w _ _ _
  obtain ⟨c0, c1, c2⟩ := HI.out.cells
  obtain ⟨r0, r1, r2⟩ := HI.out.rcells
  obtain ⟨f0, f1, z0, z1, z2⟩ := HI.out.fz
  have hW := HW.out
  have HV := hid hv
  clear hv
  by_cases h0 : sh = 0
  · clear c0 c1 c2 r0 r1 r2 f0 f1 z0 z1 z2 hW HI HW
    subst h0
    obtain ⟨e1, e2⟩ := h.lts
    obtain ⟨x0, x1, x2⟩ := h.cells
    obtain ⟨D, hD, hh⟩ := h.ref
    have HD := hid hD
    have hhd := hh d hd
    have hk := mkeyN hd
    clear hD hh h
    cases hR : R d with
    | true =>
      rw [hR] at hhd HV
      obtain rfl : v = 3 := HV.out.symm
      clear HV hR
      go_enter Tryz.func136, Tryz.ntmps136
      go_wp2_with (at_lookup; refine wpList_lookup_own_unit _ rfl _ _ 120 rfl 3 117 mlaw Tryz.underlying120 (munit _) mb n D rfl ((HD.out.alloc _).alloc _) _ _ rfl hk ?_)
      refine bodyPost_ret (results_cell_row rfl _ _ (w.heap.size + 1) 43 _ (0, 0) _ rfl (row_mid w _ _ _) Tryz.underlying43 rfl sizeState) rfl ?_
      exact ⟨rfl, (((Below.refl _ _).alloc (Nat.le_refl _) _).alloc (by simp) _).alloc (by simp; omega) _⟩
    | false =>
      rw [hR] at hhd HV
      obtain rfl : v = 1 := HV.out.symm
      clear HV hR
      go_enter Tryz.func136, Tryz.ntmps136
      go_wp2_with (at_lookup; refine wpList_lookup_own_unit _ rfl _ _ 120 rfl 3 117 mlaw Tryz.underlying120 (munit _) mb n D rfl ((HD.out.alloc _).alloc _) _ _ rfl hk ?_)
      refine bodyPost_ret (results_cell_row rfl _ _ (w.heap.size + 1) 43 _ (0, 0) _ rfl (row_mid w _ _ _) Tryz.underlying43 rfl sizeState) rfl ?_
      exact ⟨rfl, (((Below.refl _ _).alloc (Nat.le_refl _) _).alloc (by simp) _).alloc (by simp; omega) _⟩
  · have hi : ¬ (sh : Int) = 0 := by omega
    obtain rfl : v = sh := by rw [← HV.out]; unfold askP; exact if_neg h0
    clear h HV
    go_enter Tryz.func136, Tryz.ntmps136
    go_wp2_with fail
    refine bodyPost_ret (results_cell_row rfl _ _ (w.heap.size + 1) 43 _ (0, 0) _ rfl (set3 HI.out.r _ _ _) Tryz.underlying43 rfl sizeState) rfl ?_
    exact ⟨rfl, HI.out.out _ _ _⟩

theorem results_row4 {P : Program} {fn : Func} {p u v : Tmp} {ty : TypeId} (h : fn.results = #[.cell p ty, .tmp u, .tmp v]) (tmps : Array Value) (w : World) (g : Nat) (t : TypeId) (cs : Array Value) (fr : Nat × Nat) (d : TypeDesc)
    (hp : tmps.getD p undef = .pointer (some ⟨g, 0, none⟩)) (hg : w.heap[g]? = some (.cells cs t fr))
    (hu : P.underlying ty = some d) (hd : (match d with | .struct _ | .array _ _ => true | _ => false) = true) (hi : (P.info? ty).map (·.size) = some cs.size) :
    (results fn tmps).run P w = .ok (.tuple #[.agg cs, tmps.getD u undef, tmps.getD v undef]) w := by
  have hp' : tmps[p]?.getD undef = .pointer (some ⟨g, 0, none⟩) := by simpa using hp
  simp [results, h, hp', asAddr, run_loadVar_row w g t ty cs fr d hg hu hd hi]
/-- A frame and a state that came in by value lie in rows of their own; behind them the row of the result. -/
structure In3r (w W : World) (f t d k a : Int) (b : Bool) (ph pr pa : Int) (x y z : Int) : Prop where
  f : W.heap[w.heap.size]? = some (.cells #[.int .i64 f, .int .i64 t, .int .i64 d, .int .i64 k, .int .i64 a, .bool b, .int .i64 ph, .int .i64 pr, .int .i64 pa] 93 (0, 0))
  a : W.heap[w.heap.size + 1]? = some (.cells #[.int .i64 x, .int .i64 y, .int .i64 z] 43 (0, 0))
  r : W.heap[w.heap.size + 1 + 1]? = some (.cells #[.int .i64 0, .int .i64 0, .int .i64 0] 43 (0, 0))
  b : Below w.heap.size w W
theorem in3r (w : World) (f t d k a : Int) (b : Bool) (ph pr pa : Int) (x y z : Int) :
    In3r w (((w.alloc (.cells #[.int .i64 f, .int .i64 t, .int .i64 d, .int .i64 k, .int .i64 a, .bool b, .int .i64 ph, .int .i64 pr, .int .i64 pa] 93)).alloc (.cells #[.int .i64 x, .int .i64 y, .int .i64 z] 43)).alloc (.cells #[.int .i64 0, .int .i64 0, .int .i64 0] 43)) f t d k a b ph pr pa x y z := by
  obtain ⟨V, HV⟩ : ∃ V, w.alloc (.cells #[.int .i64 f, .int .i64 t, .int .i64 d, .int .i64 k, .int .i64 a, .bool b, .int .i64 ph, .int .i64 pr, .int .i64 pa] 93) = V := ⟨_, rfl⟩
  have hs : V.heap.size = w.heap.size + 1 := by rw [← HV]; simp
  have hf : V.heap[w.heap.size]? = some (.cells #[.int .i64 f, .int .i64 t, .int .i64 d, .int .i64 k, .int .i64 a, .bool b, .int .i64 ph, .int .i64 pr, .int .i64 pa] 93 (0, 0)) := by rw [← HV]; exact heap_alloc_new w _
  have hb : Below w.heap.size w V := by rw [← HV]; exact (Below.refl _ _).alloc (Nat.le_refl _) _
  rw [HV]
  have hi := in2r V x y z
  have h1 := hi.a
  have h2 := hi.r
  have h3 := hi.b
  rw [hs] at h1 h2 h3
  exact ⟨(h3.block _ (by omega)).trans hf, h1, h2, hb.trans (h3.mono (by omega))⟩
section
variable {w W : World} {f t d k a : Int} {b : Bool} {ph pr pa : Int} {x y z : Int}
theorem In3r.cells (h : In3r w W f t d k a b ph pr pa x y z) : W.cell? ⟨w.heap.size + 1, 0, none⟩ = some (.int .i64 x) ∧ W.cell? ⟨w.heap.size + 1, 1, none⟩ = some (.int .i64 y) ∧ W.cell? ⟨w.heap.size + 1, 2, none⟩ = some (.int .i64 z) := by
  refine ⟨?_, ?_, ?_⟩ <;> rw [cell_of_row _ _ _ _ _ _ h.a] <;> rfl
theorem In3r.rcells (h : In3r w W f t d k a b ph pr pa x y z) : W.cell? ⟨w.heap.size + 1 + 1, 0, none⟩ = some (.int .i64 0) ∧ W.cell? ⟨w.heap.size + 1 + 1, 1, none⟩ = some (.int .i64 0) ∧ W.cell? ⟨w.heap.size + 1 + 1, 2, none⟩ = some (.int .i64 0) := by
  refine ⟨?_, ?_, ?_⟩ <;> rw [cell_of_row _ _ _ _ _ _ h.r] <;> rfl
theorem In3r.fz (h : In3r w W f t d k a b ph pr pa x y z) : W.frozen? ⟨w.heap.size + 1, 0, none⟩ = false ∧ W.frozen? ⟨w.heap.size + 1, 1, none⟩ = false ∧ W.frozen? ⟨w.heap.size + 1, 2, none⟩ = false ∧ W.frozen? ⟨w.heap.size + 1 + 1, 0, none⟩ = false ∧ W.frozen? ⟨w.heap.size + 1 + 1, 1, none⟩ = false ∧ W.frozen? ⟨w.heap.size + 1 + 1, 2, none⟩ = false :=
  ⟨frozen_of_row _ _ 0 _ _ h.a, frozen_of_row _ _ 1 _ _ h.a, frozen_of_row _ _ 2 _ _ h.a, frozen_of_row _ _ 0 _ _ h.r, frozen_of_row _ _ 1 _ _ h.r, frozen_of_row _ _ 2 _ _ h.r⟩
theorem In3r.later {V : World} (h : In3r w W f t d k a b ph pr pa x y z) (hb : Below W.heap.size W V) : In3r w V f t d k a b ph pr pa x y z :=
  ⟨(hb.block _ (row_ltJ h.f)).trans h.f, (hb.block _ (row_ltJ h.a)).trans h.a, (hb.block _ (row_ltJ h.r)).trans h.r, h.b.trans (hb.mono h.b.size)⟩
/-- The state is written over. -/
theorem In3r.st (h : In3r w W f t d k a b ph pr pa x y z) (x' y' z' : Int) :
    In3r w (((W.setCell ⟨w.heap.size + 1, 0, none⟩ (.int .i64 x')).setCell ⟨w.heap.size + 1, 1, none⟩ (.int .i64 y')).setCell ⟨w.heap.size + 1, 2, none⟩ (.int .i64 z')) f t d k a b ph pr pa x' y' z' := by
  refine ⟨?_, set3 h.a _ _ _, ?_, ((h.b.setCell (Nat.le_succ _) _).setCell (Nat.le_succ _) _).setCell (Nat.le_succ _) _⟩
  · rw [heap_setCell_other _ _ _ _ (by simp), heap_setCell_other _ _ _ _ (by simp), heap_setCell_other _ _ _ _ (by simp)]; exact h.f
  · rw [heap_setCell_other _ _ _ _ (by simp), heap_setCell_other _ _ _ _ (by simp), heap_setCell_other _ _ _ _ (by simp)]; exact h.r
theorem In3r.out (h : In3r w W f t d k a b ph pr pa x y z) (u v q : Value) : Below w.heap.size w (((W.setCell ⟨w.heap.size + 1 + 1, 0, none⟩ u).setCell ⟨w.heap.size + 1 + 1, 1, none⟩ v).setCell ⟨w.heap.size + 1 + 1, 2, none⟩ q) := ((h.b.setCell (by simp; omega) _).setCell (by simp; omega) _).setCell (by simp; omega) _
end

theorem set3d {w : World} {g : Nat} {a b c : Value} {t : TypeId} (h : w.heap[g]? = some (.cells #[a, b, c] t (0, 0))) (x0 x1 x2 : Value) :
    ((((w.setCell ⟨g, 0, none⟩ x0).setCell ⟨g, 1, none⟩ x1).setCell ⟨g, 2, none⟩ x2).drew).heap[g]? = some (.cells #[x0, x1, x2] t (0, 0)) := set3 h x0 x1 x2
theorem row_top (w : World) (o1 o2 o3 : Obj) : (((w.alloc o1).alloc o2).alloc o3).heap[w.heap.size + 1 + 1]? = some o3 := by
  have hs : ((w.alloc o1).alloc o2).heap.size = w.heap.size + 1 + 1 := by simp
  rw [← hs]
  exact heap_alloc_new _ _
theorem prepare_z (sh sp sa ph a : Nat) (z : Int) (w : World) (hz : z = (ph : Int)) (hf : finB sh = false) (h : sp ≤ a) :
    Calls Tryz.prog 138 #[agS sh sp sa, .int .i64 z, .int .i64 (a : Int)] w fun e w' => e = .returned (.tuple #[.agg #[.int .i64 z, .int .i64 (a : Int), .int .i64 (a : Int)], .bool true]) ∧ Below w.heap.size w w' := by
  subst hz; exact prepare_yes sh sp sa ph a w hf h
theorem prepare_zn (sh sp sa ph a : Nat) (fb : Bool) (z : Int) (w : World) (hz : z = (ph : Int)) (hf : finB sh = fb) (h : ¬ (sp ≤ a ∧ fb = false)) :
    Calls Tryz.prog 138 #[agS sh sp sa, .int .i64 z, .int .i64 (a : Int)] w fun e w' => e = .returned (.tuple #[agS sh sp sa, .bool false]) ∧ Below w.heap.size w w' := by
  subst hz; exact prepare_no sh sp sa ph a fb w hf h
section
variable (s j mb n d a ph sh sp sa : Nat) (id fr to_ pr pa : Int) (yb : Bool) (R : Nat → Bool) (w : World)
set_option maxHeartbeats 1000000 in
set_option maxRecDepth 100000 in
theorem step_1 (v : Nat) (y3 : Bool) (h : SR w s j mb id R n) (hd : d < 6) (hv : askP ⟨sh, sp, sa⟩ (R d) = v) (hy3 : ((v : Int) != 3) = y3) :
    Calls Tryz.prog 124 #[.pointer (some ⟨s, 0, none⟩), frV fr to_ d 1 a yb ph pr pa, agS sh sp sa] w fun e w' => e = .returned (.tuple #[agS v sp sa, .int .i64 2, .bool y3]) ∧ Below w.heap.size w w' := by
  have HS := hid h
  have HV := hid hv
  clear h hv
  go_enter Tryz.func124, Tryz.ntmps124
  go_wp2_with (go_at_call 136; (with_reducible refine (vote_is s j mb n d sh sp sa v id R _ (HS.out.later (in3r w _ _ _ _ _ _ _ _ _ _ _ _).b) hd HV.out).mono ?_); rintro e w1 ⟨rfl, hb1⟩; have HI1 := hid ((in3r w _ _ _ _ _ _ _ _ _ _ _ _).later hb1); clear hb1; obtain ⟨c0, c1, c2⟩ := HI1.out.cells; obtain ⟨r0, r1, r2⟩ := HI1.out.rcells; obtain ⟨z0, z1, z2, z3, z4, z5⟩ := HI1.out.fz)
  have HI2 := hid (HI1.out.st (v : Int) (sp : Int) (sa : Int))
  go_region
  all_goals go_wp2_with fail
  all_goals refine bodyPost_ret (results_row4 rfl _ _ (w.heap.size + 1 + 1) 43 _ (0, 0) _ rfl (set3d HI2.out.r _ _ _) Tryz.underlying43 rfl sizeState) rfl ?_
  all_goals exact ⟨rfl, (HI2.out.out _ _ _).drew⟩
set_option maxRecDepth 100000 in
theorem step_3y (hpa : sp < a) :
    Calls Tryz.prog 124 #[.pointer (some ⟨s, 0, none⟩), frV fr to_ d 3 a yb ph pr pa, agS sh sp sa] w fun e w' => e = .returned (.tuple #[agS sh a sa, .int .i64 4, .bool true]) ∧ Below w.heap.size w w' := by
  go_enter Tryz.func124, Tryz.ntmps124
  go_wp2_with (go_at_call 137; (with_reducible refine (promise_yes sh sp sa a _ hpa).mono ?_); rintro e w1 ⟨rfl, hb1⟩; have HI1 := hid ((in3r w _ _ _ _ _ _ _ _ _ _ _ _).later hb1); clear hb1; obtain ⟨c0, c1, c2⟩ := HI1.out.cells; obtain ⟨r0, r1, r2⟩ := HI1.out.rcells; obtain ⟨z0, z1, z2, z3, z4, z5⟩ := HI1.out.fz)
  have HI2 := hid (HI1.out.st (sh : Int) (a : Int) (sa : Int))
  refine bodyPost_ret (results_row4 rfl _ _ (w.heap.size + 1 + 1) 43 _ (0, 0) _ rfl (set3 HI2.out.r _ _ _) Tryz.underlying43 rfl sizeState) rfl ?_
  exact ⟨rfl, HI2.out.out _ _ _⟩
set_option maxRecDepth 100000 in
theorem step_3n (hpa : ¬ sp < a) :
    Calls Tryz.prog 124 #[.pointer (some ⟨s, 0, none⟩), frV fr to_ d 3 a yb ph pr pa, agS sh sp sa] w fun e w' => e = .returned (.tuple #[agS sh sp sa, .int .i64 4, .bool false]) ∧ Below w.heap.size w w' := by
  go_enter Tryz.func124, Tryz.ntmps124
  go_wp2_with (go_at_call 137; (with_reducible refine (promise_no sh sp sa a _ hpa).mono ?_); rintro e w1 ⟨rfl, hb1⟩; have HI1 := hid ((in3r w _ _ _ _ _ _ _ _ _ _ _ _).later hb1); clear hb1; obtain ⟨c0, c1, c2⟩ := HI1.out.cells; obtain ⟨r0, r1, r2⟩ := HI1.out.rcells; obtain ⟨z0, z1, z2, z3, z4, z5⟩ := HI1.out.fz)
  have HI2 := hid (HI1.out.st (sh : Int) (sp : Int) (sa : Int))
  refine bodyPost_ret (results_row4 rfl _ _ (w.heap.size + 1 + 1) 43 _ (0, 0) _ rfl (set3 HI2.out.r _ _ _) Tryz.underlying43 rfl sizeState) rfl ?_
  exact ⟨rfl, HI2.out.out _ _ _⟩
set_option maxRecDepth 100000 in
theorem step_5n (hph : ¬ (ph = 4 ∨ ph = 5)) :
    Calls Tryz.prog 124 #[.pointer (some ⟨s, 0, none⟩), frV fr to_ d 5 a yb ph pr pa, agS sh sp sa] w fun e w' => e = .returned (.tuple #[agS sh sp sa, .int .i64 0, .bool false]) ∧ Below w.heap.size w w' := by
  have hp4 : ¬ (ph : Int) = 4 := by omega
  have hp5 : ¬ (ph : Int) = 5 := by omega
  have e4 : ((ph : Int) != 4) = true := bne_iff_ne.2 hp4
  have e5 : ((ph : Int) != 5) = true := bne_iff_ne.2 hp5
  clear hph
  go_enter Tryz.func124, Tryz.ntmps124
  go_wp2_with fail
  refine bodyPost_ret (results_row4 rfl _ _ (w.heap.size + 1 + 1) 43 _ (0, 0) _ rfl (row_top w _ _ _) Tryz.underlying43 rfl sizeState) rfl ?_
  exact ⟨rfl, (((Below.refl _ _).alloc (Nat.le_refl _) _).alloc (by simp) _).alloc (by simp; omega) _⟩
set_option maxRecDepth 100000 in
theorem step_7y (hf : finB sh = false) (hc : finB ph = true) :
    Calls Tryz.prog 124 #[.pointer (some ⟨s, 0, none⟩), frV fr to_ d 7 a yb ph pr pa, agS sh sp sa] w fun e w' => e = .returned (.tuple #[agS ph sp sa, .int .i64 0, .bool false]) ∧ Below w.heap.size w w' := by
  have HF := hid hf
  have HC := hid hc
  clear hf hc
  go_enter Tryz.func124, Tryz.ntmps124
  go_wp2_with (go_at_call 139; (with_reducible refine (decide_yes sh sp sa ph _ HF.out HC.out).mono ?_); rintro e w1 ⟨rfl, hb1⟩; have HI1 := hid ((in3r w _ _ _ _ _ _ _ _ _ _ _ _).later hb1); clear hb1; obtain ⟨c0, c1, c2⟩ := HI1.out.cells; obtain ⟨r0, r1, r2⟩ := HI1.out.rcells; obtain ⟨z0, z1, z2, z3, z4, z5⟩ := HI1.out.fz)
  refine bodyPost_ret (results_row4 rfl _ _ (w.heap.size + 1 + 1) 43 _ (0, 0) _ rfl (set3 HI1.out.r _ _ _) Tryz.underlying43 rfl sizeState) rfl ?_
  exact ⟨rfl, HI1.out.out _ _ _⟩
set_option maxRecDepth 100000 in
theorem step_7n (fb fc : Bool) (hf : finB sh = fb) (hc : finB ph = fc) (h : ¬ (fc = true ∧ fb = false)) :
    Calls Tryz.prog 124 #[.pointer (some ⟨s, 0, none⟩), frV fr to_ d 7 a yb ph pr pa, agS sh sp sa] w fun e w' => e = .returned (.tuple #[agS sh sp sa, .int .i64 0, .bool false]) ∧ Below w.heap.size w w' := by
  have HF := hid hf
  have HC := hid hc
  have HN := hid h
  clear hf hc h
  go_enter Tryz.func124, Tryz.ntmps124
  go_wp2_with (go_at_call 139; (with_reducible refine (decide_no sh sp sa ph fb fc _ HF.out HC.out HN.out).mono ?_); rintro e w1 ⟨rfl, hb1⟩; have HI1 := hid ((in3r w _ _ _ _ _ _ _ _ _ _ _ _).later hb1); clear hb1; obtain ⟨c0, c1, c2⟩ := HI1.out.cells; obtain ⟨r0, r1, r2⟩ := HI1.out.rcells; obtain ⟨z0, z1, z2, z3, z4, z5⟩ := HI1.out.fz)
  refine bodyPost_ret (results_row4 rfl _ _ (w.heap.size + 1 + 1) 43 _ (0, 0) _ rfl (set3 HI1.out.r _ _ _) Tryz.underlying43 rfl sizeState) rfl ?_
  exact ⟨rfl, HI1.out.out _ _ _⟩
set_option maxRecDepth 100000 in
theorem step_5y_4 (hf : finB sh = false) (h : sp ≤ a) :
    Calls Tryz.prog 124 #[.pointer (some ⟨s, 0, none⟩), frV fr to_ d 5 a yb 4 pr pa, agS sh sp sa] w fun e w' => e = .returned (.tuple #[.agg #[.int .i64 4, .int .i64 (a : Int), .int .i64 (a : Int)], .int .i64 6, .bool true]) ∧ Below w.heap.size w w' := by
  have HF := hid hf
  clear hf
  go_enter Tryz.func124, Tryz.ntmps124
  go_wp2_with (go_at_call 138; (with_reducible refine (prepare_z sh sp sa 4 a 4 _ rfl HF.out h).mono ?_); rintro e w1 ⟨rfl, hb1⟩; have HI1 := hid ((in3r w _ _ _ _ _ _ _ _ _ _ _ _).later hb1); clear hb1; obtain ⟨c0, c1, c2⟩ := HI1.out.cells; obtain ⟨r0, r1, r2⟩ := HI1.out.rcells; obtain ⟨z0, z1, z2, z3, z4, z5⟩ := HI1.out.fz)
  have HI2 := hid (HI1.out.st 4 (a : Int) (a : Int))
  refine bodyPost_ret (results_row4 rfl _ _ (w.heap.size + 1 + 1) 43 _ (0, 0) _ rfl (set3 HI2.out.r _ _ _) Tryz.underlying43 rfl sizeState) rfl ?_
  exact ⟨rfl, HI2.out.out _ _ _⟩
set_option maxRecDepth 100000 in
theorem step_5z_4 (fb : Bool) (hf : finB sh = fb) (h : ¬ (sp ≤ a ∧ fb = false)) :
    Calls Tryz.prog 124 #[.pointer (some ⟨s, 0, none⟩), frV fr to_ d 5 a yb 4 pr pa, agS sh sp sa] w fun e w' => e = .returned (.tuple #[agS sh sp sa, .int .i64 6, .bool false]) ∧ Below w.heap.size w w' := by
  have HF := hid hf
  have HN := hid h
  clear hf h
  go_enter Tryz.func124, Tryz.ntmps124
  go_wp2_with (go_at_call 138; (with_reducible refine (prepare_zn sh sp sa 4 a fb 4 _ rfl HF.out HN.out).mono ?_); rintro e w1 ⟨rfl, hb1⟩; have HI1 := hid ((in3r w _ _ _ _ _ _ _ _ _ _ _ _).later hb1); clear hb1; obtain ⟨c0, c1, c2⟩ := HI1.out.cells; obtain ⟨r0, r1, r2⟩ := HI1.out.rcells; obtain ⟨z0, z1, z2, z3, z4, z5⟩ := HI1.out.fz)
  have HI2 := hid (HI1.out.st (sh : Int) (sp : Int) (sa : Int))
  refine bodyPost_ret (results_row4 rfl _ _ (w.heap.size + 1 + 1) 43 _ (0, 0) _ rfl (set3 HI2.out.r _ _ _) Tryz.underlying43 rfl sizeState) rfl ?_
  exact ⟨rfl, HI2.out.out _ _ _⟩
set_option maxRecDepth 100000 in
theorem step_5y_5 (hf : finB sh = false) (h : sp ≤ a) :
    Calls Tryz.prog 124 #[.pointer (some ⟨s, 0, none⟩), frV fr to_ d 5 a yb 5 pr pa, agS sh sp sa] w fun e w' => e = .returned (.tuple #[.agg #[.int .i64 5, .int .i64 (a : Int), .int .i64 (a : Int)], .int .i64 6, .bool true]) ∧ Below w.heap.size w w' := by
  have HF := hid hf
  clear hf
  go_enter Tryz.func124, Tryz.ntmps124
  go_wp2_with (go_at_call 138; (with_reducible refine (prepare_z sh sp sa 5 a 5 _ rfl HF.out h).mono ?_); rintro e w1 ⟨rfl, hb1⟩; have HI1 := hid ((in3r w _ _ _ _ _ _ _ _ _ _ _ _).later hb1); clear hb1; obtain ⟨c0, c1, c2⟩ := HI1.out.cells; obtain ⟨r0, r1, r2⟩ := HI1.out.rcells; obtain ⟨z0, z1, z2, z3, z4, z5⟩ := HI1.out.fz)
  have HI2 := hid (HI1.out.st 5 (a : Int) (a : Int))
  refine bodyPost_ret (results_row4 rfl _ _ (w.heap.size + 1 + 1) 43 _ (0, 0) _ rfl (set3 HI2.out.r _ _ _) Tryz.underlying43 rfl sizeState) rfl ?_
  exact ⟨rfl, HI2.out.out _ _ _⟩
set_option maxRecDepth 100000 in
theorem step_5z_5 (fb : Bool) (hf : finB sh = fb) (h : ¬ (sp ≤ a ∧ fb = false)) :
    Calls Tryz.prog 124 #[.pointer (some ⟨s, 0, none⟩), frV fr to_ d 5 a yb 5 pr pa, agS sh sp sa] w fun e w' => e = .returned (.tuple #[agS sh sp sa, .int .i64 6, .bool false]) ∧ Below w.heap.size w w' := by
  have HF := hid hf
  have HN := hid h
  clear hf h
  go_enter Tryz.func124, Tryz.ntmps124
  go_wp2_with (go_at_call 138; (with_reducible refine (prepare_zn sh sp sa 5 a fb 5 _ rfl HF.out HN.out).mono ?_); rintro e w1 ⟨rfl, hb1⟩; have HI1 := hid ((in3r w _ _ _ _ _ _ _ _ _ _ _ _).later hb1); clear hb1; obtain ⟨c0, c1, c2⟩ := HI1.out.cells; obtain ⟨r0, r1, r2⟩ := HI1.out.rcells; obtain ⟨z0, z1, z2, z3, z4, z5⟩ := HI1.out.fz)
  have HI2 := hid (HI1.out.st (sh : Int) (sp : Int) (sa : Int))
  refine bodyPost_ret (results_row4 rfl _ _ (w.heap.size + 1 + 1) 43 _ (0, 0) _ rfl (set3 HI2.out.r _ _ _) Tryz.underlying43 rfl sizeState) rfl ?_
  exact ⟨rfl, HI2.out.out _ _ _⟩
set_option maxRecDepth 100000 in
theorem step_n2 :
    Calls Tryz.prog 124 #[.pointer (some ⟨s, 0, none⟩), frV fr to_ d 2 a yb ph pr pa, agS sh sp sa] w fun e w' => e = .returned (.tuple #[agS sh sp sa, .int .i64 0, .bool false]) ∧ Below w.heap.size w w' := by
  go_enter Tryz.func124, Tryz.ntmps124
  go_wp2_with fail
  refine bodyPost_ret (results_row4 rfl _ _ (w.heap.size + 1 + 1) 43 _ (0, 0) _ rfl (row_top w _ _ _) Tryz.underlying43 rfl sizeState) rfl ?_
  exact ⟨rfl, (((Below.refl _ _).alloc (Nat.le_refl _) _).alloc (by simp) _).alloc (by simp; omega) _⟩
set_option maxRecDepth 100000 in
theorem step_n4 :
    Calls Tryz.prog 124 #[.pointer (some ⟨s, 0, none⟩), frV fr to_ d 4 a yb ph pr pa, agS sh sp sa] w fun e w' => e = .returned (.tuple #[agS sh sp sa, .int .i64 0, .bool false]) ∧ Below w.heap.size w w' := by
  go_enter Tryz.func124, Tryz.ntmps124
  go_wp2_with fail
  refine bodyPost_ret (results_row4 rfl _ _ (w.heap.size + 1 + 1) 43 _ (0, 0) _ rfl (row_top w _ _ _) Tryz.underlying43 rfl sizeState) rfl ?_
  exact ⟨rfl, (((Below.refl _ _).alloc (Nat.le_refl _) _).alloc (by simp) _).alloc (by simp; omega) _⟩
set_option maxRecDepth 100000 in
theorem step_n6 :
    Calls Tryz.prog 124 #[.pointer (some ⟨s, 0, none⟩), frV fr to_ d 6 a yb ph pr pa, agS sh sp sa] w fun e w' => e = .returned (.tuple #[agS sh sp sa, .int .i64 0, .bool false]) ∧ Below w.heap.size w w' := by
  go_enter Tryz.func124, Tryz.ntmps124
  go_wp2_with fail
  refine bodyPost_ret (results_row4 rfl _ _ (w.heap.size + 1 + 1) 43 _ (0, 0) _ rfl (row_top w _ _ _) Tryz.underlying43 rfl sizeState) rfl ?_
  exact ⟨rfl, (((Below.refl _ _).alloc (Nat.le_refl _) _).alloc (by simp) _).alloc (by simp; omega) _⟩

theorem step_is (k : Nat) (g : HOut) (h : SR w s j mb id R n) (hd : d < 6) (hk : 1 ≤ k ∧ k ≤ 7) (hg : hearL ⟨sh, sp, sa⟩ (R d) k a ph = g) :
    Calls Tryz.prog 124 #[.pointer (some ⟨s, 0, none⟩), frV fr to_ d k a yb ph pr pa, agS sh sp sa] w fun e w' => e = .returned (.tuple #[agS g.st.ph g.st.pr g.st.at_, .int .i64 (g.k : Int), .bool g.yes]) ∧ Below w.heap.size w w' := by
  subst hg
  rcases (by omega : k = 1 ∨ k = 3 ∨ k = 5 ∨ k = 7 ∨ k = 2 ∨ k = 4 ∨ k = 6) with rfl | rfl | rfl | rfl | rfl | rfl | rfl
  · have e3 : ((askP ⟨sh, sp, sa⟩ (R d) : Int) != 3) = decide (askP ⟨sh, sp, sa⟩ (R d) ≠ 3) := by
      rw [Bool.eq_iff_iff]; simp; omega
    exact step_1 s j mb n d a ph sh sp sa id fr to_ pr pa yb R w _ _ h hd rfl e3
  · by_cases hpa : sp < a
    · rw [show hearL ⟨sh, sp, sa⟩ (R d) 3 a ph = ⟨⟨sh, a, sa⟩, 4, true⟩ by simp [hearL, hpa]]
      exact step_3y s d a ph sh sp sa fr to_ pr pa yb w hpa
    · rw [show hearL ⟨sh, sp, sa⟩ (R d) 3 a ph = ⟨⟨sh, sp, sa⟩, 4, false⟩ by simp [hearL, hpa]]
      exact step_3n s d a ph sh sp sa fr to_ pr pa yb w hpa
  · by_cases hph : ph = 4 ∨ ph = 5
    · by_cases hpa : sp ≤ a ∧ finB sh = false
      · rw [show hearL ⟨sh, sp, sa⟩ (R d) 5 a ph = ⟨⟨ph, a, a⟩, 6, true⟩ by simp [hearL, hph, hpa]]
        rcases hph with rfl | rfl
        · exact step_5y_4 s d a sh sp sa fr to_ pr pa yb w hpa.2 hpa.1
        · exact step_5y_5 s d a sh sp sa fr to_ pr pa yb w hpa.2 hpa.1
      · rw [show hearL ⟨sh, sp, sa⟩ (R d) 5 a ph = ⟨⟨sh, sp, sa⟩, 6, false⟩ by unfold hearL; rw [if_neg (by decide), if_neg (by decide), if_pos (by decide), if_pos hph, if_neg hpa]]
        rcases hph with rfl | rfl
        · exact step_5z_4 s d a sh sp sa fr to_ pr pa yb w _ rfl hpa
        · exact step_5z_5 s d a sh sp sa fr to_ pr pa yb w _ rfl hpa
    · rw [show hearL ⟨sh, sp, sa⟩ (R d) 5 a ph = ⟨⟨sh, sp, sa⟩, 0, false⟩ by simp [hearL, hph]]
      exact step_5n s d a ph sh sp sa fr to_ pr pa yb w hph
  · by_cases hc : finB ph = true ∧ finB sh = false
    · rw [show hearL ⟨sh, sp, sa⟩ (R d) 7 a ph = ⟨⟨ph, sp, sa⟩, 0, false⟩ by simp [hearL, hc]]
      exact step_7y s d a ph sh sp sa fr to_ pr pa yb w hc.2 hc.1
    · rw [show hearL ⟨sh, sp, sa⟩ (R d) 7 a ph = ⟨⟨sh, sp, sa⟩, 0, false⟩ by unfold hearL; rw [if_neg (by decide), if_neg (by decide), if_neg (by decide), if_pos (by decide), if_neg hc]]
      exact step_7n s d a ph sh sp sa fr to_ pr pa yb w _ _ rfl rfl hc
  · exact step_n2 s d a ph sh sp sa fr to_ pr pa yb w
  · exact step_n4 s d a ph sh sp sa fr to_ pr pa yb w
  · exact step_n6 s d a ph sh sp sa fr to_ pr pa yb w
end
end Go.Proofs.YtdpemmmbkjmplabGreatDoor
namespace Go.Proofs.YtdpemmmbkjmplabGreatDoor
open Go.RowKit

theorem kept_grown {w w' : World} {b : Nat} (h : w.grownBy w' (some b)) : Kept (In1 b) w w' := ⟨h.os, h.tape, h.output, h.size, fun k hk hs => h.block k hk (fun e => hs (Option.some.inj e))⟩
/-- Not a site. -/
theorem snew_bad (A : Nat → Addr) (id : Int) (v : Value) (w : World) (hE : HeldE w A) (h : id < 0 ∨ 7 ≤ id) :
    Calls Tryz.prog 39 #[.int .i64 id, v] w fun e w' => e = .returned (.tuple #[.pointer none, ev A 2]) ∧ Below w.heap.size w w' := by
  have g1 : w.cell? ⟨3, 0, none⟩ = some (.iface 222 (.pointer (some (A 1)))) := hE.g1
  clear hE
  by_cases h0 : id < 0
  · clear h
    go_enter Tryz.func39, Tryz.ntmps39
    go_wp2_with fail
    go_quiet (fail)
    go_wp2
    go_ret2
    exact ⟨rfl, below_drewN (Below.refl _ _) _⟩
  · have h7 : 7 ≤ id := by omega
    clear h
    go_enter Tryz.func39, Tryz.ntmps39
    go_wp2_with fail
    go_quiet (fail)
    go_wp2
    go_ret2
    exact ⟨rfl, below_drewN (Below.refl _ _) _⟩
/-- A plate that is no journal's. -/
theorem snew_err (A : Nat → Addr) (id : Int) (p q : Nat) (B : ByteArray) (l : Int) (c : Nat) (w : World) (h : Pl w p q B l) (hE : HeldE w A) (hB : B.size ≤ 1000) (hc : rC B l 0 216 = c + 1) (h0 : 0 ≤ id) (h7 : id < 7) :
    Calls Tryz.prog 39 #[.int .i64 id, .pointer (some ⟨p, 0, none⟩)] w fun e w' => e = .returned (.tuple #[.pointer none, .iface 222 (.pointer (some (A c)))]) ∧ w' = w := by
  have H := hid h
  have HE := hid hE
  have HC := hid hc
  clear h hE hc
  go_enter Tryz.func39, Tryz.ntmps39
  go_wp2_with (go_at_call 75; (with_reducible refine (open_bad A p q B l c _ H.out HE.out hB HC.out).mono ?_); rintro e wx ⟨rfl, hx⟩; subst wx)
  go_ret2
  exact ⟨rfl, rfl⟩
theorem snew_ok (A : Nat → Addr) (id : Int) (p q : Nat) (B : ByteArray) (l : Int) (w : World) (h : Pl w p q B l) (hE : HeldE w A) (hB : B.size ≤ 1000) (h6 : 216 ≤ B.size) (hl : ¬ l = -2) (h0 : 0 ≤ id) (h7 : id < 7) :
    Calls Tryz.prog 39 #[.int .i64 id, .pointer (some ⟨p, 0, none⟩)] w fun e w' => ∃ s j mb, e = .returned (.tuple #[.pointer (some ⟨s, 0, none⟩), .nilIface]) ∧ JR w' j p (dealL B.data.toList) false ∧ SR w' s j mb id (fun _ => false) 0 ∧ Below w.heap.size w w' ∧ w.heap.size ≤ j ∧ j < mb ∧ mb < s := by
  have H := hid h
  have HE := hid hE
  clear h hE
  have hmm := @run_makeMap Tryz.prog
  go_enter Tryz.func39, Tryz.ntmps39
  go_wp2_with (go_at_call 75; (with_reducible refine (open_ok A p q B l _ H.out HE.out hB h6 hl).mono ?_); rintro e w1 ⟨j, rfl, hj, hb, hj0⟩; have HJ := hid hj; have HB := hid hb; have HJ0 := hid hj0; clear hj hb hj0)
  go_ret2
  have hs : (w1.alloc (.map #[] 0)).heap.size = w1.heap.size + 1 := by simp
  have hb2 : Below w1.heap.size w1 (w1.alloc (.map #[] 0)) := (Below.refl _ _).alloc (Nat.le_refl _) _
  have hb3 := hb2.alloc hb2.size (.cells #[.pointer (some ⟨j, 0, none⟩), .int .i64 id, .map (some w1.heap.size)] 122)
  refine ⟨w1.heap.size + 1, j, w1.heap.size, rfl, HJ.out.later hb3 HJ.out.lt, ⟨?_, .map [], (World.ownsMap_made w1 _ _ _).alloc _, fun d _ => rfl⟩, HB.out.trans (hb3.mono HB.out.size), HJ0.out, HJ.out.lt, Nat.lt_succ_self _⟩
  have := heap_alloc_new (w1.alloc (.map #[] 0)) (.cells #[.pointer (some ⟨j, 0, none⟩), .int .i64 id, .map (some w1.heap.size)] 122)
  rw [hs] at this
  exact this
section
variable {w0 w w1 w2 : World} {s j mb p q n : Nat} {id : Int} {R : Nat → Bool} {E : Nat → Nat × St} {over : Bool} {B : ByteArray} {l : Int} {A : Nat → Addr}
theorem sp_new (hb : Below w0.heap.size w0 w1) (h : Pl w1 p q B l) (hp : w0.heap.size ≤ p) (hq : w0.heap.size ≤ q) (hj : JR w2 j p E over) (hs : SR w2 s j mb id R n) (hb2 : Below w1.heap.size w1 w2) (hj0 : w1.heap.size ≤ j) (hm : j < mb) (hms : mb < s) (h0 : -2 ≤ l) (h1 : l ≤ 9223372036854775807) (hz : B.size ≤ 1000) (h6 : 216 ≤ B.size) :
    SP w0 w2 s j mb p q id R n E over B l := by
  have e1 := row_lt h.head
  have e2 := row_lt h.row
  have e3 := hb.size
  exact ⟨jp_new hb h hp hq hj hb2 hj0 h0 h1 hz h6, hs, fun g => by unfold In3 at g; omega, fun g => by unfold In3 at g; omega, by omega, by omega, by omega⟩
/-- Opened anew. -/
theorem sboot_sp (h : JP w0 w j p q E over B (-1)) (hE : HeldE w0 A) (i0 : 0 ≤ id) (i7 : id < 7) :
    Calls Tryz.prog 39 #[.int .i64 id, .pointer (some ⟨p, 0, none⟩)] w fun e w' => ∃ s' j' mb', e = .returned (.tuple #[.pointer (some ⟨s', 0, none⟩), .nilIface]) ∧ SP w0 w' s' j' mb' p q id (fun _ => false) 0 (dealL B.data.toList) false B (-1) ∧ Below w.heap.size w w' ∧ w.heap.size ≤ j' ∧ w.heap.size ≤ s' ∧ w.heap.size ≤ mb' := by
  refine (snew_ok A id p q B (-1) w h.pl (h.held hE) h.sz h.s6 (by decide) i0 i7).mono ?_
  rintro e w' ⟨s', j', mb', rfl, hj, hs, hb, hj0, hm, hms⟩
  exact ⟨s', j', mb', rfl, sp_new h.bel h.pl h.p0 h.q0 hj hs hb hj0 hm hms (by decide) (by decide) h.sz h.s6, hb, hj0, by omega, by omega⟩
theorem sstate_is (d h1 h2 h3 : Nat) (hj : JR w j p E over) (h : SR w s j mb id R n) (hd : d < 6) (hs : (E d).2 = ⟨h1, h2, h3⟩) :
    Calls Tryz.prog 89 #[.pointer (some ⟨s, 0, none⟩), .int .i64 (d : Int)] w fun e w' => e = .returned (.tuple #[agS h1 h2 h3, .nilIface]) ∧ Below w.heap.size w w' := by
  obtain ⟨W, HW⟩ : ∃ W, Hid (w.alloc (.cells #[.int .i64 0, .int .i64 0, .int .i64 0] 43) = W) := ⟨_, rfl⟩
  have HB : Hid (Below w.heap.size w W) := by rw [← HW.out]; exact (Below.refl _ _).alloc (Nat.le_refl _) _
  have HR : Hid (W.heap[w.heap.size]? = some (.cells #[.int .i64 0, .int .i64 0, .int .i64 0] 43 (0, 0))) := by rw [← HW.out]; exact heap_alloc_new w _
  have HJ := hid (hj.later HB.out hj.lt)
  obtain ⟨x0, x1, x2⟩ := (h.later HB.out).cells
  have HS := hid hs
  have hW := HW.out
  clear hj h hs
  go_enter Tryz.func89, Tryz.ntmps89
  go_wp2_with (go_at_call 76; (with_reducible refine (get_is j p d E over h1 h2 h3 _ HJ.out hd HS.out).mono ?_); rintro e w1 ⟨rfl, hb1⟩; have HR1 := hid ((hb1.block _ (row_ltJ HR.out)).trans HR.out); have HB1 := hid (HB.out.trans (hb1.mono HB.out.size)); clear hb1; have c0 : w1.cell? ⟨w.heap.size, 0, none⟩ = some (.int .i64 0) := (cell_of_row _ _ 0 _ _ _ HR1.out); have c1 : w1.cell? ⟨w.heap.size, 1, none⟩ = some (.int .i64 0) := (cell_of_row _ _ 1 _ _ _ HR1.out); have c2 : w1.cell? ⟨w.heap.size, 2, none⟩ = some (.int .i64 0) := (cell_of_row _ _ 2 _ _ _ HR1.out); have z0 := frozen_of_row _ _ 0 _ _ HR1.out; have z1 := frozen_of_row _ _ 1 _ _ HR1.out; have z2 := frozen_of_row _ _ 2 _ _ HR1.out)
  refine bodyPost_ret (results_row2 rfl _ _ w.heap.size 43 _ (0, 0) _ rfl (set3 HR1.out _ _ _) Tryz.underlying43 rfl sizeState) rfl ?_
  exact ⟨rfl, ((HB1.out.setCell (Nat.le_refl _) _).setCell (Nat.le_refl _) _).setCell (Nat.le_refl _) _⟩
theorem sstate_isnt (d : Int) (h : SR w s j mb id R n) (hE : HeldE w A) (hd : ¬ (0 ≤ d ∧ d < 6)) :
    Calls Tryz.prog 89 #[.pointer (some ⟨s, 0, none⟩), .int .i64 d] w fun e w' => e = .returned (.tuple #[.agg #[.int .i64 0, .int .i64 0, .int .i64 0], ev A 2]) ∧ Below w.heap.size w w' := by
  obtain ⟨W, HW⟩ : ∃ W, Hid (w.alloc (.cells #[.int .i64 0, .int .i64 0, .int .i64 0] 43) = W) := ⟨_, rfl⟩
  have HB : Hid (Below w.heap.size w W) := by rw [← HW.out]; exact (Below.refl _ _).alloc (Nat.le_refl _) _
  have HR : Hid (W.heap[w.heap.size]? = some (.cells #[.int .i64 0, .int .i64 0, .int .i64 0] 43 (0, 0))) := by rw [← HW.out]; exact heap_alloc_new w _
  have HE := hid (hE.later HB.out)
  obtain ⟨x0, x1, x2⟩ := (h.later HB.out).cells
  have hW := HW.out
  clear hE h
  go_enter Tryz.func89, Tryz.ntmps89
  go_wp2_with (go_at_call 76; (with_reducible refine (get_isnt A _ d _ HE.out hd).mono ?_); rintro e w1 ⟨rfl, hb1⟩; have HR1 := hid ((hb1.block _ (row_ltJ HR.out)).trans HR.out); have HB1 := hid (HB.out.trans (hb1.mono HB.out.size)); clear hb1; have c0 : w1.cell? ⟨w.heap.size, 0, none⟩ = some (.int .i64 0) := (cell_of_row _ _ 0 _ _ _ HR1.out); have c1 : w1.cell? ⟨w.heap.size, 1, none⟩ = some (.int .i64 0) := (cell_of_row _ _ 1 _ _ _ HR1.out); have c2 : w1.cell? ⟨w.heap.size, 2, none⟩ = some (.int .i64 0) := (cell_of_row _ _ 2 _ _ _ HR1.out); have z0 := frozen_of_row _ _ 0 _ _ HR1.out; have z1 := frozen_of_row _ _ 1 _ _ HR1.out; have z2 := frozen_of_row _ _ 2 _ _ HR1.out)
  refine bodyPost_ret (results_row2 rfl _ _ w.heap.size 43 _ (0, 0) _ rfl (set3 HR1.out _ _ _) Tryz.underlying43 rfl sizeState) rfl ?_
  exact ⟨rfl, ((HB1.out.setCell (Nat.le_refl _) _).setCell (Nat.le_refl _) _).setCell (Nat.le_refl _) _⟩
/-- A cut is set, whatever number. -/
theorem scut_jp (x : Int) (h : JP w0 w j p q E over B l) (hE : HeldE w0 A) (hx : x ≤ 9223372036854775807) :
    Calls Tryz.prog 87 #[.pointer (some ⟨p, 0, none⟩), .int .i64 x] w fun e w' => e = .returned (ev A (cC l x)) ∧ JP w0 w' j p q E over B (cL l x) ∧ Kept (In3 j p q) w w' := by
  refine (cut_pl A p q B l x w h.pl (h.held hE)).mono ?_
  rintro e w' ⟨rfl, hp, hk⟩
  have h0 := h.l0
  have h1 := h.l1
  refine ⟨rfl, h.plate hk hp ?_ ?_ rfl, hk.mono (fun k e => .inr e)⟩
  · unfold cL
    split
    · exact h0
    · split <;> omega
  · unfold cL
    split
    · exact h1
    · split <;> omega
theorem has_upd {D : DataW Unit} {R : Nat → Bool} (hm : Maps.IsMap D) (hh : ∀ d : Nat, d < 6 → Maps.has D (.int .i64 (d : Int)) = R d) (x : DataW Unit) (e : Nat) : ∀ d : Nat, d < 6 → Maps.has (D.put (.int .i64 (e : Int)) x) (.int .i64 (d : Int)) = updR R e d := by
  intro d hd
  unfold updR
  by_cases g : d = e
  · subst g
    rw [if_pos rfl]
    exact Maps.has_put_same (k := .int .i64 (d : Int)) hm (by unfold WideAt.IsKeyLit; trivial) x
  · rw [if_neg g, Maps.has_put_other (fun h => g (by injection h with _ h2; omega))]
    exact hh d hd
/-- A right deal is refused. -/
theorem srefuse_ok (d : Nat) (hj : JR w j p E over) (h : SR w s j mb id R n) (hd : d < 6) (hn : n ≤ 1000000) :
    Calls Tryz.prog 42 #[.pointer (some ⟨s, 0, none⟩), .int .i64 (d : Int)] w fun e w' => e = .returned .nilIface ∧ SR w' s j mb id (updR R d) (n + 1) ∧ Kept (In1 mb) w w' ∧ s ≠ mb := by
  obtain ⟨⟨h1, h2, h3⟩, HS⟩ : ∃ x, Hid ((E d).2 = x) := ⟨_, rfl⟩
  have HJ := hid hj
  have HR := hid h
  obtain ⟨x0, x1, x2⟩ := h.cells
  have hk := mkeyN hd
  have hne : s ≠ mb := by
    obtain ⟨r, D, ⟨es, cl, hb, _⟩, _⟩ := h
    intro e
    subst e
    rw [r] at hb
    cases hb
  clear hj h
  go_enter Tryz.func42, Tryz.ntmps42
  go_wp2_with (first | (go_at_call 76; (with_reducible refine (get_is j p d E over h1 h2 h3 _ HJ.out hd HS.out).mono ?_); rintro e w1 ⟨rfl, hb1⟩; have HR1 := hid (HR.out.later hb1); have HB1 := hid hb1; clear hb1; obtain ⟨D, hD, hh⟩ := HR1.out.ref; have HD := hid hD; have HH := hid hh; clear hD hh; obtain ⟨x0, x1, x2⟩ := HR1.out.cells; have hs1 := HR1.out.lts) | (at_mapUpdate; refine wpList_mapUpdate_own _ rfl _ _ _ 120 rfl 3 117 mlaw Tryz.underlying120 (unitElem (H := Unit)) mb n D rfl (HD.out.alloc _) (by unfold maxLen; omega) _ _ _ rfl rfl hk _ [] unitElem_mk ?_; intro w2 hown2 hgrow2))
  go_ret
  have b2 := (Below.refl w1.heap.size w1).alloc (Nat.le_refl _) (.cells #[.int .i64 (h1 : Int), .int .i64 (h2 : Int), .int .i64 (h3 : Int)] 43)
  have k2 := (Kept.of_below (S := In1 mb) (HB1.out)).trans ((Kept.of_below b2).trans (kept_grown hgrow2))
  exact ⟨rfl, ⟨k2.row HR.out.row hne, _, hown2, has_upd HD.out.isMap HH.out _ d⟩, k2, hne⟩
/-- No deal. -/
theorem srefuse_bad (d : Int) (h : SR w s j mb id R n) (hE : HeldE w A) (hd : ¬ (0 ≤ d ∧ d < 6)) :
    Calls Tryz.prog 42 #[.pointer (some ⟨s, 0, none⟩), .int .i64 d] w fun e w' => e = .returned (ev A 2) ∧ Below w.heap.size w w' := by
  have HE := hid hE
  obtain ⟨x0, x1, x2⟩ := h.cells
  clear hE h
  go_enter Tryz.func42, Tryz.ntmps42
  go_wp2_with (go_at_call 76; (with_reducible refine (get_isnt A _ d _ HE.out hd).mono ?_); rintro e w1 ⟨rfl, hb1⟩; have HB1 := hid hb1; clear hb1)
  go_ret
  exact ⟨rfl, HB1.out.alloc HB1.out.size _⟩
theorem SP.refuse (h : SP w0 w s j mb p q id R n E over B l) {d : Nat} (hr : SR w1 s j mb id (updR R d) (n + 1)) (hk : Kept (In1 mb) w w1) : SP w0 w1 s j mb p q id (updR R d) (n + 1) E over B l :=
  ⟨h.jp.far hk (fun x e => by unfold In1 at e; rw [e]; exact h.m0) (fun x hx e => by unfold In1 at e; exact h.nm (e ▸ hx)), hr, h.ns, h.nm, h.sm, h.s0, h.m0⟩
end
set_option maxHeartbeats 2000000 in
set_option maxRecDepth 100000 in
theorem shear_bad (A : Nat → Addr) (sv : Value) (f t d k a : Int) (y : Bool) (ph pr pa : Int) (w : World) (hE : HeldE w A) (h : ¬ frOk f t d k a ph pr pa) :
    Calls Tryz.prog 103 #[sv, frV f t d k a y ph pr pa] w fun e w' => e = .returned (.tuple #[.slice none 0 0, ev A 2]) ∧ Below w.heap.size w w' := by
  obtain ⟨W, HW⟩ : ∃ W, Hid (w.alloc (.cells #[.int .i64 f, .int .i64 t, .int .i64 d, .int .i64 k, .int .i64 a, .bool y, .int .i64 ph, .int .i64 pr, .int .i64 pa] 93) = W) := ⟨_, rfl⟩
  have HB : Hid (Below w.heap.size w W) := by rw [← HW.out]; exact (Below.refl _ _).alloc (Nat.le_refl _) _
  have HR : Hid (W.heap[w.heap.size]? = some (.cells #[.int .i64 f, .int .i64 t, .int .i64 d, .int .i64 k, .int .i64 a, .bool y, .int .i64 ph, .int .i64 pr, .int .i64 pa] 93 (0, 0))) := by rw [← HW.out]; exact heap_alloc_new w _
  obtain ⟨c0, c1, c2, c3, c4, c5, c6, c7, c8⟩ := nine HR.out
  have hW := HW.out
  have HF : Hid ((if frOk f t d k a ph pr pa then 0 else 2) = 2) := if_neg h
  have HE := hid (hE.later HB.out)
  clear h hE
  go_enter Tryz.func103, Tryz.ntmps103
  go_wp2_with (go_at_call 123; (with_reducible refine (wcheck_e A f t d k a y ph pr pa 2 _ HE.out HF.out).mono ?_); rintro e w1 ⟨rfl, hb1⟩; unfold ev)
  go_ret2
  exact ⟨rfl, HB.out.trans (hb1.mono HB.out.size)⟩
set_option maxHeartbeats 2000000 in
set_option maxRecDepth 100000 in
theorem shear_other (A : Nat → Addr) (s j mb n : Nat) (id : Int) (R : Nat → Bool) (f to_ d k a : Int) (y : Bool) (ph pr pa : Int) (w : World) (h : SR w s j mb id R n) (hE : HeldE w A) (hf : frOk f to_ d k a ph pr pa) (hne : ¬ to_ = id) :
    Calls Tryz.prog 103 #[.pointer (some ⟨s, 0, none⟩), frV f to_ d k a y ph pr pa] w fun e w' => e = .returned (.tuple #[.slice none 0 0, ev A 3]) ∧ Below w.heap.size w w' := by
  obtain ⟨W, HW⟩ : ∃ W, Hid (w.alloc (.cells #[.int .i64 f, .int .i64 to_, .int .i64 d, .int .i64 k, .int .i64 a, .bool y, .int .i64 ph, .int .i64 pr, .int .i64 pa] 93) = W) := ⟨_, rfl⟩
  have HB : Hid (Below w.heap.size w W) := by rw [← HW.out]; exact (Below.refl _ _).alloc (Nat.le_refl _) _
  have HR : Hid (W.heap[w.heap.size]? = some (.cells #[.int .i64 f, .int .i64 to_, .int .i64 d, .int .i64 k, .int .i64 a, .bool y, .int .i64 ph, .int .i64 pr, .int .i64 pa] 93 (0, 0))) := by rw [← HW.out]; exact heap_alloc_new w _
  obtain ⟨c0, c1, c2, c3, c4, c5, c6, c7, c8⟩ := nine HR.out
  have hW := HW.out
  have HF : Hid ((if frOk f to_ d k a ph pr pa then 0 else 2) = 0) := if_pos hf
  have HE := hid (hE.later HB.out)
  have HS := hid (h.later HB.out)
  clear h hf hE
  go_enter Tryz.func103, Tryz.ntmps103
  go_wp2_with (go_at_call 123; (with_reducible refine (wcheck_e A f to_ d k a y ph pr pa 0 _ HE.out HF.out).mono ?_); rintro e w1 ⟨rfl, hb1⟩; unfold ev; obtain ⟨x0, x1, x2⟩ := (HS.out.later hb1).cells; obtain ⟨c0, c1, c2, c3, c4, c5, c6, c7, c8⟩ := nine ((hb1.block _ (row_ltJ HR.out)).trans HR.out); have g2 : w1.cell? ⟨4, 0, none⟩ = some (.iface 222 (.pointer (some (A 2)))) := (HE.out.later hb1).g2; have HB1 := hid (HB.out.trans (hb1.mono HB.out.size)); clear hb1)
  go_region
  all_goals go_wp2_with fail
  all_goals go_region
  all_goals go_wp2_with fail
  all_goals go_ret2
  all_goals exact ⟨rfl, HB1.out.drew.drew⟩
end Go.Proofs.YtdpemmmbkjmplabGreatDoor
namespace Go.Proofs.YtdpemmmbkjmplabGreatDoor
open Go.RowKit

/-- One answer: who answers, to whom, of which deal, at which attempt; the state then. -/
def ansC (id f d a : Int) (h : HOut) : Array Value := #[.int .i64 id, .int .i64 f, .int .i64 d, .int .i64 (h.k : Int), .int .i64 a, .bool h.yes, .int .i64 (h.st.ph : Int), .int .i64 (h.st.pr : Int), .int .i64 (h.st.at_ : Int)]
/-- A slice value that holds no answer (c > 0, or kind 0), or that one. -/
def AnsV (w : World) (v : Value) (c : Nat) (id f d a : Int) (h : HOut) : Prop :=
  if c = 0 ∧ h.k ≠ 0 then ∃ g cap, v = .slice (some ⟨g, 0, none⟩) 1 cap ∧ w.heap[g]? = some (.cells (ansC id f d a h) 93 (0, 0)) else v = .slice none 0 0
theorem AnsV.later {w w' : World} {v : Value} {c : Nat} {id f d a : Int} {h : HOut} (x : AnsV w v c id f d a h) (hb : Below w.heap.size w w') : AnsV w' v c id f d a h := by
  unfold AnsV at *
  split
  · rename_i hc
    rw [if_pos hc] at x
    obtain ⟨g, cap, e, r⟩ := x
    exact ⟨g, cap, e, (hb.block g (row_ltJ r)).trans r⟩
  · rename_i hc
    rw [if_neg hc] at x
    exact x
end Go.Proofs.YtdpemmmbkjmplabGreatDoor
namespace Go.Proofs.YtdpemmmbkjmplabGreatDoor
open Go.RowKit

theorem keptCell {S : Nat → Prop} {w w' : World} {a : Addr} {v : Value} (h : Kept S w w') (hc : w.cell? a = some v) (hs : ¬ S a.block) : w'.cell? a = some v := by
  rw [World.cell?_of_block (w := w) (h.block a.block (cell_lt hc) hs)]; exact hc
theorem cell3_other {w : World} {g : Nat} {a b c : Value} {ad : Addr} {v : Value} (h : w.cell? ad = some v) (hne : ad.block ≠ g) : (((w.setCell ⟨g, 0, none⟩ a).setCell ⟨g, 1, none⟩ b).setCell ⟨g, 2, none⟩ c).cell? ad = some v := by
  rw [World.cell?_of_block (w := w) (by rw [heap_setCell_other _ _ _ _ hne, heap_setCell_other _ _ _ _ hne, heap_setCell_other _ _ _ _ hne])]
  exact h
/-- A frame in block b, a state in block g. -/
structure FrSt (w wx : World) (b g : Nat) (f t d k a : Int) (y : Bool) (ph pr pa : Int) (x0 x1 x2 : Nat) : Prop where
  bel : Below w.heap.size w wx
  fr : wx.heap[b]? = some (.cells #[.int .i64 f, .int .i64 t, .int .i64 d, .int .i64 k, .int .i64 a, .bool y, .int .i64 ph, .int .i64 pr, .int .i64 pa] 93 (0, 0))
  st : wx.heap[g]? = some (.cells #[.int .i64 (x0 : Int), .int .i64 (x1 : Int), .int .i64 (x2 : Int)] 43 (0, 0))
  lb : w.heap.size ≤ b
  lg : b < g
section
variable {w wx : World} {b g : Nat} {f t d k a : Int} {y : Bool} {ph pr pa : Int} {x0 x1 x2 : Nat}
theorem FrSt.later {wy : World} (h : FrSt w wx b g f t d k a y ph pr pa x0 x1 x2) (hb : Below wx.heap.size wx wy) : FrSt w wy b g f t d k a y ph pr pa x0 x1 x2 :=
  ⟨h.bel.trans (hb.mono h.bel.size), (hb.block _ (row_ltJ h.fr)).trans h.fr, (hb.block _ (row_ltJ h.st)).trans h.st, h.lb, h.lg⟩
theorem FrSt.cells (h : FrSt w wx b g f t d k a y ph pr pa x0 x1 x2) : wx.cell? ⟨g, 0, none⟩ = some (.int .i64 (x0 : Int)) ∧ wx.cell? ⟨g, 1, none⟩ = some (.int .i64 (x1 : Int)) ∧ wx.cell? ⟨g, 2, none⟩ = some (.int .i64 (x2 : Int)) := by
  refine ⟨?_, ?_, ?_⟩ <;> rw [cell_of_row _ _ _ _ _ _ h.st] <;> rfl
end
set_option maxHeartbeats 4000000 in
set_option maxRecDepth 100000 in
theorem shear_inB (A : Nat → Addr) (w0 w : World) (s j mb p q n : Nat) (id f d k a ph pr pa : Nat) (y : Bool) (R : Nat → Bool) (E : Nat → Nat × St) (over : Bool) (B : ByteArray) (l : Int) (g : HOut) (o : POut)
    (h : SP w0 w s j mb p q id R n E over B l) (hE : HeldE w0 A) (hn : ∀ d, d < 6 → (E d).1 < 4294967296) (hf : frOk f id d k a ph pr pa) (hg : hearL (E d).2 (R d) k a ph = g) (ho : pOut E over B l d g.st.ph g.st.pr g.st.at_ = o) :
    Calls Tryz.prog 103 #[.pointer (some ⟨s, 0, none⟩), frV f id d k a y ph pr pa] w fun e w' => ∃ v, e = .returned (.tuple #[v, ev A o.c]) ∧ AnsV w' v o.c id f d a g ∧ SP w0 w' s j mb p q id R n o.e o.over o.b o.l ∧ Kept (In3 j p q) w w' ∧ ∀ a c, v = .slice (some a) 1 c → w.heap.size ≤ a.block := by
  obtain ⟨W, HW⟩ : ∃ W, Hid (w.alloc (.cells #[.int .i64 f, .int .i64 id, .int .i64 d, .int .i64 k, .int .i64 a, .bool y, .int .i64 ph, .int .i64 pr, .int .i64 pa] 93) = W) := ⟨_, rfl⟩
  have HB : Hid (Below w.heap.size w W) := by rw [← HW.out]; exact (Below.refl _ _).alloc (Nat.le_refl _) _
  have HR : Hid (W.heap[w.heap.size]? = some (.cells #[.int .i64 f, .int .i64 id, .int .i64 d, .int .i64 k, .int .i64 a, .bool y, .int .i64 ph, .int .i64 pr, .int .i64 pa] 93 (0, 0))) := by rw [← HW.out]; exact heap_alloc_new w _
  obtain ⟨c0, c1, c2, c3, c4, c5, c6, c7, c8⟩ := nine HR.out
  have hW := HW.out
  have HF : Hid ((if frOk f id d k a ph pr pa then 0 else 2) = 0) := if_pos hf
  have hd : d < 6 := by have := hf.2.2.1; omega
  have hk17 : 1 ≤ k ∧ k ≤ 7 := by have := hf.2.2.2.1; omega
  have HS := hid h
  have HE := hid hE
  have HN := hid hn
  obtain ⟨⟨sh, sp, sa⟩, HEd⟩ : ∃ x, Hid ((E d).2 = x) := ⟨_, rfl⟩
  rw [HEd.out] at hg
  have HG := hid hg
  have HO := hid ho
  have HEW := hid ((hE.later h.jp.bel).later HB.out)
  clear h hf hn hg ho hE
  go_enter Tryz.func103, Tryz.ntmps103
  go_wp2_with (go_at_call 123; (with_reducible refine (wcheck_e A f id d k a y ph pr pa 0 _ HEW.out HF.out).mono ?_); rintro e w1 ⟨rfl, hb1⟩; unfold ev; have HB1 := hid (HB.out.trans (hb1.mono HB.out.size)); obtain ⟨x0, x1, x2⟩ := (HS.out.sr.later HB1.out).cells; have HR1 := hid ((hb1.block _ (row_ltJ HR.out)).trans HR.out); obtain ⟨c0, c1, c2, c3, c4, c5, c6, c7, c8⟩ := nine HR1.out; clear hb1)
  go_region
  all_goals go_upto_region 13 with fail
  have HS1 := hid (HS.out.later HB1.out)
  have hbs := row_ltJ HR1.out
  obtain ⟨V, HV⟩ : ∃ V, Hid (w1.alloc (.cells #[.int .i64 0, .int .i64 0, .int .i64 0] 43) = V) := ⟨_, rfl⟩
  have HBV : Hid (Below w1.heap.size w1 V) := by rw [← HV.out]; exact (Below.refl _ _).alloc (Nat.le_refl _) _
  have HRV : Hid (V.heap[w1.heap.size]? = some (.cells #[.int .i64 0, .int .i64 0, .int .i64 0] 43 (0, 0))) := by rw [← HV.out]; exact heap_alloc_new w1 _
  have HFV : Hid (V.heap[w.heap.size]? = some (.cells #[.int .i64 f, .int .i64 id, .int .i64 d, .int .i64 k, .int .i64 a, .bool y, .int .i64 ph, .int .i64 pr, .int .i64 pa] 93 (0, 0))) := (HBV.out.block _ hbs).trans HR1.out
  have HSV := hid (HS1.out.later HBV.out)
  have hV := HV.out
  have vx := HSV.out.sr.cells.1
  have vc : V.cell? ⟨w.heap.size, 2, none⟩ = some (.int .i64 (d : Int)) := (nine HFV.out).2.2.1
  have hsl := HS1.out.sr.lts.1
  have ns1 : s ≠ w1.heap.size := Nat.ne_of_lt hsl
  have nf1 : w.heap.size ≠ w1.heap.size := Nat.ne_of_lt hbs
  go_cut [7, 8] from 13 (fun s7 s8 wx => s8 = .nilIface ∧ ∃ g1, s7 = .pointer (some ⟨g1, 0, none⟩) ∧ FrSt w wx w.heap.size g1 f id d k a y ph pr pa sh sp sa)
  case first =>
    go_region_held3 (fun W => W.cell? ⟨s, 0, none⟩ = some (.pointer (some ⟨j, 0, none⟩)) ∧ W.cell? ⟨w.heap.size, 2, none⟩ = some (.int .i64 (d : Int))) (first | go_keep | exact ⟨cell3_other (by assumption) ns1, cell3_other (by assumption) nf1⟩) (first | (go_at_call 76; (with_reducible refine (get_is j p d E over sh sp sa _ HS1.out.jp.jr.drew.drew hd HEd.out).mono ?_); rintro e w3 ⟨rfl, hb3⟩; have q1 := cell_later hb3 x0; have q2 := cell_later hb3 c2; have HFrS := hid (And.intro (HB1.out.drew.drew.trans (hb3.mono HB1.out.size)) ((hb3.block _ hbs).trans HR1.out)); have hsz := hb3.size; have hb3s := row_ltJ HFrS.out.2; clear hb3) | (go_at_call 76; (with_reducible refine (get_is j p d E over sh sp sa _ HSV.out.jp.jr.drew.drew hd HEd.out).mono ?_); rintro e w3 ⟨rfl, hb3⟩; have q1 := cell_later hb3 vx; have q2 := cell_later hb3 vc; have HR3 := hid ((hb3.block _ (row_ltJ HRV.out)).trans HRV.out); have HFrS := hid (And.intro ((HB1.out.trans (HBV.out.mono HB1.out.size)).drew.drew.trans (hb3.mono (Nat.le_trans HB1.out.size HBV.out.size))) ((hb3.block _ (row_ltJ HFV.out)).trans HFV.out)); have c30 : w3.cell? ⟨w1.heap.size, 0, none⟩ = some (.int .i64 0) := cell_of_row _ _ 0 _ _ _ HR3.out; have c31 : w3.cell? ⟨w1.heap.size, 1, none⟩ = some (.int .i64 0) := cell_of_row _ _ 1 _ _ _ HR3.out; have c32 : w3.cell? ⟨w1.heap.size, 2, none⟩ = some (.int .i64 0) := cell_of_row _ _ 2 _ _ _ HR3.out; have z30 := frozen_of_row _ _ 0 _ _ HR3.out; have z31 := frozen_of_row _ _ 1 _ _ HR3.out; have z32 := frozen_of_row _ _ 2 _ _ HR3.out; clear hb3))
    all_goals go_wp2_with fail
    all_goals go_meet
    · exact ⟨rfl, _, rfl, ⟨HFrS.out.1.alloc HFrS.out.1.size _, (Below.heap_alloc w3 _ _ hb3s).trans HFrS.out.2, heap_alloc_new w3 _, Nat.le_refl _, hb3s⟩⟩
    · exact ⟨rfl, _, rfl, ⟨((HFrS.out.1.setCell (Nat.le_of_lt hbs) _).setCell (Nat.le_of_lt hbs) _).setCell (Nat.le_of_lt hbs) _, by rw [heap_setCell_other _ _ _ _ nf1, heap_setCell_other _ _ _ _ nf1, heap_setCell_other _ _ _ _ nf1]; exact HFrS.out.2, set3 HR3.out _ _ _, Nat.le_refl _, hbs⟩⟩
  obtain ⟨rfl, g1, rfl, hfs⟩ := hcut
  clear HBV HRV HFV HSV hV HV vx vc hsl ns1 nf1 hbs HS1 HR1 HB1 x0 x1 x2 c0 c1 c2 c3 c4 c5 c6 c7 c8 HR HB hW HW HEW HF
  rename_i wc
  have HFrS := hid hfs
  clear hfs
  generalize wc = w2 at *
  obtain ⟨c0, c1, c2, c3, c4, c5, c6, c7, c8⟩ := nine HFrS.out.fr
  obtain ⟨s0, s1, s2⟩ := HFrS.out.cells
  have HSR := hid (HS.out.sr.later HFrS.out.bel)
  obtain ⟨⟨th, tp, ta⟩, gk, gy⟩ := g
  simp only at HO
  go_wp2_with (go_at_call 124; (with_reducible refine (step_is s j mb n d a ph sh sp sa (id : Int) (f : Int) (id : Int) (pr : Int) (pa : Int) y R _ k ⟨⟨th, tp, ta⟩, gk, gy⟩ HSR.out hd hk17 HG.out).mono ?_); rintro e w3 ⟨rfl, hb3⟩; simp only)
  have HF3 := hid (HFrS.out.later hb3)
  clear hb3
  obtain ⟨X, HX⟩ : ∃ X, Hid (w3.alloc (.cells #[.int .i64 (th : Int), .int .i64 (tp : Int), .int .i64 (ta : Int)] 43) = X) := ⟨_, rfl⟩
  obtain ⟨g2, Hg2⟩ : ∃ n, Hid (w3.heap.size = n) := ⟨_, rfl⟩
  have HFX : Hid (FrSt w X w.heap.size g2 f id d k a y ph pr pa th tp ta) := by
    rw [← HX.out, ← Hg2.out]
    exact ⟨HF3.out.bel.alloc HF3.out.bel.size _, (Below.heap_alloc w3 _ _ (row_ltJ HF3.out.fr)).trans HF3.out.fr, heap_alloc_new w3 _, Nat.le_refl _, row_ltJ HF3.out.fr⟩
  rw [HX.out, Hg2.out]
  clear HF3 HFrS HX Hg2 c0 c1 c2 c3 c4 c5 c6 c7 c8 s0 s1 s2 HSR
  have HSX := hid (HS.out.later HFX.out.bel)
  obtain ⟨x0, x1, x2⟩ := HSX.out.sr.cells
  have c2 := (nine HFX.out.fr).2.2.1
  obtain ⟨s0, s1, s2⟩ := HFX.out.cells
  have HNF : Hid (∀ x, w.heap.size ≤ x → ¬ In3 j p q x) := fun x hx e => by
    obtain ⟨_, _, e1, e2, e3⟩ := HS.out.lts
    unfold In3 at e; omega
  have HNG : Hid (¬ In3 j p q g2) := HNF.out _ (Nat.le_of_lt HFX.out.lg)
  go_cut [12] from 13 (fun s12 wx => s12 = ev A o.c ∧ wx.heap[w.heap.size]? = some (.cells #[.int .i64 f, .int .i64 id, .int .i64 d, .int .i64 k, .int .i64 a, .bool y, .int .i64 ph, .int .i64 pr, .int .i64 pa] 93 (0, 0)) ∧
    wx.heap[g2]? = some (.cells #[.int .i64 (th : Int), .int .i64 (tp : Int), .int .i64 (ta : Int)] 43 (0, 0)) ∧ SP w0 wx s j mb p q id R n o.e o.over o.b o.l ∧ Kept (In3 j p q) w wx)
  case first =>
    go_region_held3 (fun W => W.cell? ⟨s, 0, none⟩ = some (.pointer (some ⟨j, 0, none⟩)) ∧ W.cell? ⟨w.heap.size, 2, none⟩ = some (.int .i64 (d : Int)) ∧ W.cell? ⟨g2, 0, none⟩ = some (.int .i64 (th : Int)) ∧ W.cell? ⟨g2, 1, none⟩ = some (.int .i64 (tp : Int)) ∧ W.cell? ⟨g2, 2, none⟩ = some (.int .i64 (ta : Int))) (go_keep) (first | (go_at_call 125; (with_reducible refine (jput_any (d : Int) (th : Int) (tp : Int) (ta : Int) o HO.out HSX.out.jp.drew HE.out HN.out).mono ?_); rintro e w5 ⟨rfl, hj5, hk5⟩; have q1 := keptCell hk5 x0 HSX.out.ns; have q2 := keptCell hk5 c2 (HNF.out _ (Nat.le_refl _)); have q3 := keptCell hk5 s0 HNG.out; have q4 := keptCell hk5 s1 HNG.out; have q5 := keptCell hk5 s2 HNG.out; have HJ5 := hid hj5; have HK5 := hid hk5; clear hj5 hk5))
    all_goals go_wp2_with fail
    all_goals go_meet
    all_goals exact ⟨rfl, HK5.out.row HFX.out.fr (HNF.out _ (Nat.le_refl _)), HK5.out.row HFX.out.st HNG.out, HSX.out.drew.turn HJ5.out HK5.out, (Kept.of_below HFX.out.bel).trans ((Kept.of_below (Below.refl _ _).drew).trans HK5.out)⟩
  obtain ⟨rfl, hr1, hr2, hs6, hk6⟩ := hcut
  clear HSX x0 x1 x2 c2 s0 s1 s2 HFX HNG HO HG
  rename_i wc
  have HR6 := hid hr1
  have HT6 := hid hr2
  have HS6 := hid hs6
  have HK6 := hid hk6
  clear hr1 hr2 hs6 hk6
  generalize wc = w6 at *
  obtain ⟨oc, oe, oo, ob, ol⟩ := o
  simp only at HS6 HK6 ⊢
  cases oc with
  | succ c =>
    unfold ev
    go_wp2_with fail
    go_ret2
    exact ⟨.slice none 0 0, rfl, by unfold AnsV; rw [if_neg (fun h => by cases h.1)], HS6.out, HK6.out, fun a c hv => by cases hv⟩
  | zero =>
    unfold ev
    by_cases hgk : gk = 0
    · subst hgk
      go_wp2_with fail
      go_ret2
      exact ⟨.slice none 0 0, rfl, by unfold AnsV; rw [if_neg (fun h => h.2 rfl)], HS6.out, HK6.out, fun a c hv => by cases hv⟩
    · have hgi : ¬ (gk : Int) = 0 := by omega
      obtain ⟨x0, x1, x2⟩ := HS6.out.sr.cells
      obtain ⟨c0, c1, c2, c3, c4, c5, c6, c7, c8⟩ := nine HR6.out
      have s0 : w6.cell? ⟨g2, 0, none⟩ = some (.int .i64 (th : Int)) := by rw [cell_of_row _ _ _ _ _ _ HT6.out]; rfl
      have s1 : w6.cell? ⟨g2, 1, none⟩ = some (.int .i64 (tp : Int)) := by rw [cell_of_row _ _ _ _ _ _ HT6.out]; rfl
      have s2 : w6.cell? ⟨g2, 2, none⟩ = some (.int .i64 (ta : Int)) := by rw [cell_of_row _ _ _ _ _ _ HT6.out]; rfl
      go_wp2_with fail
      go_region
      all_goals go_wp2_with fail
      all_goals go_ret2
      all_goals refine ⟨_, rfl, ?_, HS6.out.later ((Below.refl _ _).alloc (Nat.le_refl _) _).drew, HK6.out.trans (Kept.of_below ((Below.refl _ _).alloc (Nat.le_refl _) _).drew), fun a c hv => by cases hv; exact HK6.out.size⟩
      all_goals unfold AnsV
      all_goals rw [if_pos ⟨rfl, hgk⟩]
      all_goals exact ⟨_, _, rfl, heap_alloc_new w6 _⟩
theorem shear_in (A : Nat → Addr) (w0 w : World) (s j mb p q n : Nat) (id f d k a ph pr pa : Nat) (y : Bool) (R : Nat → Bool) (E : Nat → Nat × St) (over : Bool) (B : ByteArray) (l : Int) (g : HOut) (o : POut)
    (h : SP w0 w s j mb p q id R n E over B l) (hE : HeldE w0 A) (hn : ∀ d, d < 6 → (E d).1 < 4294967296) (hf : frOk f id d k a ph pr pa) (hg : hearL (E d).2 (R d) k a ph = g) (ho : pOut E over B l d g.st.ph g.st.pr g.st.at_ = o) :
    Calls Tryz.prog 103 #[.pointer (some ⟨s, 0, none⟩), frV f id d k a y ph pr pa] w fun e w' => ∃ v, e = .returned (.tuple #[v, ev A o.c]) ∧ AnsV w' v o.c id f d a g ∧ SP w0 w' s j mb p q id R n o.e o.over o.b o.l ∧ Kept (In3 j p q) w w' := by
  refine (shear_inB A w0 w s j mb p q n id f d k a ph pr pa y R E over B l g o h hE hn hf hg ho).mono ?_
  rintro e w' ⟨v, h1, h2, h3, h4, -⟩
  exact ⟨v, h1, h2, h3, h4⟩
end Go.Proofs.YtdpemmmbkjmplabGreatDoor
