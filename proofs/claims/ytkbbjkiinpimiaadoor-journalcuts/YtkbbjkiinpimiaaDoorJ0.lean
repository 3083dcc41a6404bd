/-
  PLAIN MATHEMATICS of a journal's bytes: numbers as bytes, the sum, a slot, which of a deal's two slots holds; what a Put that is cut anywhere leaves.
-/
import Derived.Test.YtkbbjkiinpimiaaDoorPB
namespace Go.Proofs.YtkbbjkiinpimiaaDoor

/-- A number in k bytes, the highest first. -/
def wideL (n : Nat) : Nat → List UInt8
  | 0 => []
  | k + 1 => wideL (n / 256) k ++ [UInt8.ofNat (n % 256)]
theorem wideL_length (k : Nat) : ∀ n, (wideL n k).length = k := by
  induction k with
  | zero => intro n; rfl
  | succ k ih => intro n; simp [wideL, ih]
/-- Bytes as a number. -/
def numL (l : List UInt8) : Nat := l.foldl (fun n b => 256 * n + b.toNat) 0
theorem numL_snoc (l : List UInt8) (b : UInt8) : numL (l ++ [b]) = 256 * numL l + b.toNat := by simp [numL]
theorem numL_wide (k : Nat) : ∀ n, numL (wideL n k) = n % 256 ^ k := by
  induction k with
  | zero => intro n; simp [wideL, numL, Nat.mod_one]
  | succ k ih =>
    intro n
    rw [wideL, numL_snoc, ih]
    have h : (UInt8.ofNat (n % 256)).toNat = n % 256 := by simp
    rw [h, Nat.pow_succ, Nat.mul_comm (256 ^ k) 256, Nat.mod_mul]
    omega
theorem numL_lt (l : List UInt8) : numL l < 256 ^ l.length := by
  have gen : ∀ r : List UInt8, numL r.reverse < 256 ^ r.length := by
    intro r
    induction r with
    | nil => simp [numL]
    | cons b r ih =>
      rw [List.reverse_cons, numL_snoc, List.length_cons, Nat.pow_succ]
      have hb := UInt8.toNat_lt b
      omega
  have := gen l.reverse
  rwa [List.reverse_reverse, List.length_reverse] at this
theorem wide_numL (l : List UInt8) : wideL (numL l) l.length = l := by
  have gen : ∀ r : List UInt8, wideL (numL r.reverse) r.length = r.reverse := by
    intro r
    induction r with
    | nil => rfl
    | cons b r ih =>
      rw [List.reverse_cons, numL_snoc, List.length_cons, wideL]
      have hb := UInt8.toNat_lt b
      rw [show (256 * numL r.reverse + b.toNat) / 256 = numL r.reverse by omega, show (256 * numL r.reverse + b.toNat) % 256 = b.toNat by omega, ih]
      simp
  have := gen l.reverse
  rwa [List.reverse_reverse, List.length_reverse] at this

/-- One bit of the sum. -/
def crcBit (c b k : Nat) : Nat := if (c ^^^ (b / 2 ^ k)) % 2 = 1 then (c / 2) ^^^ 3988292384 else c / 2
def crcBits (c b : Nat) : Nat → Nat
  | 0 => c
  | k + 1 => crcBit (crcBits c b k) b k
def crcFold (c : Nat) : List UInt8 → Nat
  | [] => c
  | b :: l => crcFold (crcBits c b.toNat 8) l
/-- The sum of bytes. -/
def crcL (l : List UInt8) : Nat := crcFold 4294967295 l ^^^ 4294967295
theorem crcBit_lt {c : Nat} (h : c < 4294967296) (b k : Nat) : crcBit c b k < 4294967296 := by
  unfold crcBit
  split
  · exact Nat.xor_lt_two_pow (n := 32) (by omega) (by decide)
  · omega
theorem crcBits_lt {c : Nat} (h : c < 4294967296) (b : Nat) : ∀ k, crcBits c b k < 4294967296
  | 0 => h
  | k + 1 => crcBit_lt (crcBits_lt h b k) b k
theorem crcFold_lt : ∀ (l : List UInt8) {c : Nat}, c < 4294967296 → crcFold c l < 4294967296
  | [], _, h => h
  | b :: l, _, h => crcFold_lt l (crcBits_lt h b.toNat 8)
theorem crcL_lt (l : List UInt8) : crcL l < 4294967296 := Nat.xor_lt_two_pow (n := 32) (crcFold_lt l (by decide)) (by decide)
theorem crcFold_snoc (b : UInt8) : ∀ (l : List UInt8) (c : Nat), crcFold c (l ++ [b]) = crcBits (crcFold c l) b.toNat 8
  | [], _ => rfl
  | x :: l, c => crcFold_snoc b l (crcBits c x.toNat 8)

/-- A state of a deal. -/
structure St where
  ph : Nat
  pr : Nat
  at_ : Nat
/-- Are two states the same? -/
def stSame (a b : St) : Bool := decide (a.ph = b.ph ∧ a.pr = b.pr ∧ a.at_ = b.at_)
theorem stSame_true {a b : St} (h : stSame a b = true) : a = b := by
  obtain ⟨h1, h2, h3⟩ := of_decide_eq_true h
  cases a; cases b
  cases h1; cases h2; cases h3; rfl
theorem stSame_false {a b : St} (h : stSame a b = false) : ¬ a = b := fun e => of_decide_eq_false h (by subst e; exact ⟨rfl, rfl, rfl⟩)
def stEq (a b : St) : Decidable (a = b) := if h : stSame a b = true then .isTrue (stSame_true h) else .isFalse (stSame_false (Bool.eq_false_iff.2 h))
def St.zero : St := ⟨0, 0, 0⟩
/-- Does a state fit into a slot? -/
def St.fits (s : St) : Prop := s.ph < 256 ∧ s.pr < 4294967296 ∧ s.at_ < 4294967296
def textL (n : Nat) (s : St) : List UInt8 := wideL n 4 ++ wideL s.ph 1 ++ wideL s.pr 4 ++ wideL s.at_ 4
/-- A slot's seventeen bytes ahead of its last one. -/
def bodyL (n : Nat) (s : St) : List UInt8 := textL n s ++ wideL (crcL (textL n s)) 4
theorem textL_length (n : Nat) (s : St) : (textL n s).length = 13 := by simp [textL, wideL_length]
theorem bodyL_length (n : Nat) (s : St) : (bodyL n s).length = 17 := by simp [bodyL, textL_length, wideL_length]
/-- What a slot tells: its number, its state. -/
def readN (t : List UInt8) : Nat := numL (t.take 4)
def readS (t : List UInt8) : St := ⟨numL ((t.drop 4).take 1), numL ((t.drop 5).take 4), numL ((t.drop 9).take 4)⟩
def heldL (k : Nat) (t : List UInt8) : Nat × St := if 1 ≤ readN t ∧ readN t % 2 = k % 2 ∧ bodyL (readN t) (readS t) ++ [165] = t then (readN t, readS t) else (0, St.zero)
theorem take_app {α : Type} {a b : List α} {n : Nat} (h : a.length = n) : (a ++ b).take n = a := by rw [← h]; simp
theorem drop_app {α : Type} {a b : List α} {n : Nat} (h : a.length = n) : (a ++ b).drop n = b := by rw [← h]; simp
theorem readN_body (n : Nat) (s : St) (r : List UInt8) (hn : n < 4294967296) : readN (bodyL n s ++ r) = n := by
  unfold readN bodyL textL
  rw [List.append_assoc, List.append_assoc, List.append_assoc, List.append_assoc, take_app (wideL_length 4 n), numL_wide]
  exact Nat.mod_eq_of_lt hn
theorem readS_body (n : Nat) (s : St) (r : List UInt8) (hs : s.fits) : readS (bodyL n s ++ r) = s := by
  obtain ⟨h1, h2, h3⟩ := hs
  have e : bodyL n s ++ r = wideL n 4 ++ (wideL s.ph 1 ++ (wideL s.pr 4 ++ (wideL s.at_ 4 ++ (wideL (crcL (textL n s)) 4 ++ r)))) := by simp [bodyL, textL]
  have d4 : (bodyL n s ++ r).drop 4 = wideL s.ph 1 ++ (wideL s.pr 4 ++ (wideL s.at_ 4 ++ (wideL (crcL (textL n s)) 4 ++ r))) := by rw [e, drop_app (wideL_length 4 n)]
  have d5 : (bodyL n s ++ r).drop 5 = wideL s.pr 4 ++ (wideL s.at_ 4 ++ (wideL (crcL (textL n s)) 4 ++ r)) := by
    rw [show (5 : Nat) = 4 + 1 from rfl, ← List.drop_drop, d4, drop_app (wideL_length 1 _)]
  have d9 : (bodyL n s ++ r).drop 9 = wideL s.at_ 4 ++ (wideL (crcL (textL n s)) 4 ++ r) := by
    rw [show (9 : Nat) = 5 + 4 from rfl, ← List.drop_drop, d5, drop_app (wideL_length 4 _)]
  unfold readS
  rw [d4, d5, d9, take_app (wideL_length 1 _), take_app (wideL_length 4 _), take_app (wideL_length 4 _), numL_wide, numL_wide, numL_wide, Nat.mod_eq_of_lt (by simpa using h1), Nat.mod_eq_of_lt (by simpa using h2), Nat.mod_eq_of_lt (by simpa using h3)]
/-- A slot that is written in full is held. -/
theorem heldL_body (k n : Nat) (s : St) (h1 : 1 ≤ n) (hn : n < 4294967296) (hk : n % 2 = k % 2) (hs : s.fits) : heldL k (bodyL n s ++ [165]) = (n, s) := by
  unfold heldL
  rw [readN_body n s _ hn, readS_body n s _ hs, if_pos ⟨h1, hk, rfl⟩]
/-- A slot whose last byte is not 165 is none. -/
theorem heldL_torn (k : Nat) (t : List UInt8) (b : UInt8) (h : t.getLast? = some b) (hb : b ≠ 165) : heldL k t = (0, St.zero) := by
  unfold heldL
  rw [if_neg]
  rintro ⟨_, _, h3⟩
  rw [← h3] at h
  simp at h
  exact hb h.symm
theorem heldL_parity (k : Nat) (t : List UInt8) (h : (heldL k t).1 ≠ 0) : (heldL k t).1 % 2 = k % 2 := by
  unfold heldL at h ⊢
  split
  · rename_i g; exact g.2.1
  · rename_i g; rw [if_neg g] at h; exact absurd rfl h
theorem heldL_zero (k : Nat) (t : List UInt8) (h : (heldL k t).1 = 0) : heldL k t = (0, St.zero) := by
  unfold heldL at h ⊢
  split
  · rename_i g; rw [if_pos g] at h; exact absurd h (by have := g.1; omega)
  · rfl
theorem readN_lt (t : List UInt8) : readN t < 4294967296 := by
  have h := numL_lt (t.take 4)
  have h2 : (t.take 4).length ≤ 4 := by simp; omega
  have h3 : 256 ^ (t.take 4).length ≤ 256 ^ 4 := Nat.pow_le_pow_right (by decide) h2
  unfold readN
  have h4 : (256 : Nat) ^ 4 = 4294967296 := by decide
  omega
theorem heldL_lt (k : Nat) (t : List UInt8) : (heldL k t).1 < 4294967296 := by
  unfold heldL
  split
  · exact readN_lt t
  · decide
end Go.Proofs.YtkbbjkiinpimiaaDoor
