/-
  PLAIN MATHEMATICS of bytes: a text laid over another from a place on, as far as so many bytes; its cells.
  PLAIN MATHEMATICS of a journal's bytes: numbers as bytes, the sum, a slot, which of a deal's two slots holds; what a Put that is cut anywhere leaves.
  PLAIN: what a site's state becomes by a frame, and what it answers.
  SMALL THINGS that every text of mine leans on.
  PLAIN: what states decide: the greatest attempt of a phase, the program's choice, the document's choice; they are the same, and only which states there are makes a difference.
  A FRAME: as a value; in a row of nine cells.
  FRAMES IN MEMORY: a slice of frames; one appended to a row of one's own; the document's SameFrames of any two lists that are the same.
  PLAIN MATHEMATICS, no Go text: weights as a list of integers, a set of sites as the bits of a number: what a set weighs ('sumTo'), what all weigh ('tot'), which number an error has ('errW', 'errS'), what is enough ('enoughB'); that two quorums meet.
  PLAIN MATHEMATICS, no Go text: GIFFORD: two quorums have a site in common; of a set and the others at most one is a quorum; a quorum with more sites is one; all sites are one.
  PLAIN MATHEMATICS, no Go text: weights that are all so many times as great have the same quorums; one more site without weight makes no difference.
  PLAIN MATHEMATICS, no Go text: which sites of a quorum are needed: one by one ('neededTo'), and by taking away the lowest bit of what is left ('low').
  PLAIN: the program's lead; what it makes of a frame.
  PLAIN: one deal of a world, by itself: which attempts sites have accepted, which value an attempt has, who has refused; that nobody decides otherwise (after SKEEN and LAMPORT). A site's step and a lead's step keep it.
-/
import Derived.Test.YtdpemmmbkjmplabGreatDoorProg
import Derived.Lib.AppendStr
import Derived.Laws.Strings2
import Derived.Laws.IdiomStrings
import Derived.WalkKit
import Derived.WalkLawsBesides
import Derived.WalkSpells
import Derived.OwnWalk
import Derived.Laws.Rows
import Derived.BigRegion
import Derived.RegionTactic
import Derived.Laws.StructEq
import Derived.Laws.AppendOwn
import Derived.Laws.OwnMore
import Derived.Deep.AppendLies
import Derived.Deep.RegionHeldLaw
import Derived.Deep.RegionLawGrows
namespace Go.Proofs.YtdpemmmbkjmplabGreatDoor

/-- The first k bytes of s laid over B from place a on. -/
def putB (B : ByteArray) (a : Nat) (s : ByteArray) (k : Nat) : ByteArray := B.extract 0 a ++ s.extract 0 k ++ B.extract (a + k) B.size
theorem ext_list (B : ByteArray) (i j : Nat) : (B.extract i j).data.toList = (B.data.toList.drop i).take (j - i) := by
  have h := ByteArray.extract_mk B.data.toList i j
  have e : ByteArray.mk B.data.toList.toArray = B := by cases B; simp
  rw [e] at h
  rw [h]
theorem size_list (B : ByteArray) : B.size = B.data.toList.length := rfl
theorem putB_list (B : ByteArray) (a : Nat) (s : ByteArray) (k : Nat) : (putB B a s k).data.toList = B.data.toList.take a ++ s.data.toList.take k ++ B.data.toList.drop (a + k) := by
  unfold putB
  rw [ByteArray.data_append, ByteArray.data_append, Array.toList_append, Array.toList_append, ext_list, ext_list, ext_list]
  simp only [List.drop_zero, Nat.sub_zero]
  congr 1
  rw [List.take_of_length_le]
  rw [List.length_drop, size_list]
  exact Nat.le_refl _
theorem size_putB {B : ByteArray} {a : Nat} {s : ByteArray} {k : Nat} (h : a + k ≤ B.size) (hk : k ≤ s.size) : (putB B a s k).size = B.size := by
  rw [size_list] at h hk
  rw [size_list, size_list, putB_list]
  simp only [List.length_append, List.length_take, List.length_drop]
  omega
theorem ba_ext {X Y : ByteArray} (h : X.data.toList = Y.data.toList) : X = Y := ByteArray.ext (Array.ext' h)
theorem putB_zero {B : ByteArray} {a : Nat} {s : ByteArray} : putB B a s 0 = B := by
  apply ba_ext
  rw [putB_list]
  simp
theorem putB_all {B : ByteArray} {s : ByteArray} (h : s.size = B.size) : putB B 0 s s.size = s := by
  apply ba_ext
  rw [putB_list]
  rw [size_list, size_list] at h
  rw [size_list]
  simp only [List.take_zero, List.nil_append, Nat.zero_add, List.take_length]
  rw [h, List.drop_length, List.append_nil]
theorem put_step {α : Type} (L S : List α) (a k : Nat) (d : α) (h : a + k < L.length) (hk : k < S.length) :
    L.take a ++ S.take (k + 1) ++ L.drop (a + (k + 1)) = (L.take a ++ S.take k ++ L.drop (a + k)).set (a + k) (S.getD k d) := by
  apply List.ext_getElem?
  intro j
  simp only [List.getElem?_set, List.getElem?_append, List.length_append, List.length_take, List.getElem?_take, List.getElem?_drop, List.length_drop]
  have e1 : min a L.length = a := by omega
  have e2 : min (k + 1) S.length = k + 1 := by omega
  have e3 : min k S.length = k := by omega
  simp only [e1, e2, e3]
  rcases Nat.lt_trichotomy j (a + k) with h1 | h1 | h1
  · by_cases h2 : j < a
    · simp [h2, show j < a + (k + 1) by omega, show ¬ a + k = j by omega, show j < a + k by omega]
    · simp [h2, show j < a + (k + 1) by omega, show ¬ a + k = j by omega, show j < a + k by omega, show j - a < k + 1 by omega, show j - a < k by omega]
  · subst h1
    simp [show a + k < a + (k + 1) by omega, show a + k - a = k by omega, show k < k + 1 by omega, hk, List.getD]
    rw [if_neg (by omega), if_pos (by omega)]
  · simp [show ¬ j < a + (k + 1) by omega, show ¬ a + k = j by omega, show ¬ j < a + k by omega]
    congr 1
    omega
theorem getB {s : ByteArray} {k : Nat} (hk : k < s.size) : s[k]'hk = s.data.toList[k]'hk := by
  have : s[k]'hk = s.data[k]'hk := rfl
  rw [this, ← Array.getElem_toList]
theorem putB_succ {B : ByteArray} {a : Nat} {s : ByteArray} {k : Nat} (h : a + k < B.size) (hk : k < s.size) :
    (Lib.strCells (putB B a s (k + 1))).toArray = (Lib.strCells (putB B a s k)).toArray.setIfInBounds (a + k) (.int .u8 ((s[k]'hk).toNat : Int)) := by
  apply Array.ext'
  rw [size_list] at h
  have hk' := hk
  rw [size_list] at hk'
  simp only [Lib.strCells, Array.toList_setIfInBounds]
  rw [putB_list, putB_list, put_step _ _ a k 0 h hk', List.map_set]
  congr 1
  rw [getB hk, List.getD_eq_getElem?_getD, List.getElem?_eq_getElem hk']
  rfl
theorem strCells_at {B : ByteArray} {j : Nat} (h : j < B.size) : (Lib.strCells B)[j]? = some (.int .u8 ((B[j]'h).toNat : Int)) := by
  rw [Lib.strCells, List.getElem?_map, List.getElem?_eq_getElem h, getB h]
  rfl
end Go.Proofs.YtdpemmmbkjmplabGreatDoor
namespace Go.Proofs.YtdpemmmbkjmplabGreatDoor

/-- A number in k bytes, the highest first. -/
def wideL (n : Nat) : Nat → List UInt8
  | 0 => []
  | k + 1 => wideL (n / 256) k ++ [UInt8.ofNat (n % 256)]
theorem wideL_length (k : Nat) : ∀ n, (wideL n k).length = k := by
  induction k with
  | zero => intro n; rfl
  | succ k ih => intro n; simp [wideL, ih]
/-- Bytes as a number. -/
def numL (l : List UInt8) : Nat := l.foldl (fun n b => 256 * n + b.toNat) 0
theorem numL_snoc (l : List UInt8) (b : UInt8) : numL (l ++ [b]) = 256 * numL l + b.toNat := by simp [numL]
theorem numL_wide (k : Nat) : ∀ n, numL (wideL n k) = n % 256 ^ k := by
  induction k with
  | zero => intro n; simp [wideL, numL, Nat.mod_one]
  | succ k ih =>
    intro n
    rw [wideL, numL_snoc, ih]
    have h : (UInt8.ofNat (n % 256)).toNat = n % 256 := by simp
    rw [h, Nat.pow_succ, Nat.mul_comm (256 ^ k) 256, Nat.mod_mul]
    omega
theorem numL_lt (l : List UInt8) : numL l < 256 ^ l.length := by
  have gen : ∀ r : List UInt8, numL r.reverse < 256 ^ r.length := by
    intro r
    induction r with
    | nil => simp [numL]
    | cons b r ih =>
      rw [List.reverse_cons, numL_snoc, List.length_cons, Nat.pow_succ]
      have hb := UInt8.toNat_lt b
      omega
  have := gen l.reverse
  rwa [List.reverse_reverse, List.length_reverse] at this
theorem wide_numL (l : List UInt8) : wideL (numL l) l.length = l := by
  have gen : ∀ r : List UInt8, wideL (numL r.reverse) r.length = r.reverse := by
    intro r
    induction r with
    | nil => rfl
    | cons b r ih =>
      rw [List.reverse_cons, numL_snoc, List.length_cons, wideL]
      have hb := UInt8.toNat_lt b
      rw [show (256 * numL r.reverse + b.toNat) / 256 = numL r.reverse by omega, show (256 * numL r.reverse + b.toNat) % 256 = b.toNat by omega, ih]
      simp
  have := gen l.reverse
  rwa [List.reverse_reverse, List.length_reverse] at this

/-- One bit of the sum. -/
def crcBit (c b k : Nat) : Nat := if (c ^^^ (b / 2 ^ k)) % 2 = 1 then (c / 2) ^^^ 3988292384 else c / 2
def crcBits (c b : Nat) : Nat → Nat
  | 0 => c
  | k + 1 => crcBit (crcBits c b k) b k
def crcFold (c : Nat) : List UInt8 → Nat
  | [] => c
  | b :: l => crcFold (crcBits c b.toNat 8) l
/-- The sum of bytes. -/
def crcL (l : List UInt8) : Nat := crcFold 4294967295 l ^^^ 4294967295
theorem crcBit_lt {c : Nat} (h : c < 4294967296) (b k : Nat) : crcBit c b k < 4294967296 := by
  unfold crcBit
  split
  · exact Nat.xor_lt_two_pow (n := 32) (by omega) (by decide)
  · omega
theorem crcBits_lt {c : Nat} (h : c < 4294967296) (b : Nat) : ∀ k, crcBits c b k < 4294967296
  | 0 => h
  | k + 1 => crcBit_lt (crcBits_lt h b k) b k
theorem crcFold_lt : ∀ (l : List UInt8) {c : Nat}, c < 4294967296 → crcFold c l < 4294967296
  | [], _, h => h
  | b :: l, _, h => crcFold_lt l (crcBits_lt h b.toNat 8)
theorem crcL_lt (l : List UInt8) : crcL l < 4294967296 := Nat.xor_lt_two_pow (n := 32) (crcFold_lt l (by decide)) (by decide)
theorem crcFold_snoc (b : UInt8) : ∀ (l : List UInt8) (c : Nat), crcFold c (l ++ [b]) = crcBits (crcFold c l) b.toNat 8
  | [], _ => rfl
  | x :: l, c => crcFold_snoc b l (crcBits c x.toNat 8)

/-- A state of a deal. -/
structure St where
  ph : Nat
  pr : Nat
  at_ : Nat
/-- Are two states the same? -/
def stSame (a b : St) : Bool := decide (a.ph = b.ph ∧ a.pr = b.pr ∧ a.at_ = b.at_)
theorem stSame_true {a b : St} (h : stSame a b = true) : a = b := by
  obtain ⟨h1, h2, h3⟩ := of_decide_eq_true h
  cases a; cases b
  cases h1; cases h2; cases h3; rfl
theorem stSame_false {a b : St} (h : stSame a b = false) : ¬ a = b := fun e => of_decide_eq_false h (by subst e; exact ⟨rfl, rfl, rfl⟩)
def stEq (a b : St) : Decidable (a = b) := if h : stSame a b = true then .isTrue (stSame_true h) else .isFalse (stSame_false (Bool.eq_false_iff.2 h))
def St.zero : St := ⟨0, 0, 0⟩
/-- Does a state fit into a slot? -/
def St.fits (s : St) : Prop := s.ph < 256 ∧ s.pr < 4294967296 ∧ s.at_ < 4294967296
def textL (n : Nat) (s : St) : List UInt8 := wideL n 4 ++ wideL s.ph 1 ++ wideL s.pr 4 ++ wideL s.at_ 4
/-- A slot's seventeen bytes ahead of its last one. -/
def bodyL (n : Nat) (s : St) : List UInt8 := textL n s ++ wideL (crcL (textL n s)) 4
theorem textL_length (n : Nat) (s : St) : (textL n s).length = 13 := by simp [textL, wideL_length]
theorem bodyL_length (n : Nat) (s : St) : (bodyL n s).length = 17 := by simp [bodyL, textL_length, wideL_length]
/-- What a slot tells: its number, its state. -/
def readN (t : List UInt8) : Nat := numL (t.take 4)
def readS (t : List UInt8) : St := ⟨numL ((t.drop 4).take 1), numL ((t.drop 5).take 4), numL ((t.drop 9).take 4)⟩
def heldL (k : Nat) (t : List UInt8) : Nat × St := if 1 ≤ readN t ∧ readN t % 2 = k % 2 ∧ bodyL (readN t) (readS t) ++ [165] = t then (readN t, readS t) else (0, St.zero)
theorem take_app {α : Type} {a b : List α} {n : Nat} (h : a.length = n) : (a ++ b).take n = a := by rw [← h]; simp
theorem drop_app {α : Type} {a b : List α} {n : Nat} (h : a.length = n) : (a ++ b).drop n = b := by rw [← h]; simp
theorem readN_body (n : Nat) (s : St) (r : List UInt8) (hn : n < 4294967296) : readN (bodyL n s ++ r) = n := by
  unfold readN bodyL textL
  rw [List.append_assoc, List.append_assoc, List.append_assoc, List.append_assoc, take_app (wideL_length 4 n), numL_wide]
  exact Nat.mod_eq_of_lt hn
theorem readS_body (n : Nat) (s : St) (r : List UInt8) (hs : s.fits) : readS (bodyL n s ++ r) = s := by
  obtain ⟨h1, h2, h3⟩ := hs
  have e : bodyL n s ++ r = wideL n 4 ++ (wideL s.ph 1 ++ (wideL s.pr 4 ++ (wideL s.at_ 4 ++ (wideL (crcL (textL n s)) 4 ++ r)))) := by simp [bodyL, textL]
  have d4 : (bodyL n s ++ r).drop 4 = wideL s.ph 1 ++ (wideL s.pr 4 ++ (wideL s.at_ 4 ++ (wideL (crcL (textL n s)) 4 ++ r))) := by rw [e, drop_app (wideL_length 4 n)]
  have d5 : (bodyL n s ++ r).drop 5 = wideL s.pr 4 ++ (wideL s.at_ 4 ++ (wideL (crcL (textL n s)) 4 ++ r)) := by
    rw [show (5 : Nat) = 4 + 1 from rfl, ← List.drop_drop, d4, drop_app (wideL_length 1 _)]
  have d9 : (bodyL n s ++ r).drop 9 = wideL s.at_ 4 ++ (wideL (crcL (textL n s)) 4 ++ r) := by
    rw [show (9 : Nat) = 5 + 4 from rfl, ← List.drop_drop, d5, drop_app (wideL_length 4 _)]
  unfold readS
  rw [d4, d5, d9, take_app (wideL_length 1 _), take_app (wideL_length 4 _), take_app (wideL_length 4 _), numL_wide, numL_wide, numL_wide, Nat.mod_eq_of_lt (by simpa using h1), Nat.mod_eq_of_lt (by simpa using h2), Nat.mod_eq_of_lt (by simpa using h3)]
/-- A slot that is written in full is held. -/
theorem heldL_body (k n : Nat) (s : St) (h1 : 1 ≤ n) (hn : n < 4294967296) (hk : n % 2 = k % 2) (hs : s.fits) : heldL k (bodyL n s ++ [165]) = (n, s) := by
  unfold heldL
  rw [readN_body n s _ hn, readS_body n s _ hs, if_pos ⟨h1, hk, rfl⟩]
/-- A slot whose last byte is not 165 is none. -/
theorem heldL_torn (k : Nat) (t : List UInt8) (b : UInt8) (h : t.getLast? = some b) (hb : b ≠ 165) : heldL k t = (0, St.zero) := by
  unfold heldL
  rw [if_neg]
  rintro ⟨_, _, h3⟩
  rw [← h3] at h
  simp at h
  exact hb h.symm
theorem heldL_parity (k : Nat) (t : List UInt8) (h : (heldL k t).1 ≠ 0) : (heldL k t).1 % 2 = k % 2 := by
  unfold heldL at h ⊢
  split
  · rename_i g; exact g.2.1
  · rename_i g; rw [if_neg g] at h; exact absurd rfl h
theorem heldL_zero (k : Nat) (t : List UInt8) (h : (heldL k t).1 = 0) : heldL k t = (0, St.zero) := by
  unfold heldL at h ⊢
  split
  · rename_i g; rw [if_pos g] at h; exact absurd h (by have := g.1; omega)
  · rfl
theorem readN_lt (t : List UInt8) : readN t < 4294967296 := by
  have h := numL_lt (t.take 4)
  have h2 : (t.take 4).length ≤ 4 := by simp; omega
  have h3 : 256 ^ (t.take 4).length ≤ 256 ^ 4 := Nat.pow_le_pow_right (by decide) h2
  unfold readN
  have h4 : (256 : Nat) ^ 4 = 4294967296 := by decide
  omega
theorem heldL_lt (k : Nat) (t : List UInt8) : (heldL k t).1 < 4294967296 := by
  unfold heldL
  split
  · exact readN_lt t
  · decide
end Go.Proofs.YtdpemmmbkjmplabGreatDoor
namespace Go.Proofs.YtdpemmmbkjmplabGreatDoor

/-- The state behind a frame; the answer's kind (0: none), its Yes. -/
structure HOut where
  st : St
  k : Nat
  yes : Bool
def finB (p : Nat) : Bool := decide (p = 2 ∨ p = 3)
def askP (s : St) (ref : Bool) : Nat := if s.ph = 0 then (if ref = true then 3 else 1) else s.ph
def hearL (s : St) (ref : Bool) (k a ph : Nat) : HOut :=
  if k = 1 then ⟨⟨askP s ref, s.pr, s.at_⟩, 2, decide (askP s ref ≠ 3)⟩
  else if k = 3 then (if s.pr < a then ⟨⟨s.ph, a, s.at_⟩, 4, true⟩ else ⟨s, 4, false⟩)
  else if k = 5 then (if ph = 4 ∨ ph = 5 then (if s.pr ≤ a ∧ finB s.ph = false then ⟨⟨ph, a, a⟩, 6, true⟩ else ⟨s, 6, false⟩) else ⟨s, 0, false⟩)
  else if k = 7 then (if finB ph = true ∧ finB s.ph = false then ⟨⟨ph, s.pr, s.at_⟩, 0, false⟩ else ⟨s, 0, false⟩)
  else ⟨s, 0, false⟩
/-- A state that a journal takes, its attempt promised. -/
def St.good (s : St) : Prop := s.ph ≤ 5 ∧ s.pr ≤ 1048576 ∧ s.at_ ≤ s.pr
/-- May a phase become another one? -/
def mayN (a b : Nat) : Prop := a ≤ 5 ∧ b ≤ 5 ∧ (a = b ∨ a = 0 ∨ (a = 1 ∧ b ≠ 0) ∨ ((a = 4 ∨ a = 5) ∧ b ≠ 0 ∧ b ≠ 1))
theorem hear_good (s : St) (ref : Bool) (k a ph : Nat) (h : s.good) (ha : a ≤ 1048576) (hp : ph ≤ 5) : (hearL s ref k a ph).st.good ∧ s.pr ≤ (hearL s ref k a ph).st.pr ∧ s.at_ ≤ (hearL s ref k a ph).st.at_ ∧ mayN s.ph (hearL s ref k a ph).st.ph := by
  obtain ⟨h1, h2, h3⟩ := h
  unfold hearL
  repeat' split
  · unfold askP St.good mayN
    simp only
    refine ⟨⟨?_, h2, h3⟩, Nat.le_refl _, Nat.le_refl _, h1, ?_, ?_⟩
    · repeat' split
      all_goals omega
    · repeat' split
      all_goals omega
    · repeat' split
      all_goals omega
  · rename_i hlt
    exact ⟨⟨h1, ha, by show s.at_ ≤ a; omega⟩, by show s.pr ≤ a; omega, Nat.le_refl _, h1, h1, .inl rfl⟩
  · exact ⟨⟨h1, h2, h3⟩, Nat.le_refl _, Nat.le_refl _, h1, h1, .inl rfl⟩
  · rename_i hph hpr
    obtain ⟨hpr, hf⟩ := hpr
    have hf2 := of_decide_eq_false hf
    refine ⟨⟨hp, ha, Nat.le_refl _⟩, hpr, by show s.at_ ≤ a; omega, h1, hp, ?_⟩
    show s.ph = ph ∨ s.ph = 0 ∨ (s.ph = 1 ∧ ph ≠ 0) ∨ ((s.ph = 4 ∨ s.ph = 5) ∧ ph ≠ 0 ∧ ph ≠ 1)
    omega
  · exact ⟨⟨h1, h2, h3⟩, Nat.le_refl _, Nat.le_refl _, h1, h1, .inl rfl⟩
  · exact ⟨⟨h1, h2, h3⟩, Nat.le_refl _, Nat.le_refl _, h1, h1, .inl rfl⟩
  · rename_i hf
    have e1 := of_decide_eq_true hf.1
    have e2 := of_decide_eq_false hf.2
    refine ⟨⟨hp, h2, h3⟩, Nat.le_refl _, Nat.le_refl _, h1, hp, ?_⟩
    show s.ph = ph ∨ s.ph = 0 ∨ (s.ph = 1 ∧ ph ≠ 0) ∨ ((s.ph = 4 ∨ s.ph = 5) ∧ ph ≠ 0 ∧ ph ≠ 1)
    omega
  · exact ⟨⟨h1, h2, h3⟩, Nat.le_refl _, Nat.le_refl _, h1, h1, .inl rfl⟩
  · exact ⟨⟨h1, h2, h3⟩, Nat.le_refl _, Nat.le_refl _, h1, h1, .inl rfl⟩
/-- Who says Yes to an Elect has promised less; to a Pre, no more. Who votes no has aborted. -/
theorem hear_tell (s : St) (ref : Bool) (k a ph : Nat) (h : (hearL s ref k a ph).k = 4) (hy : (hearL s ref k a ph).yes = true) : s.pr < a ∧ (hearL s ref k a ph).st.pr = a := by
  revert h hy
  unfold hearL
  repeat' split
  all_goals simp
  all_goals assumption
theorem hear_ack (s : St) (ref : Bool) (k a ph : Nat) (h : (hearL s ref k a ph).k = 6) (hy : (hearL s ref k a ph).yes = true) : s.pr ≤ a ∧ (hearL s ref k a ph).st.pr = a := by
  revert h hy
  unfold hearL
  repeat' split
  all_goals simp
  rename_i h2
  exact h2.1
theorem hear_vote (s : St) (ref : Bool) (k a ph : Nat) (h : (hearL s ref k a ph).k = 2) (hy : (hearL s ref k a ph).yes = false) : (hearL s ref k a ph).st.ph = 3 := by
  revert h hy
  unfold hearL
  repeat' split
  all_goals simp
end Go.Proofs.YtdpemmmbkjmplabGreatDoor
namespace Go.Proofs.YtdpemmmbkjmplabGreatDoor
open Go.RowKit

theorem hid {p : Prop} (h : p) : Hid p := h
theorem ret_int {k : IntKind} {a b : Int} (h : a = b) : Ending.returned (.int k a) = .returned (.int k b) := by rw [h]
theorem val_int {k : IntKind} {a b : Int} (h : a = b) : Value.int k a = .int k b := by rw [h]
theorem cell_alloc {w : World} {p : Addr} {v : Value} (o : Obj) (h : w.cell? p = some v) : (w.alloc o).cell? p = some v :=
  cell_later ((Below.refl _ _).alloc (Nat.le_refl _) o) h
theorem cell_lt {w : World} {p : Addr} {v : Value} (h : w.cell? p = some v) : p.block < w.heap.size := by
  rcases Nat.lt_or_ge p.block w.heap.size with h' | h'
  · exact h'
  · simp [World.cell?, Array.getElem?_eq_none h'] at h
theorem addr_add (b off j : Nat) : (⟨b, off, none⟩ : Addr).add j = ⟨b, off + j, none⟩ := by
  unfold Addr.add; split <;> simp_all
theorem below_trans {a b c : World} (h : Below a.heap.size a b) (k : Below b.heap.size b c) : Below a.heap.size a c := h.trans (k.mono h.size)
theorem row_ltJ {w : World} {b : Nat} {o : Obj} (h : w.heap[b]? = some o) : b < w.heap.size := (Array.getElem?_eq_some_iff.1 h).1
theorem own_later {w w' : World} {e : TypeId} {size n base B : Nat} {v : Value} {xs : List Value} (h : w.ownsRow base e size v n xs) (hb : Below B w w') (hB : w.heap.size ≤ B) : w'.ownsRow base e size v n xs := by
  refine ⟨h.1, ?_⟩
  rcases h.2 with hn | ⟨g, cap, cur, rfl, hb', hgg, rest⟩
  · exact .inl hn
  · exact .inr ⟨g, cap, cur, rfl, hb', (hb.block g (Nat.lt_of_lt_of_le (row_ltJ hgg) hB)).trans hgg, rest⟩
end Go.Proofs.YtdpemmmbkjmplabGreatDoor
namespace Go.Proofs.YtdpemmmbkjmplabGreatDoor

/-- A state: its phase, its promise, its attempt, whatever numbers they are. -/
structure S3 where
  p : Int
  r : Int
  a : Int
def hasP (p : Int) (L : List S3) : Bool := L.any fun s => decide (s.p = p)
theorem hasP_iff (p : Int) (L : List S3) : hasP p L = true ↔ ∃ s, s ∈ L ∧ s.p = p := by simp [hasP]
/-- One state more in the search for the greatest attempt of a phase. -/
def grS (p : Int) (x : Int × Bool) (s : S3) : Int × Bool := if s.p = p ∧ (x.2 = false ∨ x.1 < s.a) then (s.a, true) else x
def gr (p : Int) (L : List S3) : Int × Bool := L.foldl (grS p) (0, false)
theorem gr_snoc (p : Int) (L : List S3) (s : S3) : gr p (L ++ [s]) = grS p (gr p L) s := by simp [gr, List.foldl_append]
/-- What the search has found. -/
def GrOf (p : Int) (L : List S3) (x : Int × Bool) : Prop :=
  (x.2 = true ∧ (∃ s, s ∈ L ∧ s.p = p ∧ s.a = x.1) ∧ ∀ s, s ∈ L → s.p = p → s.a ≤ x.1) ∨ (x = (0, false) ∧ ∀ s, s ∈ L → s.p ≠ p)
theorem grS_of {p : Int} {L : List S3} {x : Int × Bool} (s : S3) (h : GrOf p L x) : GrOf p (L ++ [s]) (grS p x s) := by
  obtain ⟨m, is⟩ := x
  unfold grS
  rcases h with ⟨h1, ⟨t, ht, hp, ha⟩, h3⟩ | ⟨h1, h2⟩
  · simp only at h1 ha h3
    subst h1
    by_cases hc : s.p = p ∧ ((true : Bool) = false ∨ m < s.a)
    · rw [if_pos hc]
      refine .inl ⟨rfl, ⟨s, by simp, hc.1, rfl⟩, fun u hu hup => ?_⟩
      rcases List.mem_append.1 hu with hu | hu
      · have := h3 u hu hup
        rcases hc.2 with h | h
        · cases h
        · show u.a ≤ s.a; omega
      · obtain rfl : u = s := by simpa using hu
        exact Int.le_refl _
    · rw [if_neg hc]
      refine .inl ⟨rfl, ⟨t, by simp [ht], hp, ha⟩, fun u hu hup => ?_⟩
      rcases List.mem_append.1 hu with hu | hu
      · exact h3 u hu hup
      · obtain rfl : u = s := by simpa using hu
        have : ¬ m < u.a := fun h => hc ⟨hup, .inr h⟩
        show u.a ≤ m; omega
  · obtain ⟨rfl, rfl⟩ : m = 0 ∧ is = false := by simpa using h1
    by_cases hc : s.p = p
    · rw [if_pos ⟨hc, .inl rfl⟩]
      refine .inl ⟨rfl, ⟨s, by simp, hc, rfl⟩, fun u hu hup => ?_⟩
      rcases List.mem_append.1 hu with hu | hu
      · exact absurd hup (h2 u hu)
      · obtain rfl : u = s := by simpa using hu
        exact Int.le_refl _
    · rw [if_neg (fun h => hc h.1)]
      refine .inr ⟨rfl, fun u hu => ?_⟩
      rcases List.mem_append.1 hu with hu | hu
      · exact h2 u hu
      · obtain rfl : u = s := by simpa using hu
        exact hc
theorem snoc_rec {α : Type} {C : List α → Prop} (h0 : C []) (h1 : ∀ l x, C l → C (l ++ [x])) (l : List α) : C l := by
  have : ∀ n, ∀ l : List α, l.length = n → C l := by
    intro n
    induction n with
    | zero => intro l hl; cases l with
      | nil => exact h0
      | cons x r => simp at hl
    | succ n ih =>
      intro l hl
      have hne : l ≠ [] := by intro h; subst h; simp at hl
      have e := List.dropLast_concat_getLast hne
      rw [← e]
      exact h1 _ _ (ih _ (by rw [List.length_dropLast]; omega))
  exact this _ l rfl
theorem gr_of (p : Int) (L : List S3) : GrOf p L (gr p L) := by
  refine snoc_rec (C := fun L => GrOf p L (gr p L)) ?_ ?_ L
  · exact .inr ⟨rfl, fun s hs => by cases hs⟩
  · intro l s ih
    rw [gr_snoc]
    exact grS_of s ih
theorem gr_has (p : Int) (L : List S3) : (gr p L).2 = hasP p L := by
  rcases gr_of p L with ⟨h1, ⟨t, ht, hp, -⟩, -⟩ | ⟨h1, h2⟩
  · rw [h1]; exact ((hasP_iff p L).2 ⟨t, ht, hp⟩).symm
  · rw [h1]
    refine (Bool.eq_false_iff.2 fun h => ?_).symm
    obtain ⟨s, hs, hp⟩ := (hasP_iff p L).1 h
    exact h2 s hs hp
/-- Only which states there are makes a difference. -/
theorem gr_same (p : Int) (L M : List S3) (h : ∀ s, s ∈ L ↔ s ∈ M) : gr p L = gr p M := by
  rcases gr_of p L with ⟨h1, ⟨t, ht, hp, ha⟩, h3⟩ | ⟨h1, h2⟩
  · rcases gr_of p M with ⟨g1, ⟨u, hu, up, ua⟩, g3⟩ | ⟨g1, g2⟩
    · have a1 := g3 t ((h t).1 ht) hp
      have a2 := h3 u ((h u).2 hu) up
      refine Prod.ext ?_ (h1.trans g1.symm)
      omega
    · exact absurd hp (g2 t ((h t).1 ht))
  · rcases gr_of p M with ⟨g1, ⟨u, hu, up, ua⟩, g3⟩ | ⟨g1, g2⟩
    · exact absurd up (h2 u ((h u).2 hu))
    · rw [h1, g1]
/-- The program's choice. -/
def chooseL (L : List S3) : Int × Bool :=
  if (gr 2 L).2 = true then (2, true) else if (gr 3 L).2 = true then (3, true)
  else if (gr 4 L).2 = true ∧ ((gr 5 L).2 = false ∨ (gr 5 L).1 ≤ (gr 4 L).1) then (4, false) else (5, false)
theorem choose_same (L M : List S3) (h : ∀ s, s ∈ L ↔ s ∈ M) : chooseL L = chooseL M := by
  unfold chooseL
  rw [gr_same 2 L M h, gr_same 3 L M h, gr_same 4 L M h, gr_same 5 L M h]
theorem choose_turned (L : List S3) (k : Nat) : chooseL (L.drop k ++ L) = chooseL L := by
  refine choose_same _ _ fun s => ?_
  rw [List.mem_append]
  exact ⟨fun h => h.elim (fun h => List.mem_of_mem_drop h) id, .inr⟩
/-- The document's choice: the greatest attempt of all that are prepared first. -/
def beS (x : Bool × Int) (s : S3) : Bool × Int := if s.p = 4 ∨ s.p = 5 then (false, if x.1 = true ∨ x.2 < s.a then s.a else x.2) else x
def be (L : List S3) : Bool × Int := L.foldl beS (true, 0)
theorem be_snoc (L : List S3) (s : S3) : be (L ++ [s]) = beS (be L) s := by simp [be, List.foldl_append]
def BeOf (L : List S3) (x : Bool × Int) : Prop :=
  (x.1 = false ∧ (∃ s, s ∈ L ∧ (s.p = 4 ∨ s.p = 5) ∧ s.a = x.2) ∧ ∀ s, s ∈ L → (s.p = 4 ∨ s.p = 5) → s.a ≤ x.2) ∨ (x = (true, 0) ∧ ∀ s, s ∈ L → ¬ (s.p = 4 ∨ s.p = 5))
theorem beS_of {L : List S3} {x : Bool × Int} (s : S3) (h : BeOf L x) : BeOf (L ++ [s]) (beS x s) := by
  obtain ⟨is, m⟩ := x
  unfold beS
  by_cases hc : s.p = 4 ∨ s.p = 5
  · rw [if_pos hc]
    rcases h with ⟨h1, ⟨t, ht, hp, ha⟩, h3⟩ | ⟨h1, h2⟩
    · simp only at h1 ha h3
      subst h1
      by_cases hm : m < s.a
      · rw [if_pos (.inr hm)]
        refine .inl ⟨rfl, ⟨s, by simp, hc, rfl⟩, fun u hu hup => ?_⟩
        rcases List.mem_append.1 hu with hu | hu
        · have := h3 u hu hup
          show u.a ≤ s.a; omega
        · obtain rfl : u = s := by simpa using hu
          exact Int.le_refl _
      · rw [if_neg (by simpa using hm)]
        refine .inl ⟨rfl, ⟨t, by simp [ht], hp, ha⟩, fun u hu hup => ?_⟩
        rcases List.mem_append.1 hu with hu | hu
        · exact h3 u hu hup
        · obtain rfl : u = s := by simpa using hu
          show u.a ≤ m; omega
    · obtain ⟨rfl, rfl⟩ : is = true ∧ m = 0 := by simpa using h1
      rw [if_pos (.inl rfl)]
      refine .inl ⟨rfl, ⟨s, by simp, hc, rfl⟩, fun u hu hup => ?_⟩
      rcases List.mem_append.1 hu with hu | hu
      · exact absurd hup (h2 u hu)
      · obtain rfl : u = s := by simpa using hu
        exact Int.le_refl _
  · rw [if_neg hc]
    rcases h with ⟨h1, ⟨t, ht, hp, ha⟩, h3⟩ | ⟨h1, h2⟩
    · refine .inl ⟨h1, ⟨t, by simp [ht], hp, ha⟩, fun u hu hup => ?_⟩
      rcases List.mem_append.1 hu with hu | hu
      · exact h3 u hu hup
      · obtain rfl : u = s := by simpa using hu
        exact absurd hup hc
    · refine .inr ⟨h1, fun u hu => ?_⟩
      rcases List.mem_append.1 hu with hu | hu
      · exact h2 u hu
      · obtain rfl : u = s := by simpa using hu
        exact hc
theorem be_of (L : List S3) : BeOf L (be L) := by
  refine snoc_rec (C := fun L => BeOf L (be L)) ?_ ?_ L
  · exact .inr ⟨rfl, fun s hs => by cases hs⟩
  · intro l s ih
    rw [be_snoc]
    exact beS_of s ih
def preL (b : Int) (L : List S3) : Bool := L.any fun s => decide (s.p = 4 ∧ s.a = b)
theorem preL_iff (b : Int) (L : List S3) : preL b L = true ↔ ∃ s, s ∈ L ∧ s.p = 4 ∧ s.a = b := by simp [preL]
def refL (L : List S3) : Int × Bool := if hasP 2 L = true then (2, true) else if hasP 3 L = true then (3, true) else if preL (be L).2 L = true then (4, false) else (5, false)
/-- What the program chooses is what the document asks for. -/
theorem choose_ref (L : List S3) : chooseL L = refL L := by
  unfold chooseL refL
  rw [gr_has 2, gr_has 3]
  have key : ((gr 4 L).2 = true ∧ ((gr 5 L).2 = false ∨ (gr 5 L).1 ≤ (gr 4 L).1)) ↔ preL (be L).2 L = true := by
    rw [preL_iff]
    rcases gr_of 4 L with ⟨h1, ⟨t, ht, tp, ta⟩, h3⟩ | ⟨h1, h2⟩
    · rcases gr_of 5 L with ⟨g1, ⟨u, hu, up, ua⟩, g3⟩ | ⟨g1, g2⟩
      · rcases be_of L with ⟨-, ⟨v, hv, vp, va⟩, b3⟩ | ⟨-, b2⟩
        · constructor
          · rintro ⟨-, h | h⟩
            · rw [g1] at h; cases h
            · refine ⟨t, ht, tp, ?_⟩
              have e1 := b3 t ht (.inl tp)
              rcases vp with vp | vp
              · have := h3 v hv vp; omega
              · have := g3 v hv vp; omega
          · rintro ⟨s, hs, sp, sa⟩
            refine ⟨h1, .inr ?_⟩
            have e1 := b3 u hu (.inr up)
            have e2 := h3 s hs sp
            omega
        · exact absurd (.inl tp) (b2 t ht)
      · rcases be_of L with ⟨-, ⟨v, hv, vp, va⟩, b3⟩ | ⟨-, b2⟩
        · refine ⟨fun _ => ⟨v, hv, ?_, va⟩, fun _ => ⟨h1, .inl (by rw [g1])⟩⟩
          rcases vp with vp | vp
          · exact vp
          · exact absurd vp (g2 v hv)
        · exact absurd (.inl tp) (b2 t ht)
    · refine ⟨fun h => ?_, fun ⟨s, hs, sp, _⟩ => absurd sp (h2 s hs)⟩
      have := h.1
      rw [h1] at this
      cases this
  by_cases k2 : hasP 2 L = true
  · rw [if_pos k2, if_pos k2]
  · rw [if_neg k2, if_neg k2]
    by_cases k3 : hasP 3 L = true
    · rw [if_pos k3, if_pos k3]
    · rw [if_neg k3, if_neg k3]
      by_cases k4 : preL (be L).2 L = true
      · rw [if_pos k4, if_pos (key.2 k4)]
      · rw [if_neg k4, if_neg (fun h => k4 (key.1 h))]
/-- May one go from a phase to another one? -/
def mayB (a b : Int) : Bool :=
  decide (0 ≤ a ∧ a ≤ 5 ∧ 0 ≤ b ∧ b ≤ 5 ∧ (a = b ∨ a = 0 ∨ (a = 1 ∧ b ≠ 0) ∨ ((a = 4 ∨ a = 5) ∧ b ≠ 0 ∧ b ≠ 1)))
theorem may_twice {a b c : Int} (h1 : mayB a b = true) (h2 : mayB b c = true) : mayB a c = true := by
  unfold mayB at *
  have := of_decide_eq_true h1
  have := of_decide_eq_true h2
  apply decide_eq_true
  omega
def afterI (a : Int) : Int := if a = 4 then 2 else if a = 5 then 3 else 0
theorem choose_ways (L : List S3) : chooseL L = (2, true) ∨ chooseL L = (3, true) ∨ chooseL L = (4, false) ∨ chooseL L = (5, false) := by
  unfold chooseL
  repeat' split
  · exact .inl rfl
  · exact .inr (.inl rfl)
  · exact .inr (.inr (.inl rfl))
  · exact .inr (.inr (.inr rfl))
end Go.Proofs.YtdpemmmbkjmplabGreatDoor
namespace Go.Proofs.YtdpemmmbkjmplabGreatDoor
open Go.RowKit

/-- A frame as a value. -/
abbrev frV (f t d k a : Int) (y : Bool) (ph pr pa : Int) : Value := .agg #[.int .i64 f, .int .i64 t, .int .i64 d, .int .i64 k, .int .i64 a, .bool y, .int .i64 ph, .int .i64 pr, .int .i64 pa]
theorem nine {w : World} {g : Nat} {f t d k a : Int} {y : Bool} {ph pr pa : Int} {ty : TypeId} {fr : Nat × Nat} (h : w.heap[g]? = some (.cells #[.int .i64 f, .int .i64 t, .int .i64 d, .int .i64 k, .int .i64 a, .bool y, .int .i64 ph, .int .i64 pr, .int .i64 pa] ty fr)) :
    w.cell? ⟨g, 0, none⟩ = some (.int .i64 f) ∧ w.cell? ⟨g, 1, none⟩ = some (.int .i64 t) ∧ w.cell? ⟨g, 2, none⟩ = some (.int .i64 d) ∧ w.cell? ⟨g, 3, none⟩ = some (.int .i64 k) ∧ w.cell? ⟨g, 4, none⟩ = some (.int .i64 a) ∧ w.cell? ⟨g, 5, none⟩ = some (.bool y) ∧ w.cell? ⟨g, 6, none⟩ = some (.int .i64 ph) ∧ w.cell? ⟨g, 7, none⟩ = some (.int .i64 pr) ∧ w.cell? ⟨g, 8, none⟩ = some (.int .i64 pa) := by
  refine ⟨?_, ?_, ?_, ?_, ?_, ?_, ?_, ?_, ?_⟩ <;> rw [cell_of_row _ _ _ _ _ _ h] <;> rfl
theorem set9 {w : World} {g : Nat} {a0 a1 a2 a3 a4 a5 a6 a7 a8 : Value} {t : TypeId} (h : w.heap[g]? = some (.cells #[a0, a1, a2, a3, a4, a5, a6, a7, a8] t (0, 0))) (x0 x1 x2 x3 x4 x5 x6 x7 x8 : Value) :
    (((((((((w.setCell ⟨g, 0, none⟩ x0).setCell ⟨g, 1, none⟩ x1).setCell ⟨g, 2, none⟩ x2).setCell ⟨g, 3, none⟩ x3).setCell ⟨g, 4, none⟩ x4).setCell ⟨g, 5, none⟩ x5).setCell ⟨g, 6, none⟩ x6).setCell ⟨g, 7, none⟩ x7).setCell ⟨g, 8, none⟩ x8).heap[g]? = some (.cells #[x0, x1, x2, x3, x4, x5, x6, x7, x8] t (0, 0)) := by
  have h0 : (w.setCell ⟨g, 0, none⟩ x0).heap[g]? = some (.cells #[x0, a1, a2, a3, a4, a5, a6, a7, a8] t (0, 0)) := heap_setCell_same _ g 0 #[a0, a1, a2, a3, a4, a5, a6, a7, a8] t x0 h
  have h1 : ((w.setCell ⟨g, 0, none⟩ x0).setCell ⟨g, 1, none⟩ x1).heap[g]? = some (.cells #[x0, x1, a2, a3, a4, a5, a6, a7, a8] t (0, 0)) := heap_setCell_same _ g 1 #[x0, a1, a2, a3, a4, a5, a6, a7, a8] t x1 h0
  have h2 : (((w.setCell ⟨g, 0, none⟩ x0).setCell ⟨g, 1, none⟩ x1).setCell ⟨g, 2, none⟩ x2).heap[g]? = some (.cells #[x0, x1, x2, a3, a4, a5, a6, a7, a8] t (0, 0)) := heap_setCell_same _ g 2 #[x0, x1, a2, a3, a4, a5, a6, a7, a8] t x2 h1
  have h3 : ((((w.setCell ⟨g, 0, none⟩ x0).setCell ⟨g, 1, none⟩ x1).setCell ⟨g, 2, none⟩ x2).setCell ⟨g, 3, none⟩ x3).heap[g]? = some (.cells #[x0, x1, x2, x3, a4, a5, a6, a7, a8] t (0, 0)) := heap_setCell_same _ g 3 #[x0, x1, x2, a3, a4, a5, a6, a7, a8] t x3 h2
  have h4 : (((((w.setCell ⟨g, 0, none⟩ x0).setCell ⟨g, 1, none⟩ x1).setCell ⟨g, 2, none⟩ x2).setCell ⟨g, 3, none⟩ x3).setCell ⟨g, 4, none⟩ x4).heap[g]? = some (.cells #[x0, x1, x2, x3, x4, a5, a6, a7, a8] t (0, 0)) := heap_setCell_same _ g 4 #[x0, x1, x2, x3, a4, a5, a6, a7, a8] t x4 h3
  have h5 : ((((((w.setCell ⟨g, 0, none⟩ x0).setCell ⟨g, 1, none⟩ x1).setCell ⟨g, 2, none⟩ x2).setCell ⟨g, 3, none⟩ x3).setCell ⟨g, 4, none⟩ x4).setCell ⟨g, 5, none⟩ x5).heap[g]? = some (.cells #[x0, x1, x2, x3, x4, x5, a6, a7, a8] t (0, 0)) := heap_setCell_same _ g 5 #[x0, x1, x2, x3, x4, a5, a6, a7, a8] t x5 h4
  have h6 : (((((((w.setCell ⟨g, 0, none⟩ x0).setCell ⟨g, 1, none⟩ x1).setCell ⟨g, 2, none⟩ x2).setCell ⟨g, 3, none⟩ x3).setCell ⟨g, 4, none⟩ x4).setCell ⟨g, 5, none⟩ x5).setCell ⟨g, 6, none⟩ x6).heap[g]? = some (.cells #[x0, x1, x2, x3, x4, x5, x6, a7, a8] t (0, 0)) := heap_setCell_same _ g 6 #[x0, x1, x2, x3, x4, x5, a6, a7, a8] t x6 h5
  have h7 : ((((((((w.setCell ⟨g, 0, none⟩ x0).setCell ⟨g, 1, none⟩ x1).setCell ⟨g, 2, none⟩ x2).setCell ⟨g, 3, none⟩ x3).setCell ⟨g, 4, none⟩ x4).setCell ⟨g, 5, none⟩ x5).setCell ⟨g, 6, none⟩ x6).setCell ⟨g, 7, none⟩ x7).heap[g]? = some (.cells #[x0, x1, x2, x3, x4, x5, x6, x7, a8] t (0, 0)) := heap_setCell_same _ g 7 #[x0, x1, x2, x3, x4, x5, x6, a7, a8] t x7 h6
  exact heap_setCell_same _ g 8 #[x0, x1, x2, x3, x4, x5, x6, x7, a8] t x8 h7
end Go.Proofs.YtdpemmmbkjmplabGreatDoor
namespace Go.Proofs.YtdpemmmbkjmplabGreatDoor
open Go.RowKit

structure F9 where
  f : Int
  t : Int
  d : Int
  k : Int
  a : Int
  y : Bool
  ph : Int
  pr : Int
  pa : Int
def f9L (x : F9) : List Value := [.int .i64 x.f, .int .i64 x.t, .int .i64 x.d, .int .i64 x.k, .int .i64 x.a, .bool x.y, .int .i64 x.ph, .int .i64 x.pr, .int .i64 x.pa]
def frCells (L : List F9) : List Value := L.flatMap f9L
theorem f9L_length (x : F9) : (f9L x).length = 9 := rfl
theorem frCells_append (L M : List F9) : frCells (L ++ M) = frCells L ++ frCells M := by simp [frCells, List.flatMap_append]
theorem frCells_cons (x : F9) (L : List F9) : frCells (x :: L) = f9L x ++ frCells L := rfl
theorem frCells_length : ∀ L : List F9, (frCells L).length = L.length * 9
  | [] => rfl
  | x :: L => by rw [frCells_cons, List.length_append, f9L_length, frCells_length L, List.length_cons]; omega
theorem frCells_get : ∀ (L : List F9) (i j : Nat) (h : i < L.length), j < 9 → (frCells L)[i * 9 + j]? = (f9L (L[i]'h))[j]?
  | [], i, _, h, _ => absurd h (Nat.not_lt_zero _)
  | x :: L, 0, j, _, hj => by
    rw [frCells_cons, Nat.zero_mul, Nat.zero_add, List.getElem?_append_left (by rw [f9L_length]; exact hj)]
    rfl
  | x :: L, i + 1, j, h, hj => by
    rw [frCells_cons, List.getElem?_append_right (by rw [f9L_length]; omega), f9L_length, show (i + 1) * 9 + j - 9 = i * 9 + j by omega]
    exact frCells_get L i j (by simpa using h) hj
theorem frCells_one (L : List F9) : ∀ u ∈ frCells L, u.oneCell' = true := by
  intro u hu
  obtain ⟨s, -, hs⟩ := List.mem_flatMap.1 hu
  simp [f9L] at hs
  rcases hs with rfl | rfl | rfl | rfl | rfl | rfl | rfl | rfl | rfl <;> rfl
/-- The frames L lie behind the address. -/
def FL (w : World) (ad : Option Addr) (L : List F9) : Prop := ∀ i (h : i < L.length), ∃ b off, ad = some ⟨b, off, none⟩ ∧ ∀ j, j < 9 → w.cell? ⟨b, off + i * 9 + j, none⟩ = (f9L (L[i]'h))[j]?
theorem FL.later {w w' : World} {ad : Option Addr} {L : List F9} (h : FL w ad L) (hb : Below w.heap.size w w') : FL w' ad L := fun i hi => by
  obtain ⟨b, off, e, hc⟩ := h i hi
  refine ⟨b, off, e, fun j hj => ?_⟩
  have h2 := hc j hj
  have h3 : (f9L (L[i]'hi))[j]? = some ((f9L (L[i]'hi))[j]'(by rw [f9L_length]; exact hj)) := List.getElem?_eq_getElem _
  rw [h3] at h2 ⊢
  exact cell_later hb h2
theorem FL.nil (w : World) (ad : Option Addr) : FL w ad [] := fun _ h => absurd h (Nat.not_lt_zero _)
theorem nineO {w : World} {b o : Nat} {x : F9} (h : ∀ j, j < 9 → w.cell? ⟨b, o + j, none⟩ = (f9L x)[j]?) :
    w.cell? ⟨b, o, none⟩ = some (.int .i64 x.f) ∧ w.cell? ⟨b, o + 1, none⟩ = some (.int .i64 x.t) ∧ w.cell? ⟨b, o + 2, none⟩ = some (.int .i64 x.d) ∧ w.cell? ⟨b, o + 3, none⟩ = some (.int .i64 x.k) ∧ w.cell? ⟨b, o + 4, none⟩ = some (.int .i64 x.a) ∧ w.cell? ⟨b, o + 5, none⟩ = some (.bool x.y) ∧ w.cell? ⟨b, o + 6, none⟩ = some (.int .i64 x.ph) ∧ w.cell? ⟨b, o + 7, none⟩ = some (.int .i64 x.pr) ∧ w.cell? ⟨b, o + 8, none⟩ = some (.int .i64 x.pa) :=
  ⟨h 0 (by omega), h 1 (by omega), h 2 (by omega), h 3 (by omega), h 4 (by omega), h 5 (by omega), h 6 (by omega), h 7 (by omega), h 8 (by omega)⟩
/-- A slice value that holds the frames L. -/
def IsFr (w : World) (v : Value) (L : List F9) : Prop := ∃ ad cap, v = .slice ad L.length cap ∧ FL w ad L
theorem IsFr.later {w w' : World} {v : Value} {L : List F9} (h : IsFr w v L) (hb : Below w.heap.size w w') : IsFr w' v L := by
  obtain ⟨ad, cap, e, hl⟩ := h
  exact ⟨ad, cap, e, hl.later hb⟩
theorem IsFr.zero (w : World) : IsFr w (.slice none 0 0) [] := ⟨none, 0, rfl, FL.nil _ _⟩
theorem IsFr.owned {w : World} {base : Nat} {v : Value} {L : List F9} (h : w.ownsRow base 93 9 v L.length (frCells L)) : IsFr w v L := by
  have hc := h
  rcases h.2 with ⟨rfl, h0⟩ | ⟨g, cap, cur, rfl, hb, hg, hle, hcap, hsz, htk⟩
  · have e : L = [] := List.length_eq_zero_iff.1 h0
    subst e
    exact IsFr.zero w
  · refine ⟨_, cap, rfl, fun i hi => ⟨g, 0, rfl, fun j hj => ?_⟩⟩
    have := hc.cellAt (i * 9 + j) (by omega)
    rw [Nat.zero_add, this, frCells_get L i j hi hj]
end Go.Proofs.YtdpemmmbkjmplabGreatDoor
namespace Go.Proofs.YtdpemmmbkjmplabGreatDoor
open Go.RowKit

/-! ### Bits of an int that is not below 0 -/
theorem ofInt_nat (a : Nat) (ha : a < 9223372036854775808) : (BitVec.ofInt 64 (a : Int)).toNat = a := by
  rw [BitVec.ofInt_natCast, BitVec.toNat_ofNat]; exact Nat.mod_eq_of_lt (by omega)
theorem bits_and_nat (a b : Nat) (ha : a < 9223372036854775808) (hb : b < 9223372036854775808) : bits .and .i64 (a : Int) (b : Int) = ((a &&& b : Nat) : Int) := by
  have hx : a &&& b < 2 ^ 63 := Nat.and_lt_two_pow _ (by omega)
  show IntKind.i64.wrap ((BitVec.ofInt 64 (a : Int) &&& BitVec.ofInt 64 (b : Int)).toNat : Int) = _
  rw [BitVec.toNat_and, ofInt_nat a ha, ofInt_nat b hb, IntKind.wrap_i64]
  omega
theorem bits_or_nat (a b : Nat) (ha : a < 9223372036854775808) (hb : b < 9223372036854775808) : bits .or .i64 (a : Int) (b : Int) = ((a ||| b : Nat) : Int) := by
  have hx : a ||| b < 2 ^ 63 := Nat.or_lt_two_pow (by omega) (by omega)
  show IntKind.i64.wrap ((BitVec.ofInt 64 (a : Int) ||| BitVec.ofInt 64 (b : Int)).toNat : Int) = _
  rw [BitVec.toNat_or, ofInt_nat a ha, ofInt_nat b hb, IntKind.wrap_i64]
  omega

/-- Is site k in set s? -/
def bit (s : Int) (k : Nat) : Bool := s.toNat.testBit k
/-- What the sites of set s below k weigh. -/
def sumTo (zs : List Int) (s : Int) : Nat → Int
  | 0 => 0
  | k + 1 => sumTo zs s k + if bit s k then zs.getD k 0 else 0
/-- What all sites below k weigh. -/
def psum (zs : List Int) : Nat → Int
  | 0 => 0
  | k + 1 => psum zs k + zs.getD k 0
def tot (zs : List Int) : Int := psum zs zs.length
/-- Are the first k weights within their bounds? -/
def okTo (zs : List Int) (k : Nat) : Prop := ∀ i, i < k → 0 ≤ zs.getD i 0 ∧ zs.getD i 0 ≤ 1000
/-- The number of weights' error (0: none). -/
def errW (zs : List Int) : Nat :=
  if zs.length < 1 ∨ 7 < zs.length then 3 else if (zs.all fun n => decide (0 ≤ n ∧ n ≤ 1000)) = true then (if tot zs = 0 then 4 else 0) else 2
/-- The number of a set's error. -/
def errS (zs : List Int) (s : Int) : Nat := if errW zs = 0 then (if s < 0 ∨ 2 ^ zs.length ≤ s then 2 else 0) else errW zs
def enoughB (zs : List Int) (s : Int) : Bool := decide (tot zs < 2 * sumTo zs s zs.length)

theorem getD_lt (zs : List Int) (k : Nat) (h : k < zs.length) : zs.getD k 0 = zs[k] := by simp [h]
theorem okTo_all (zs : List Int) : okTo zs zs.length ↔ (zs.all fun n => decide (0 ≤ n ∧ n ≤ 1000)) = true := by
  rw [List.all_eq_true]
  constructor
  · intro h x hx
    obtain ⟨i, hi, rfl⟩ := List.getElem_of_mem hx
    have := h i hi
    rw [getD_lt zs i hi] at this
    simpa using this
  · intro h i hi
    have := h zs[i] (List.getElem_mem hi)
    rw [getD_lt zs i hi]
    simpa using this
theorem okTo_succ {zs : List Int} {k : Nat} (h : okTo zs k) (h0 : 0 ≤ zs.getD k 0) (h1 : zs.getD k 0 ≤ 1000) : okTo zs (k + 1) := by
  intro i hi
  rcases Nat.lt_succ_iff_lt_or_eq.1 hi with h' | rfl
  · exact h i h'
  · exact ⟨h0, h1⟩
theorem psum_bd {zs : List Int} : ∀ {k : Nat}, okTo zs k → 0 ≤ psum zs k ∧ psum zs k ≤ 1000 * k
  | 0, _ => by simp [psum]
  | k + 1, h => by
    have ih := psum_bd (k := k) (fun i hi => h i (Nat.lt_succ_of_lt hi))
    have := h k (Nat.lt_succ_self k)
    simp only [psum]; omega
theorem sumTo_bd {zs : List Int} (s : Int) : ∀ {k : Nat}, okTo zs k → 0 ≤ sumTo zs s k ∧ sumTo zs s k ≤ psum zs k
  | 0, _ => by simp [psum, sumTo]
  | k + 1, h => by
    have ih := sumTo_bd s (k := k) (fun i hi => h i (Nat.lt_succ_of_lt hi))
    have := h k (Nat.lt_succ_self k)
    simp only [psum, sumTo]; split <;> omega
theorem errW_shape {zs : List Int} (h : zs.length < 1 ∨ 7 < zs.length) : errW zs = 3 := by unfold errW; rw [if_pos h]
theorem errW_bound {zs : List Int} (h : ¬ (zs.length < 1 ∨ 7 < zs.length)) {k : Nat} (hk : k < zs.length) (hb : zs.getD k 0 < 0 ∨ 1000 < zs.getD k 0) : errW zs = 2 := by
  unfold errW; rw [if_neg h, if_neg]
  rw [← okTo_all]; intro g; have := g k hk; omega
theorem errW_ok {zs : List Int} (h : ¬ (zs.length < 1 ∨ 7 < zs.length)) (g : okTo zs zs.length) : errW zs = if tot zs = 0 then 4 else 0 := by
  unfold errW; rw [if_neg h, if_pos ((okTo_all zs).1 g)]
theorem errW_zero {zs : List Int} (h : errW zs = 0) : 1 ≤ zs.length ∧ zs.length ≤ 7 ∧ okTo zs zs.length ∧ tot zs ≠ 0 := by
  unfold errW at h
  split at h
  · cases h
  · split at h
    · split at h
      · cases h
      · refine ⟨by omega, by omega, (okTo_all zs).2 (by assumption), by assumption⟩
    · cases h
theorem errS_zero {zs : List Int} {s : Int} (h : errS zs s = 0) : errW zs = 0 ∧ 0 ≤ s ∧ s < 2 ^ zs.length := by
  unfold errS at h
  split at h
  · split at h
    · cases h
    · exact ⟨by assumption, by omega, by omega⟩
  · exact absurd h (by assumption)
theorem errS_mk {zs : List Int} {s : Int} (h : errW zs = 0) (h0 : 0 ≤ s) (h1 : s < 2 ^ zs.length) : errS zs s = 0 := by
  unfold errS; rw [if_pos h, if_neg (by omega)]
theorem pow_le7 {n : Nat} (h : n ≤ 7) : (2 : Int) ^ n ≤ 128 ∧ (1 : Int) ≤ 2 ^ n := by
  have : n = 0 ∨ n = 1 ∨ n = 2 ∨ n = 3 ∨ n = 4 ∨ n = 5 ∨ n = 6 ∨ n = 7 := by omega
  rcases this with rfl | rfl | rfl | rfl | rfl | rfl | rfl | rfl <;> decide
theorem pow_le30 {n : Nat} (h : n ≤ 30) : (2 : Int) ^ n ≤ 1073741824 ∧ (1 : Int) ≤ 2 ^ n := by
  have h1 : (2 : Nat) ^ n ≤ 2 ^ 30 := Nat.pow_le_pow_right (by decide) h
  have h2 : 1 ≤ (2 : Nat) ^ n := Nat.one_le_two_pow
  have e : ((2 : Int) ^ n) = (((2 : Nat) ^ n : Nat) : Int) := by simp
  rw [e]; constructor
  · have : (2 : Nat) ^ 30 = 1073741824 := by decide
    omega
  · omega
theorem bit_and {s : Int} (k : Nat) (h0 : 0 ≤ s) (h1 : s < 9223372036854775808) : (bits BinOp.and IntKind.i64 (s / 2 ^ k) 1 == 1) = bit s k := by
  obtain ⟨m, rfl⟩ := Int.eq_ofNat_of_zero_le h0
  have e : ((m : Int) / 2 ^ k) = ((m / 2 ^ k : Nat) : Int) := by simp
  have hlt : m / 2 ^ k < 9223372036854775808 := Nat.lt_of_le_of_lt (Nat.div_le_self _ _) (by omega)
  rw [e, show (1 : Int) = ((1 : Nat) : Int) from rfl, bits_and_nat _ 1 hlt (by decide), Nat.and_one_is_mod]
  unfold bit
  rw [Int.toNat_natCast, Nat.testBit_eq_decide_div_mod_eq, Bool.eq_iff_iff]
  simp; omega
theorem bit_two {n k : Nat} (h : k < n) : bit (2 ^ n - 1) k = true := by
  unfold bit
  have e : ((2 : Int) ^ n - 1).toNat = 2 ^ n - 1 := by
    have h2 : 1 ≤ (2 : Nat) ^ n := Nat.one_le_two_pow
    have e : ((2 : Int) ^ n) = (((2 : Nat) ^ n : Nat) : Int) := by simp
    rw [e]; omega
  rw [e, Nat.testBit_two_pow_sub_one]; simpa using h
theorem sumTo_all (zs : List Int) {n : Nat} : ∀ {k : Nat}, k ≤ n → sumTo zs (2 ^ n - 1) k = psum zs k
  | 0, _ => rfl
  | k + 1, h => by simp only [sumTo, psum]; rw [sumTo_all zs (k := k) (by omega), bit_two (by omega)]; simp
end Go.Proofs.YtdpemmmbkjmplabGreatDoor
namespace Go.Proofs.YtdpemmmbkjmplabGreatDoor
open Go.RowKit

theorem pow_nat (n : Nat) : ((2 : Int) ^ n) = (((2 : Nat) ^ n : Nat) : Int) := by simp
theorem bit_compl {n : Nat} {a : Int} (h0 : 0 ≤ a) (h1 : a < 2 ^ n) {k : Nat} (hk : k < n) : bit (2 ^ n - 1 - a) k = !bit a k := by
  obtain ⟨m, rfl⟩ := Int.eq_ofNat_of_zero_le h0
  rw [pow_nat] at h1
  unfold bit
  have e : ((2 : Int) ^ n - 1 - (m : Int)).toNat = 2 ^ n - (m + 1) := by rw [pow_nat]; omega
  rw [e, Nat.testBit_two_pow_sub_succ (by omega)]
  simp [hk]
theorem sumTo_compl (zs : List Int) {n : Nat} {a : Int} (h0 : 0 ≤ a) (h1 : a < 2 ^ n) : ∀ {k : Nat}, k ≤ n → sumTo zs (2 ^ n - 1 - a) k + sumTo zs a k = psum zs k
  | 0, _ => by simp [sumTo, psum]
  | k + 1, h => by
    have ih := sumTo_compl zs h0 h1 (k := k) (by omega)
    simp only [sumTo, psum]
    rw [bit_compl h0 h1 (k := k) (by omega)]
    cases bit a k <;> simp <;> omega
theorem bit_or {a b : Int} (h0 : 0 ≤ a) (h1 : a < 128) (g0 : 0 ≤ b) (g1 : b < 128) (k : Nat) : bit (bits .or .i64 a b) k = (bit a k || bit b k) := by
  obtain ⟨m, rfl⟩ := Int.eq_ofNat_of_zero_le h0
  obtain ⟨n, rfl⟩ := Int.eq_ofNat_of_zero_le g0
  rw [bits_or_nat m n (by omega) (by omega)]
  unfold bit
  simp [Nat.testBit_or]
theorem bit_none {a b : Int} (h0 : 0 ≤ a) (h1 : a < 128) (g0 : 0 ≤ b) (g1 : b < 128) (h : bits .and .i64 a b = 0) (k : Nat) : (bit a k && bit b k) = false := by
  obtain ⟨m, rfl⟩ := Int.eq_ofNat_of_zero_le h0
  obtain ⟨n, rfl⟩ := Int.eq_ofNat_of_zero_le g0
  rw [bits_and_nat m n (by omega) (by omega)] at h
  have e : m &&& n = 0 := by omega
  unfold bit
  rw [Int.toNat_natCast, Int.toNat_natCast, ← Nat.testBit_and, e, Nat.zero_testBit]
theorem sumTo_or {zs : List Int} {a b : Int} (h0 : 0 ≤ a) (h1 : a < 128) (g0 : 0 ≤ b) (g1 : b < 128) : ∀ {k : Nat}, okTo zs k → sumTo zs a k ≤ sumTo zs (bits .or .i64 a b) k
  | 0, _ => by simp [sumTo]
  | k + 1, h => by
    have ih := sumTo_or h0 h1 g0 g1 (k := k) (fun i hi => h i (by omega))
    have := h k (by omega)
    simp only [sumTo]
    rw [bit_or h0 h1 g0 g1]
    generalize zs.getD k 0 = z at *
    cases bit a k <;> cases bit b k <;> simp <;> omega
theorem sumTo_apart {zs : List Int} {a b : Int} (h0 : 0 ≤ a) (h1 : a < 128) (g0 : 0 ≤ b) (g1 : b < 128) (hab : bits .and .i64 a b = 0) : ∀ {k : Nat}, okTo zs k → sumTo zs a k + sumTo zs b k ≤ psum zs k
  | 0, _ => by simp [sumTo, psum]
  | k + 1, h => by
    have ih := sumTo_apart h0 h1 g0 g1 hab (k := k) (fun i hi => h i (by omega))
    have := h k (by omega)
    have hn := bit_none h0 h1 g0 g1 hab k
    simp only [sumTo, psum]
    revert hn
    generalize zs.getD k 0 = z at *
    cases bit a k <;> cases bit b k <;> simp <;> omega
theorem or_lt {n : Nat} {a b : Int} (hn : n ≤ 7) (h0 : 0 ≤ a) (h1 : a < 2 ^ n) (g0 : 0 ≤ b) (g1 : b < 2 ^ n) : 0 ≤ bits .or .i64 a b ∧ bits .or .i64 a b < 2 ^ n := by
  have hp := (pow_le7 hn).1
  obtain ⟨m, rfl⟩ := Int.eq_ofNat_of_zero_le h0
  obtain ⟨l, rfl⟩ := Int.eq_ofNat_of_zero_le g0
  rw [pow_nat] at h1 g1 hp ⊢
  have : m ||| l < 2 ^ n := Nat.or_lt_two_pow (by omega) (by omega)
  rw [bits_or_nat m l (by omega) (by omega)]
  omega

theorem errS_compl {zs : List Int} {a : Int} (h : errS zs a = 0) : errS zs (2 ^ zs.length - 1 - a) = 0 := by
  obtain ⟨h1, h2, h3⟩ := errS_zero h
  exact errS_mk h1 (by omega) (by omega)
theorem errS_or {zs : List Int} {a b : Int} (h : errS zs a = 0) (g : errS zs b = 0) : errS zs (bits .or .i64 a b) = 0 := by
  obtain ⟨h1, h2, h3⟩ := errS_zero h
  obtain ⟨-, g2, g3⟩ := errS_zero g
  have := or_lt (errW_zero h1).2.1 h2 h3 g2 g3
  exact errS_mk h1 this.1 this.2
theorem errS_all {zs : List Int} (h : errW zs = 0) : errS zs (2 ^ zs.length - 1) = 0 := by
  have := (pow_le7 (errW_zero h).2.1).2
  exact errS_mk h (by omega) (by omega)
theorem lt128 {zs : List Int} {a : Int} (h : errS zs a = 0) : 0 ≤ a ∧ a < 128 := by
  obtain ⟨h1, h2, h3⟩ := errS_zero h
  have := (pow_le7 (errW_zero h1).2.1).1
  omega
/-- Two quorums have a site in common. -/
theorem meet {zs : List Int} {a b : Int} (h : errS zs a = 0) (g : errS zs b = 0) (x : enoughB zs a = true) (y : enoughB zs b = true) : (bits .and .i64 a b == 0) = false := by
  rw [beq_eq_false_iff_ne]
  intro e
  have ha := lt128 h
  have hb := lt128 g
  have := sumTo_apart ha.1 ha.2 hb.1 hb.2 e (errW_zero (errS_zero h).1).2.2.1
  unfold enoughB tot at x y
  have x' := of_decide_eq_true x
  have y' := of_decide_eq_true y
  omega
/-- The others are none. -/
theorem others {zs : List Int} {a : Int} (h : errS zs a = 0) (x : enoughB zs a = true) : enoughB zs (2 ^ zs.length - 1 - a) = false := by
  obtain ⟨-, h2, h3⟩ := errS_zero h
  have := sumTo_compl zs h2 h3 (Nat.le_refl _)
  unfold enoughB tot at x ⊢
  have x' := of_decide_eq_true x
  exact decide_eq_false (by omega)
theorem more {zs : List Int} {a b : Int} (h : errS zs a = 0) (g : errS zs b = 0) (x : enoughB zs a = true) : enoughB zs (bits .or .i64 a b) = true := by
  have ha := lt128 h
  have hb := lt128 g
  have := sumTo_or ha.1 ha.2 hb.1 hb.2 (errW_zero (errS_zero h).1).2.2.1
  unfold enoughB at x ⊢
  have x' := of_decide_eq_true x
  exact decide_eq_true (by omega)
theorem allEnough {zs : List Int} (h : errW zs = 0) : enoughB zs (2 ^ zs.length - 1) = true := by
  obtain ⟨h1, h2, h3, h4⟩ := errW_zero h
  have := psum_bd h3
  unfold tot at h4
  unfold enoughB tot
  rw [sumTo_all zs (Nat.le_refl _)]
  exact decide_eq_true (by omega)
end Go.Proofs.YtdpemmmbkjmplabGreatDoor
namespace Go.Proofs.YtdpemmmbkjmplabGreatDoor
open Go.RowKit

def mulL (t : Int) (zs : List Int) : List Int := zs.map (t * ·)
theorem mulL_length (t : Int) (zs : List Int) : (mulL t zs).length = zs.length := by simp [mulL]
theorem mulL_getD (t : Int) (zs : List Int) (k : Nat) : (mulL t zs).getD k 0 = t * zs.getD k 0 := by
  simp only [mulL, List.getD_eq_getElem?_getD, List.getElem?_map]
  cases zs[k]? <;> simp
theorem mulL_take_succ (t : Int) (zs : List Int) (k : Nat) (h : k < zs.length) : mulL t (zs.take (k + 1)) = mulL t (zs.take k) ++ [t * zs.getD k 0] := by
  rw [List.take_succ_eq_append_getElem h, getD_lt zs k h]; unfold mulL; rw [List.map_append]; rfl
theorem psum_mul (t : Int) (zs : List Int) : ∀ k, psum (mulL t zs) k = t * psum zs k
  | 0 => by simp [psum]
  | k + 1 => by simp only [psum]; rw [psum_mul t zs k, mulL_getD, Int.mul_add]
theorem sumTo_mul (t : Int) (zs : List Int) (s : Int) : ∀ k, sumTo (mulL t zs) s k = t * sumTo zs s k
  | 0 => by simp [sumTo]
  | k + 1 => by simp only [sumTo]; rw [sumTo_mul t zs s k, mulL_getD, Int.mul_add]; cases bit s k <;> simp
theorem errS_mul {zs : List Int} {t s : Int} (ht : 1 ≤ t) (h : errS zs s = 0) (hb : ∀ i, i < zs.length → zs.getD i 0 ≤ 1000 / t) : errS (mulL t zs) s = 0 := by
  obtain ⟨h1, h2, h3⟩ := errS_zero h
  obtain ⟨g1, g2, g3, g4⟩ := errW_zero h1
  refine errS_mk ?_ h2 (by rw [mulL_length]; exact h3)
  rw [errW_ok (by rw [mulL_length]; omega), if_neg]
  · unfold tot; rw [mulL_length, psum_mul]
    unfold tot at g4
    intro e
    rcases Int.mul_eq_zero.1 e with e | e
    · omega
    · exact g4 e
  · intro i hi
    rw [mulL_length] at hi
    rw [mulL_getD]
    have := g3 i hi
    have hq := hb i hi
    constructor
    · exact Int.mul_nonneg (by omega) this.1
    · have h5 : t * zs.getD i 0 ≤ t * (1000 / t) := Int.mul_le_mul_of_nonneg_left hq (by omega)
      have h6 : t * (1000 / t) ≤ 1000 := Int.mul_ediv_self_le (by omega)
      omega
theorem enoughB_mul {zs : List Int} {t : Int} (ht : 1 ≤ t) (s : Int) : enoughB (mulL t zs) s = enoughB zs s := by
  unfold enoughB tot
  rw [mulL_length, psum_mul, sumTo_mul]
  have e : 2 * (t * sumTo zs s zs.length) = t * (2 * sumTo zs s zs.length) := by rw [← Int.mul_assoc, Int.mul_comm 2 t, Int.mul_assoc]
  rw [e]
  exact decide_eq_decide.2 (Int.mul_lt_mul_left (by omega))
theorem getD_snoc (zs : List Int) (k : Nat) : (zs ++ [0]).getD k 0 = zs.getD k 0 := by
  simp only [List.getD_eq_getElem?_getD]
  rcases Nat.lt_trichotomy k zs.length with h | h | h
  · rw [List.getElem?_append_left h]
  · subst h; simp
  · rw [List.getElem?_eq_none (by simp; omega), List.getElem?_eq_none (by omega)]
theorem psum_snoc (zs : List Int) : ∀ k, psum (zs ++ [0]) k = psum zs k
  | 0 => rfl
  | k + 1 => by simp only [psum]; rw [psum_snoc zs k, getD_snoc]
theorem sumTo_snoc (zs : List Int) (s : Int) : ∀ k, sumTo (zs ++ [0]) s k = sumTo zs s k
  | 0 => rfl
  | k + 1 => by simp only [sumTo]; rw [sumTo_snoc zs s k, getD_snoc]
theorem tot_snoc (zs : List Int) : tot (zs ++ [0]) = tot zs := by
  unfold tot; rw [psum_snoc, List.length_append]; simp [psum]
theorem errS_snoc {zs : List Int} {s : Int} (h : errS zs s = 0) (hl : zs.length ≠ 7) : errS (zs ++ [0]) s = 0 := by
  obtain ⟨h1, h2, h3⟩ := errS_zero h
  obtain ⟨g1, g2, g3, g4⟩ := errW_zero h1
  refine errS_mk ?_ h2 ?_
  · rw [errW_ok (by simp; omega), if_neg (by rw [tot_snoc]; exact g4)]
    intro i hi
    rw [getD_snoc]
    rcases Nat.lt_or_ge i zs.length with h | h
    · exact g3 i h
    · rw [List.getD_eq_getElem?_getD, List.getElem?_eq_none h]; decide
  · rw [List.length_append]
    have e : (2 : Int) ^ (zs.length + [(0 : Int)].length) = 2 * 2 ^ zs.length := by rw [List.length_singleton, Int.pow_succ]; omega
    rw [e]; omega
theorem enoughB_snoc (zs : List Int) (s : Int) : enoughB (zs ++ [0]) s = enoughB zs s := by
  unfold enoughB
  rw [tot_snoc, sumTo_snoc, List.length_append, List.length_singleton]
  have : sumTo zs s (zs.length + 1) = sumTo zs s zs.length := by
    simp only [sumTo]
    rw [List.getD_eq_getElem?_getD, List.getElem?_eq_none (Nat.le_refl _)]; simp
  rw [this]
end Go.Proofs.YtdpemmmbkjmplabGreatDoor
namespace Go.Proofs.YtdpemmmbkjmplabGreatDoor
open Go.RowKit

/-- The needed sites of set s below k, as a set: sites without which s is no quorum. -/
def neededTo (zs : List Int) (s : Int) : Nat → Int
  | 0 => 0
  | k + 1 => neededTo zs s k + if bit s k && !enoughB zs (s - 2 ^ k) then 2 ^ k else 0
def neededN (zs : List Int) (s : Int) : Int := if enoughB zs s then neededTo zs s zs.length else 0

theorem neededTo_bd (zs : List Int) (s : Int) : ∀ k, 0 ≤ neededTo zs s k ∧ neededTo zs s k < 2 ^ k
  | 0 => by simp [neededTo]
  | k + 1 => by
    have ih := neededTo_bd zs s k
    have e : (2 : Int) ^ (k + 1) = 2 * 2 ^ k := by rw [Int.pow_succ]; omega
    simp only [neededTo]; rw [e]; split <;> omega
theorem neededTo_skip (zs : List Int) (s : Int) {p : Nat} : ∀ {q : Nat}, p ≤ q → (∀ i, p ≤ i → i < q → bit s i = false) → neededTo zs s q = neededTo zs s p
  | 0, h, _ => by have : p = 0 := by omega
                  rw [this]
  | q + 1, h, hz => by
    rcases Nat.lt_or_ge q p with h' | h'
    · have : p = q + 1 := by omega
      rw [this]
    · simp only [neededTo]
      rw [hz q h' (by omega), neededTo_skip zs s h' (fun i h1 h2 => hz i h1 (by omega))]
      simp
/-- One round of taking the lowest bit away, at every set of at most seven sites and every place. -/
def lowB (s p : Nat) : Bool :=
  let rest : Int := ((s / 2 ^ p * 2 ^ p : Nat) : Int)
  (rest == 0) || (List.range 7).any fun q => decide (p ≤ q) && (bits .and .i64 rest (-rest) == 2 ^ q) && (bits .and .i64 rest (rest - 1) == ((s / 2 ^ (q + 1) * 2 ^ (q + 1) : Nat) : Int)) && (bits .andNot .i64 (s : Int) (2 ^ q) == (s : Int) - 2 ^ q) && bit s q && decide (s / 2 ^ (q + 1) * 2 ^ (q + 1) < s / 2 ^ p * 2 ^ p) && (List.range q).all fun i => decide (i < p) || !bit s i
theorem lowAll : ((List.range 128).all fun s => (List.range 8).all fun p => lowB s p) = true := by decide +kernel
theorem low {s p : Nat} (hs : s < 128) (hp : p < 8) (h0 : ((s / 2 ^ p * 2 ^ p : Nat) : Int) ≠ 0) :
    ∃ q, p ≤ q ∧ q < 7 ∧ bits .and .i64 ((s / 2 ^ p * 2 ^ p : Nat) : Int) (-((s / 2 ^ p * 2 ^ p : Nat) : Int)) = 2 ^ q ∧ bits .and .i64 ((s / 2 ^ p * 2 ^ p : Nat) : Int) (((s / 2 ^ p * 2 ^ p : Nat) : Int) - 1) = ((s / 2 ^ (q + 1) * 2 ^ (q + 1) : Nat) : Int) ∧
      bits .andNot .i64 (s : Int) (2 ^ q) = (s : Int) - 2 ^ q ∧ bit s q = true ∧ s / 2 ^ (q + 1) * 2 ^ (q + 1) < s / 2 ^ p * 2 ^ p ∧ ∀ i, p ≤ i → i < q → bit s i = false := by
  have h := List.all_eq_true.1 (List.all_eq_true.1 lowAll s (List.mem_range.2 hs)) p (List.mem_range.2 hp)
  unfold lowB at h
  rw [Bool.or_eq_true] at h
  rcases h with h | h
  · exact absurd (by simpa using h) h0
  · obtain ⟨q, hq, h⟩ := List.any_eq_true.1 h
    simp only [Bool.and_eq_true, decide_eq_true_eq, beq_iff_eq] at h
    obtain ⟨⟨⟨⟨⟨⟨h1, h2⟩, h3⟩, h4⟩, h5⟩, h7⟩, h6⟩ := h
    refine ⟨q, h1, List.mem_range.1 hq, h2, h3, h4, h5, h7, fun i hi1 hi2 => ?_⟩
    have := List.all_eq_true.1 h6 i (List.mem_range.2 hi2)
    simp at this
    rcases this with h | h
    · omega
    · exact h
theorem bit_pow_le {s : Int} {q : Nat} (h0 : 0 ≤ s) (h : bit s q = true) : 2 ^ q ≤ s := by
  obtain ⟨m, rfl⟩ := Int.eq_ofNat_of_zero_le h0
  unfold bit at h
  rw [Int.toNat_natCast] at h
  have := Nat.ge_two_pow_of_testBit h
  rw [pow_nat]; omega
theorem pow_lt_pow {q n : Nat} (h : (2 : Int) ^ q < 2 ^ n) : q < n := by
  rw [pow_nat, pow_nat] at h
  exact (Nat.pow_lt_pow_iff_right (a := 2) (by decide)).1 (Int.ofNat_lt.1 h)
theorem or_pow {x : Int} {q : Nat} (hq : q < 7) (h0 : 0 ≤ x) (h1 : x < 2 ^ q) : bits .or .i64 x (2 ^ q) = x + 2 ^ q := by
  obtain ⟨m, rfl⟩ := Int.eq_ofNat_of_zero_le h0
  have hp := (pow_le7 (n := q) (by omega)).1
  rw [pow_nat] at h1 hp ⊢
  rw [bits_or_nat m (2 ^ q) (by omega) (by omega)]
  have h2 := Nat.two_pow_add_eq_or_of_lt (i := q) (b := m) (by omega) 1
  rw [Nat.mul_one, Nat.or_comm] at h2
  rw [← h2]; omega
theorem bit_has {s : Int} (k : Nat) (h0 : 0 ≤ s) : (s / 2 ^ k % 2 == 1) = bit s k := by
  obtain ⟨m, rfl⟩ := Int.eq_ofNat_of_zero_le h0
  unfold bit
  rw [Int.toNat_natCast, Nat.testBit_eq_decide_div_mod_eq, Bool.eq_iff_iff]
  have e : ((m : Int) / 2 ^ k) = ((m / 2 ^ k : Nat) : Int) := by simp
  rw [e]
  simp; omega
theorem enoughB_alt (zs : List Int) (s : Int) : decide (tot zs - sumTo zs s zs.length < sumTo zs s zs.length) = enoughB zs s := by
  unfold enoughB; exact decide_eq_decide.2 (by omega)
end Go.Proofs.YtdpemmmbkjmplabGreatDoor
namespace Go.Proofs.YtdpemmmbkjmplabGreatDoor
open Go.RowKit

/-- A lead of the program: its state's text, who has answered, what was told, what it prepared, the greatest promise, and whether there was one. -/
structure PL where
  stt : Nat
  ans : Int
  told : List S3
  prep : Int
  seen : Int
  has : Bool
/-- The texts of a lead's state. -/
def stP (k : Nat) : ByteArray := if k = 0 then ⟨#[97, 115, 107, 105, 110, 103]⟩ else if k = 1 then ⟨#[112, 114, 101, 112, 97, 114, 105, 110, 103]⟩ else if k = 2 then ⟨#[100, 111, 110, 101]⟩ else ⟨#[114, 101, 102, 117, 115, 101, 100]⟩
theorem stP0 : stP 0 = ⟨#[97, 115, 107, 105, 110, 103]⟩ := rfl
theorem stP1 : stP 1 = ⟨#[112, 114, 101, 112, 97, 114, 105, 110, 103]⟩ := rfl
theorem stP2 : stP 2 = ⟨#[100, 111, 110, 101]⟩ := rfl
theorem stP3 : stP 3 = ⟨#[114, 101, 102, 117, 115, 101, 100]⟩ := rfl
/-- Does it wait for this kind? -/
def waitsB (P : PL) (att k : Int) : Bool := (k == 2 && P.stt == 0 && decide (att = 0)) || (k == 4 && P.stt == 0 && decide (0 < att)) || (k == 6 && P.stt == 1)
/-- Does it take this frame? -/
def takesB (n id : Nat) (deal att : Int) (P : PL) (f : F9) : Bool := decide (f.t = id ∧ f.d = deal ∧ f.a = att) && waitsB P att f.k && decide (0 ≤ f.f ∧ f.f < n) && !bit P.ans f.f.toNat
def ansS (a : Int) (i : Nat) : Int := bits .or .i64 a (2 ^ i)
def toldS (L : List S3) (i : Nat) (s : S3) : List S3 := L.set i s
/-- The frame's answer is noted; its promise, too (but a vote's). -/
def noteP (P : PL) (f : F9) : PL := { P with ans := ansS P.ans f.f.toNat }
def seeP (P : PL) (p : Int) : PL := if P.has = false ∨ P.seen < p then { P with seen := p, has := true } else P
/-- What it sends to all: kind and phase; the lead behind it. -/
def decP (P : PL) (p : Int) : PL × Option (Int × Int) := ({ P with stt := 2 }, some (7, p))
def preP (P : PL) (p : Int) : PL × Option (Int × Int) := ({ P with stt := 1, prep := p, ans := 0 }, some (5, p))
def voteP (n : Nat) (P : PL) (y : Bool) : PL × Option (Int × Int) := if y = false then decP P 3 else if P.ans = 2 ^ n - 1 then preP P 4 else (P, none)
def tellP (zs : List Int) (P : PL) (i : Nat) (s : S3) : PL × Option (Int × Int) :=
  if enoughB zs P.ans = false then ({ P with told := toldS P.told i s }, none)
  else if (chooseL (toldS P.told i s)).2 = true then decP { P with told := toldS P.told i s } (chooseL (toldS P.told i s)).1 else preP { P with told := toldS P.told i s } (chooseL (toldS P.told i s)).1
def ackP (zs : List Int) (P : PL) : PL × Option (Int × Int) := if enoughB zs P.ans = false then (P, none) else decP P (afterI P.prep)
def takenP (zs : List Int) (P : PL) (f : F9) : PL × Option (Int × Int) :=
  if f.k = 2 then voteP zs.length (noteP P f) f.y
  else if f.y = false then ({ seeP (noteP P f) f.pr with stt := 3 }, none)
  else if f.k = 4 then tellP zs (seeP (noteP P f) f.pr) f.f.toNat ⟨f.ph, f.pr, f.pa⟩
  else ackP zs (seeP (noteP P f) f.pr)
def phear (zs : List Int) (id : Nat) (deal att : Int) (P : PL) (f : F9) : PL × Option (Int × Int) :=
  if takesB zs.length id deal att P f = true then takenP zs P f else (P, none)
/-- The frames to the first k sites. -/
def toL (id : Nat) (deal kind att ph : Int) : Nat → List F9
  | 0 => []
  | k + 1 => toL id deal kind att ph k ++ [⟨id, k, deal, kind, att, false, ph, 0, 0⟩]
theorem toL_length (id : Nat) (deal kind att ph : Int) : ∀ k, (toL id deal kind att ph k).length = k
  | 0 => rfl
  | k + 1 => by rw [toL, List.length_append, toL_length]; rfl
def outL (id : Nat) (deal att : Int) (n : Nat) : Option (Int × Int) → List F9
  | none => []
  | some x => toL id deal x.1 att x.2 n
theorem outL_le (id : Nat) (deal att : Int) (n : Nat) (x : Option (Int × Int)) : (outL id deal att n x).length ≤ n := by
  cases x with
  | none => exact Nat.zero_le _
  | some y => exact Nat.le_of_eq (toL_length _ _ _ _ _ _)
/-- What stands of every lead: seven states were told; those who answered are sites. -/
structure PW (n : Nat) (P : PL) : Prop where
  len : P.told.length = 7
  lo : 0 ≤ P.ans
  hi : P.ans < 2 ^ n
theorem ansS_bd {n : Nat} {a : Int} {i : Nat} (hn : n ≤ 7) (h0 : 0 ≤ a) (h1 : a < 2 ^ n) (hi : i < n) : 0 ≤ ansS a i ∧ ansS a i < 2 ^ n := by
  have h2 : (2 : Int) ^ i < 2 ^ n := Int.pow_lt_pow_of_lt (by decide) hi
  have h3 : (0 : Int) < 2 ^ i := Int.pow_pos (by decide)
  exact or_lt hn h0 h1 (by omega) h2
theorem seeP_of (P : PL) (p : Int) : (seeP P p).stt = P.stt ∧ (seeP P p).ans = P.ans ∧ (seeP P p).told = P.told ∧ (seeP P p).prep = P.prep := by
  unfold seeP; split <;> exact ⟨rfl, rfl, rfl, rfl⟩
theorem PW.note {n : Nat} {P : PL} {f : F9} (h : PW n P) (hn : n ≤ 7) (h0 : 0 ≤ f.f) (h1 : f.f < n) : PW n (noteP P f) :=
  ⟨h.len, (ansS_bd hn h.lo h.hi (by omega)).1, (ansS_bd hn h.lo h.hi (by omega)).2⟩
theorem PW.see {n : Nat} {P : PL} (h : PW n P) (p : Int) : PW n (seeP P p) := by
  obtain ⟨-, h2, h3, -⟩ := seeP_of P p
  exact ⟨by rw [h3]; exact h.len, by rw [h2]; exact h.lo, by rw [h2]; exact h.hi⟩
theorem PW.dec {n : Nat} {P : PL} (h : PW n P) (p : Int) : PW n (decP P p).1 := ⟨h.len, h.lo, h.hi⟩
theorem PW.pre {n : Nat} {P : PL} (h : PW n P) (p : Int) : PW n (preP P p).1 := ⟨h.len, Int.le_refl _, Int.pow_pos (by decide)⟩
theorem PW.tell {n : Nat} {P : PL} (h : PW n P) (i : Nat) (s : S3) : PW n { P with told := toldS P.told i s } := ⟨by show (P.told.set i s).length = 7; rw [List.length_set]; exact h.len, h.lo, h.hi⟩
theorem PW.taken {zs : List Int} {P : PL} {f : F9} (h : PW zs.length P) (hn : zs.length ≤ 7) (h0 : 0 ≤ f.f) (h1 : f.f < zs.length) : PW zs.length (takenP zs P f).1 := by
  have h2 := h.note (f := f) hn h0 h1
  have h3 := h2.see f.pr
  unfold takenP
  split
  · unfold voteP; split
    · exact h2.dec _
    · split
      · exact h2.pre _
      · exact h2
  · split
    · exact ⟨h3.len, h3.lo, h3.hi⟩
    · split
      · unfold tellP
        split
        · exact h3.tell _ _
        · split
          · exact (h3.tell _ _).dec _
          · exact (h3.tell _ _).pre _
      · unfold ackP
        split
        · exact h3
        · exact h3.dec _
theorem takesB_in {n id : Nat} {deal att : Int} {P : PL} {f : F9} (h : takesB n id deal att P f = true) : (f.t = id ∧ f.d = deal ∧ f.a = att) ∧ waitsB P att f.k = true ∧ (0 ≤ f.f ∧ f.f < n) ∧ bit P.ans f.f.toNat = false := by
  unfold takesB at h
  simp only [Bool.and_eq_true, decide_eq_true_eq, Bool.not_eq_true'] at h
  exact ⟨h.1.1.1, h.1.1.2, h.1.2, h.2⟩
theorem PW.hear {zs : List Int} {id : Nat} {deal att : Int} {P : PL} {f : F9} (h : PW zs.length P) (hn : zs.length ≤ 7) : PW zs.length (phear zs id deal att P f).1 := by
  unfold phear
  split
  · rename_i ht
    obtain ⟨-, -, ⟨h0, h1⟩, -⟩ := takesB_in ht
    exact h.taken hn h0 h1
  · exact h
end Go.Proofs.YtdpemmmbkjmplabGreatDoor
namespace Go.Proofs.YtdpemmmbkjmplabGreatDoor
open Go.RowKit

/-- What has been: who accepted which attempt, an attempt's value (0: none), who refused. -/
structure Gh where
  acc : Nat → Nat → Prop
  val : Nat → Nat
  no : Nat → Prop
/-- A quorum of which all are so. -/
def Qo (zs : List Int) (S : Nat → Prop) : Prop := ∃ q : Int, errS zs q = 0 ∧ enoughB zs q = true ∧ ∀ i, i < zs.length → bit q i = true → S i
theorem Qo.mono {zs : List Int} {S T : Nat → Prop} (h : Qo zs S) (hS : ∀ i, i < zs.length → S i → T i) : Qo zs T := by
  obtain ⟨q, h1, h2, h3⟩ := h
  exact ⟨q, h1, h2, fun i hi hb => hS i hi (h3 i hi hb)⟩
theorem Qo.meet {zs : List Int} {S T : Nat → Prop} (h : Qo zs S) (g : Qo zs T) : ∃ i, i < zs.length ∧ S i ∧ T i := by
  obtain ⟨a, a1, a2, a3⟩ := h
  obtain ⟨b, b1, b2, b3⟩ := g
  have hm := Go.Proofs.YtdpemmmbkjmplabGreatDoor.meet a1 b1 a2 b2
  have ha := lt128 a1
  have hb := lt128 b1
  obtain ⟨-, p1, p2⟩ := errS_zero a1
  obtain ⟨m, rfl⟩ := Int.eq_ofNat_of_zero_le ha.1
  obtain ⟨l, rfl⟩ := Int.eq_ofNat_of_zero_le hb.1
  rw [bits_and_nat m l (by omega) (by omega)] at hm
  have hne : m &&& l ≠ 0 := by
    intro e
    rw [e] at hm
    cases hm
  obtain ⟨k, hk⟩ := Nat.exists_testBit_of_ne_zero hne
  rw [Nat.testBit_and, Bool.and_eq_true] at hk
  rw [pow_nat] at p2
  have hm2 : m < 2 ^ zs.length := by omega
  have hkn : k < zs.length := by
    refine Nat.lt_of_not_le fun hle => ?_
    have h1 : m < 2 ^ k := Nat.lt_of_lt_of_le hm2 (Nat.pow_le_pow_right (by decide) hle)
    rw [Nat.testBit_lt_two_pow h1] at hk
    cases hk.1
  exact ⟨k, hkn, a3 k hkn (by unfold bit; rw [Int.toNat_natCast]; exact hk.1), b3 k hkn (by unfold bit; rw [Int.toNat_natCast]; exact hk.2)⟩
def Dec2 (zs : List Int) (g : Gh) : Prop := ∃ a, g.val a = 4 ∧ Qo zs fun i => g.acc i a
def Dec3 (zs : List Int) (g : Gh) : Prop := (∃ a, g.val a = 5 ∧ Qo zs fun i => g.acc i a) ∨ ∃ i, i < zs.length ∧ g.no i
/-- What stands of the sites' states of a deal. -/
structure Co (zs : List Int) (s : Nat → St) (g : Gh) : Prop where
  av : ∀ i a, g.acc i a → g.val a ≠ 0
  ap : ∀ i a, i < zs.length → g.acc i a → a ≤ (s i).pr
  vi : ∀ a, g.val a = 0 ∨ g.val a = 4 ∨ g.val a = 5
  v0 : g.val 0 ≠ 5
  ow : ∀ a, g.val a ≠ 0 → 0 < a → a ≤ (s (a % zs.length)).pr
  bg : ∀ a, g.val a ≠ 0 → 0 < a → Qo zs fun i => a ≤ (s i).pr
  px : ∀ a b, b < a → g.val a ≠ 0 → g.val b ≠ 0 → g.val a ≠ g.val b → Qo zs fun i => b < (s i).pr ∧ ¬ g.acc i b
  s4 : ∀ i, i < zs.length → ((s i).ph = 4 ∨ (s i).ph = 5) → g.val (s i).at_ = (s i).ph ∧ ∀ b, g.acc i b → b ≤ (s i).at_
  s0 : ∀ i, i < zs.length → ((s i).ph = 0 ∨ (s i).ph = 1) → ∀ b, ¬ g.acc i b
  s2 : ∀ i, i < zs.length → (s i).ph = 2 → Dec2 zs g
  s3 : ∀ i, i < zs.length → (s i).ph = 3 → Dec3 zs g
  al : ∀ a, g.val a = 4 → ∀ i, i < zs.length → (s i).ph ≠ 0
  nv : ∀ i, i < zs.length → g.no i → (s i).ph = 3 ∧ ∀ a, g.val a ≠ 4
theorem Co.split {zs : List Int} {s : Nat → St} {g : Gh} (h : Co zs s g) (h2 : Dec2 zs g) (h3 : Dec3 zs g) : False := by
  obtain ⟨a, ha, hq⟩ := h2
  rcases h3 with ⟨b, hb, hr⟩ | ⟨i, hi, hn⟩
  · rcases Nat.lt_trichotomy a b with hlt | rfl | hlt
    · obtain ⟨i, -, h1, -, h4⟩ := Qo.meet hq (h.px b a hlt (by omega) (by omega) (by omega))
      exact h4 h1
    · omega
    · obtain ⟨i, -, h1, -, h4⟩ := Qo.meet hr (h.px a b hlt (by omega) (by omega) (by omega))
      exact h4 h1
  · exact (h.nv i hi hn).2 a ha
theorem Co.zero {zs : List Int} {s : Nat → St} (hs : ∀ i, i < zs.length → (s i).ph = 0) : Co zs s ⟨fun _ _ => False, fun _ => 0, fun _ => False⟩ where
  av := fun _ _ h => h.elim
  ap := fun _ _ _ h => h.elim
  vi := fun _ => .inl rfl
  v0 := by decide
  ow := fun _ h => (h rfl).elim
  bg := fun _ h => (h rfl).elim
  px := fun _ _ _ h => (h rfl).elim
  s4 := fun i hi h => by have := hs i hi; omega
  s0 := fun _ _ _ _ h => h
  s2 := fun i hi h => by have := hs i hi; omega
  s3 := fun i hi h => by have := hs i hi; omega
  al := fun _ h => by cases h
  nv := fun _ _ h => h.elim
/-- What only grows. -/
structure Gr (zs : List Int) (s : Nat → St) (g : Gh) (s' : Nat → St) (g' : Gh) : Prop where
  pr : ∀ i, (s i).pr ≤ (s' i).pr
  ph : ∀ i, i < zs.length → (s i).ph ≠ 0 → (s' i).ph ≠ 0
  va : ∀ a, g.val a ≠ 0 → g'.val a = g.val a
  ac : ∀ i a, g.acc i a → g'.acc i a
  an : ∀ i a, i < zs.length → g'.acc i a → g.acc i a ∨ (s i).pr ≤ a
  no : ∀ i, g.no i → g'.no i
  nn : ∀ i, i < zs.length → g'.no i → g.no i ∨ (s i).ph = 0
theorem Gr.refl (zs : List Int) (s : Nat → St) (g : Gh) : Gr zs s g s g := ⟨fun _ => Nat.le_refl _, fun _ _ h => h, fun _ _ => rfl, fun _ _ h => h, fun _ _ _ h => .inl h, fun _ h => h, fun _ _ h => .inl h⟩
section
variable {zs : List Int} {s s' : Nat → St} {g g' : Gh}
theorem Dec2.grow (h : Dec2 zs g) (k : Gr zs s g s' g') : Dec2 zs g' := by
  obtain ⟨a, h1, h2⟩ := h
  exact ⟨a, by rw [k.va a (by omega)]; exact h1, h2.mono fun i _ hi => k.ac i a hi⟩
theorem Dec3.grow (h : Dec3 zs g) (k : Gr zs s g s' g') : Dec3 zs g' := by
  rcases h with ⟨a, h1, h2⟩ | ⟨i, h1, h2⟩
  · exact .inl ⟨a, by rw [k.va a (by omega)]; exact h1, h2.mono fun i _ hi => k.ac i a hi⟩
  · exact .inr ⟨i, h1, k.no i h2⟩
/-- What site i told when it promised a. -/
structure Told (zs : List Int) (s : Nat → St) (g : Gh) (i a : Nat) (t : S3) : Prop where
  pr : a ≤ (s i).pr
  a0 : 0 ≤ t.a
  d2 : t.p = 2 → Dec2 zs g
  d3 : t.p = 3 → Dec3 zs g
  va : (t.p = 4 ∨ t.p = 5) → (g.val t.a.toNat : Int) = t.p
  ac : t.p ≠ 2 → t.p ≠ 3 → ∀ b, b < a → g.acc i b → (t.p = 4 ∨ t.p = 5) ∧ (b : Int) ≤ t.a
theorem Told.grow {i a : Nat} {t : S3} (h : Told zs s g i a t) (hi : i < zs.length) (k : Gr zs s g s' g') : Told zs s' g' i a t where
  pr := Nat.le_trans h.pr (k.pr i)
  a0 := h.a0
  d2 := fun e => (h.d2 e).grow k
  d3 := fun e => (h.d3 e).grow k
  va := fun e => by have := h.va e; rw [k.va _ (by omega)]; exact this
  ac := fun e2 e3 b hb hac => by
    rcases k.an i b hi hac with h1 | h1
    · exact h.ac e2 e3 b hb h1
    · have := h.pr; omega
/-- What a frame of the deal says. -/
structure Fr (zs : List Int) (s : Nat → St) (g : Gh) (f : F9) : Prop where
  vy : f.k = 2 → f.y = true → (s f.f.toNat).ph ≠ 0 ∧ ¬ g.no f.f.toNat
  vn : f.k = 2 → f.y = false → Dec3 zs g
  te : f.k = 4 → f.y = true → Told zs s g f.f.toNat f.a.toNat ⟨f.ph, f.pr, f.pa⟩
  pe : f.k = 5 → (f.ph = 4 ∨ f.ph = 5) ∧ (g.val f.a.toNat : Int) = f.ph
  ak : f.k = 6 → f.y = true → g.acc f.f.toNat f.a.toNat
  d2 : f.k = 7 → f.ph = 2 → Dec2 zs g
  d3 : f.k = 7 → f.ph = 3 → Dec3 zs g
theorem Fr.grow {f : F9} (h : Fr zs s g f) (hf : f.f.toNat < zs.length) (k : Gr zs s g s' g') : Fr zs s' g' f where
  vy := fun e y => by
    obtain ⟨h1, h2⟩ := h.vy e y
    refine ⟨k.ph _ hf h1, fun hn => ?_⟩
    rcases k.nn _ hf hn with h3 | h3
    · exact h2 h3
    · exact h1 h3
  vn := fun e y => (h.vn e y).grow k
  te := fun e y => (h.te e y).grow hf k
  pe := fun e => by obtain ⟨h1, h2⟩ := h.pe e; exact ⟨h1, by rw [k.va _ (by omega)]; exact h2⟩
  ak := fun e y => k.ac _ _ (h.ak e y)
  d2 := fun e p => (h.d2 e p).grow k
  d3 := fun e p => (h.d3 e p).grow k
/-- What stands of a lead at site id. -/
structure Le (zs : List Int) (s : Nat → St) (g : Gh) (id : Nat) (att : Int) (P : PL) : Prop where
  a0 : 0 ≤ att
  vo : P.stt = 0 → att = 0 → ∀ i, i < zs.length → bit P.ans i = true → (s i).ph ≠ 0 ∧ ¬ g.no i
  tv : P.stt = 0 → 0 < att → g.val att.toNat = 0
  tt : P.stt = 0 → 0 < att → ∀ i, i < zs.length → bit P.ans i = true → ∃ t, P.told[i]? = some t ∧ Told zs s g i att.toNat t
  t0 : P.stt = 0 → 0 < att → ∀ i t, P.told[i]? = some t → t.p = 0 ∨ (i < zs.length ∧ bit P.ans i = true)
  ow : 0 < att → att.toNat % zs.length = id ∧ att.toNat ≤ (s id).pr
  pv : P.stt = 1 → (P.prep = 4 ∨ P.prep = 5) ∧ (g.val att.toNat : Int) = P.prep
  pa : P.stt = 1 → ∀ i, i < zs.length → bit P.ans i = true → g.acc i att.toNat
theorem Le.grow {id : Nat} {att : Int} {P : PL} (h : Le zs s g id att P) (k : Gr zs s g s' g') (hv : P.stt = 0 → 0 < att → g'.val att.toNat = 0) : Le zs s' g' id att P where
  a0 := h.a0
  vo := fun e e2 i hi hb => by
    obtain ⟨h1, h2⟩ := h.vo e e2 i hi hb
    refine ⟨k.ph _ hi h1, fun hn => ?_⟩
    rcases k.nn _ hi hn with h3 | h3
    · exact h2 h3
    · exact h1 h3
  tv := hv
  tt := fun e e2 i hi hb => by obtain ⟨t, h1, h2⟩ := h.tt e e2 i hi hb; exact ⟨t, h1, h2.grow hi k⟩
  t0 := h.t0
  ow := fun e => ⟨(h.ow e).1, Nat.le_trans (h.ow e).2 (k.pr id)⟩
  pv := fun e => by obtain ⟨h1, h2⟩ := h.pv e; exact ⟨h1, by rw [k.va _ (by omega)]; exact h2⟩
  pa := fun e i hi hb => k.ac _ _ (h.pa e i hi hb)
/-- One site's state is another one. -/
def upd (s : Nat → St) (i : Nat) (t : St) : Nat → St := fun k => if k = i then t else s k
theorem upd_at (s : Nat → St) (i : Nat) (t : St) : upd s i t i = t := if_pos rfl
theorem upd_ne (s : Nat → St) (i : Nat) (t : St) {k : Nat} (h : k ≠ i) : upd s i t k = s k := if_neg h
def ghS (g : Gh) (i : Nat) (A : Nat → Prop) (N : Prop) : Gh := ⟨fun j a => g.acc j a ∨ (j = i ∧ A a), g.val, fun j => g.no j ∨ (j = i ∧ N)⟩
theorem co_site (h : Co zs s g) {i : Nat} (hi : i < zs.length) (t : St) (A : Nat → Prop) (N : Prop) (hpr : (s i).pr ≤ t.pr) (hA : ∀ a, A a → g.val a ≠ 0 ∧ (s i).pr ≤ a ∧ a ≤ t.pr)
    (hN : N → (s i).ph = 0 ∧ t.ph = 3) (hph : (s i).ph ≠ 0 → t.ph ≠ 0) (hfin : (s i).ph = 3 → t.ph = 3)
    (t4 : (t.ph = 4 ∨ t.ph = 5) → g.val t.at_ = t.ph ∧ ∀ b, (g.acc i b ∨ A b) → b ≤ t.at_) (t0 : (t.ph = 0 ∨ t.ph = 1) → ∀ b, ¬ (g.acc i b ∨ A b)) (t2 : t.ph = 2 → Dec2 zs g) (t3 : t.ph = 3 → Dec3 zs g ∨ N) :
    Co zs (upd s i t) (ghS g i A N) ∧ Gr zs s g (upd s i t) (ghS g i A N) := by
  have hupr : ∀ k, (s k).pr ≤ (upd s i t k).pr := fun k => by
    by_cases e : k = i
    · subst e; rw [upd_at]; exact hpr
    · rw [upd_ne _ _ _ e]; exact Nat.le_refl _
  have hG : Gr zs s g (upd s i t) (ghS g i A N) := by
    refine ⟨hupr, fun k hk hp => ?_, fun _ _ => rfl, fun _ _ x => .inl x, fun k a hk x => ?_, fun _ x => .inl x, fun k hk x => ?_⟩
    · by_cases e : k = i
      · subst e; rw [upd_at]; exact hph hp
      · rw [upd_ne _ _ _ e]; exact hp
    · rcases x with x | ⟨rfl, x⟩
      · exact .inl x
      · exact .inr (hA a x).2.1
    · rcases x with x | ⟨rfl, x⟩
      · exact .inl x
      · exact .inr (hN x).1
  refine ⟨?_, hG⟩
  refine ⟨fun k a x => ?_, fun k a hk x => ?_, h.vi, h.v0, fun a ha h0 => Nat.le_trans (h.ow a ha h0) (hupr _), fun a ha h0 => (h.bg a ha h0).mono fun k _ x => Nat.le_trans x (hupr k), fun a b hab ha hb hne => ?_, fun k hk x => ?_, fun k hk x b => ?_, fun k hk x => ?_, fun k hk x => ?_, fun a ha k hk => ?_, fun k hk x => ?_⟩
  · rcases x with x | ⟨-, x⟩
    · exact h.av k a x
    · exact (hA a x).1
  · rcases x with x | ⟨rfl, x⟩
    · exact Nat.le_trans (h.ap k a hk x) (hupr k)
    · rw [upd_at]; exact (hA a x).2.2
  · refine (h.px a b hab ha hb hne).mono fun k _ x => ⟨Nat.lt_of_lt_of_le x.1 (hupr k), ?_⟩
    rintro (y | ⟨rfl, y⟩)
    · exact x.2 y
    · have := (hA b y).2.1; omega
  · by_cases e : k = i
    · subst e
      rw [upd_at] at x ⊢
      refine ⟨(t4 x).1, ?_⟩
      rintro b (y | ⟨-, y⟩)
      · exact (t4 x).2 b (.inl y)
      · exact (t4 x).2 b (.inr y)
    · rw [upd_ne _ _ _ e] at x ⊢
      refine ⟨(h.s4 k hk x).1, ?_⟩
      rintro b (y | ⟨y, -⟩)
      · exact (h.s4 k hk x).2 b y
      · exact (e y).elim
  · by_cases e : k = i
    · subst e
      rw [upd_at] at x
      rintro (y | ⟨-, y⟩)
      · exact t0 x b (.inl y)
      · exact t0 x b (.inr y)
    · rw [upd_ne _ _ _ e] at x
      rintro (y | ⟨y, -⟩)
      · exact h.s0 k hk x b y
      · exact (e y).elim
  · by_cases e : k = i
    · subst e; rw [upd_at] at x; exact (t2 x).grow hG
    · rw [upd_ne _ _ _ e] at x; exact (h.s2 k hk x).grow hG
  · by_cases e : k = i
    · subst e
      rw [upd_at] at x
      rcases t3 x with y | y
      · exact y.grow hG
      · exact .inr ⟨k, hi, .inr ⟨rfl, y⟩⟩
    · rw [upd_ne _ _ _ e] at x; exact (h.s3 k hk x).grow hG
  · exact hG.ph k hk (h.al a ha k hk)
  · by_cases e : k = i
    · subst e
      rcases x with x | ⟨-, x⟩
      · obtain ⟨x1, x2⟩ := h.nv k hk x
        refine ⟨?_, x2⟩
        rw [upd_at]
        exact hfin x1
      · refine ⟨by rw [upd_at]; exact (hN x).2, fun a ha => h.al a ha k hk (hN x).1⟩
    · rcases x with x | ⟨x, -⟩
      · rw [upd_ne _ _ _ e]; exact h.nv k hk x
      · exact (e x).elim
theorem ghS_id (g : Gh) (i : Nat) : ghS g i (fun _ => False) False = g := by
  obtain ⟨a, v, n⟩ := g
  unfold ghS
  simp
/-- The answer's frame. -/
def ansF (id : Nat) (f : F9) (o : HOut) : F9 := ⟨id, f.f, f.d, o.k, f.a, o.yes, o.st.ph, o.st.pr, o.st.at_⟩
theorem same_site (s : Nat → St) (i : Nat) : upd s i (s i) = s := by
  funext k
  unfold upd
  split
  · rename_i e; rw [e]
  · rfl
/-- A site hears a frame. -/
theorem hear_co (h : Co zs s g) {i : Nat} (hi : i < zs.length) (hg : (s i).good) (ref : Bool) (f : F9) (hf : Fr zs s g f) (h5 : 0 ≤ f.ph) :
    ∃ g', Co zs (upd s i (hearL (s i) ref f.k.toNat f.a.toNat f.ph.toNat).st) g' ∧ Gr zs s g (upd s i (hearL (s i) ref f.k.toNat f.a.toNat f.ph.toNat).st) g' ∧ g'.val = g.val ∧
      ((hearL (s i) ref f.k.toNat f.a.toNat f.ph.toNat).k ≠ 0 → Fr zs (upd s i (hearL (s i) ref f.k.toNat f.a.toNat f.ph.toNat).st) g' (ansF i f (hearL (s i) ref f.k.toNat f.a.toNat f.ph.toNat))) := by
  have hgood := hg
  obtain ⟨g1, g2, g3⟩ := hg
  have same : ∀ o : HOut, o.st = s i → (o.k ≠ 0 → Fr zs s g (ansF i f o)) → ∃ g', Co zs (upd s i o.st) g' ∧ Gr zs s g (upd s i o.st) g' ∧ g'.val = g.val ∧ (o.k ≠ 0 → Fr zs (upd s i o.st) g' (ansF i f o)) := by
    intro o e hFr
    rw [e, same_site s i]
    exact ⟨g, h, Gr.refl _ _ _, rfl, hFr⟩
  unfold hearL
  split
  · -- a vote
    unfold askP
    by_cases e0 : (s i).ph = 0
    · rw [if_pos e0]
      cases ref with
      | true =>
        rw [if_pos rfl]
        have hc := co_site h hi ⟨3, (s i).pr, (s i).at_⟩ (fun _ => False) True (Nat.le_refl _) (fun _ x => x.elim) (fun _ => ⟨e0, rfl⟩) (fun x => absurd e0 x) (fun x => rfl) (fun x => by simp at x) (fun x => by simp at x) (fun x => by simp at x) (fun _ => .inr trivial)
        refine ⟨_, hc.1, hc.2, rfl, fun _ => ⟨fun _ y => (by simp [ansF] at y), fun _ _ => .inr ⟨i, hi, .inr ⟨rfl, trivial⟩⟩, fun k => (by simp [ansF] at k), fun k => (by simp [ansF] at k), fun k => (by simp [ansF] at k), fun k => (by simp [ansF] at k), fun k => (by simp [ansF] at k)⟩⟩
      | false =>
        rw [if_neg (by decide)]
        have hc := co_site h hi ⟨1, (s i).pr, (s i).at_⟩ (fun _ => False) False (Nat.le_refl _) (fun _ x => x.elim) (fun x => x.elim) (fun x => absurd e0 x) (fun x => by omega) (fun x => by simp at x) (fun _ b x => h.s0 i hi (.inl e0) b (x.elim id False.elim)) (fun x => by simp at x) (fun x => by simp at x)
        rw [ghS_id] at hc
        refine ⟨_, hc.1, hc.2, rfl, fun _ => ⟨fun _ _ => ⟨?_, ?_⟩, fun _ y => (by simp [ansF] at y), fun k => (by simp [ansF] at k), fun k => (by simp [ansF] at k), fun k => (by simp [ansF] at k), fun k => (by simp [ansF] at k), fun k => (by simp [ansF] at k)⟩⟩
        · show (upd s i _ ((i : Int).toNat)).ph ≠ 0
          rw [Int.toNat_natCast, upd_at]; exact Nat.one_ne_zero
        · show ¬ g.no ((i : Int).toNat)
          rw [Int.toNat_natCast]
          intro hn
          have := (h.nv i hi hn).1
          omega
    · rw [if_neg e0]
      refine same ⟨⟨(s i).ph, (s i).pr, (s i).at_⟩, 2, decide ((s i).ph ≠ 3)⟩ rfl fun _ => ⟨fun _ y => ⟨?_, ?_⟩, fun _ y => ?_, fun k => (by simp [ansF] at k), fun k => (by simp [ansF] at k), fun k => (by simp [ansF] at k), fun k => (by simp [ansF] at k), fun k => (by simp [ansF] at k)⟩
      · show (s ((i : Int).toNat)).ph ≠ 0
        rw [Int.toNat_natCast]; exact e0
      · show ¬ g.no ((i : Int).toNat)
        rw [Int.toNat_natCast]
        intro hn
        have h1 := (h.nv i hi hn).1
        have h2 : decide ((s i).ph ≠ 3) = true := y
        exact of_decide_eq_true h2 h1
      · have h2 : decide ((s i).ph ≠ 3) = false := y
        have h3 := of_decide_eq_false h2
        exact h.s3 i hi (by omega)
  · split
    · -- a promise
      split
      · rename_i hlt
        have hc := co_site h hi ⟨(s i).ph, f.a.toNat, (s i).at_⟩ (fun _ => False) False (Nat.le_of_lt hlt) (fun _ x => x.elim) (fun x => x.elim) (fun x => x) (fun x => x) (fun x => ⟨(h.s4 i hi x).1, fun b y => (h.s4 i hi x).2 b (y.elim id False.elim)⟩) (fun x b y => h.s0 i hi x b (y.elim id False.elim)) (fun x => h.s2 i hi x) (fun x => .inl (h.s3 i hi x))
        rw [ghS_id] at hc
        refine ⟨_, hc.1, hc.2, rfl, fun _ => ⟨fun k => (by simp [ansF] at k), fun k => (by simp [ansF] at k), fun _ _ => ?_, fun k => (by simp [ansF] at k), fun k => (by simp [ansF] at k), fun k => (by simp [ansF] at k), fun k => (by simp [ansF] at k)⟩⟩
        show Told zs (upd s i ⟨(s i).ph, f.a.toNat, (s i).at_⟩) g ((i : Int).toNat) f.a.toNat ⟨((s i).ph : Int), (f.a.toNat : Int), ((s i).at_ : Int)⟩
        rw [Int.toNat_natCast]
        refine ⟨by rw [upd_at]; exact Nat.le_refl _, Int.natCast_nonneg _, fun e => h.s2 i hi (by simp only at e; omega), fun e => h.s3 i hi (by simp only at e; omega), fun e => ?_, fun e2 e3 b hb hac => ?_⟩
        · have e' : (s i).ph = 4 ∨ (s i).ph = 5 := by simp only at e; omega
          simp only [Int.toNat_natCast]
          rw [(h.s4 i hi e').1]
        · simp only at e2 e3
          have hnot : ¬ ((s i).ph = 0 ∨ (s i).ph = 1) := fun x => h.s0 i hi x b hac
          have e' : (s i).ph = 4 ∨ (s i).ph = 5 := by omega
          refine ⟨by simp only; omega, ?_⟩
          have := (h.s4 i hi e').2 b hac
          simp only
          omega
      · exact same ⟨s i, 4, false⟩ rfl fun _ => ⟨fun k => (by simp [ansF] at k), fun k => (by simp [ansF] at k), fun _ y => (by simp [ansF] at y), fun k => (by simp [ansF] at k), fun k => (by simp [ansF] at k), fun k => (by simp [ansF] at k), fun k => (by simp [ansF] at k)⟩
    · split
      · rename_i hk
        split
        · rename_i hp
          split
          · rename_i hc
            obtain ⟨hpr, hf2⟩ := hc
            have hf3 := of_decide_eq_false hf2
            obtain ⟨-, hv⟩ := hf.pe (by omega)
            have hv2 : g.val f.a.toNat = f.ph.toNat := by omega
            have hco := co_site h hi ⟨f.ph.toNat, f.a.toNat, f.a.toNat⟩ (fun a => a = f.a.toNat) False hpr (fun a x => by subst x; exact ⟨by omega, hpr, Nat.le_refl _⟩) (fun x => x.elim) (fun _ => by show f.ph.toNat ≠ 0; omega) (fun x => by omega)
              (fun _ => ⟨hv2, fun b y => by
                rcases y with y | y
                · exact Nat.le_trans (h.ap i b hi y) hpr
                · exact Nat.le_of_eq y⟩) (fun x => by simp only at x; omega) (fun x => by simp only at x; omega) (fun x => by simp only at x; omega)
            refine ⟨_, hco.1, hco.2, rfl, fun _ => ⟨fun k => (by simp [ansF] at k), fun k => (by simp [ansF] at k), fun k => (by simp [ansF] at k), fun k => (by simp [ansF] at k), fun _ _ => ?_, fun k => (by simp [ansF] at k), fun k => (by simp [ansF] at k)⟩⟩
            show g.acc ((i : Int).toNat) f.a.toNat ∨ ((i : Int).toNat = i ∧ f.a.toNat = f.a.toNat)
            exact .inr ⟨Int.toNat_natCast _, rfl⟩
          · exact same ⟨s i, 6, false⟩ rfl fun _ => ⟨fun k => (by simp [ansF] at k), fun k => (by simp [ansF] at k), fun k => (by simp [ansF] at k), fun k => (by simp [ansF] at k), fun _ y => (by simp [ansF] at y), fun k => (by simp [ansF] at k), fun k => (by simp [ansF] at k)⟩
        · exact same ⟨s i, 0, false⟩ rfl fun e => absurd rfl e
      · split
        · rename_i hk
          split
          · rename_i hc
            have e1 := of_decide_eq_true hc.1
            have e2 := of_decide_eq_false hc.2
            have hco := co_site h hi ⟨f.ph.toNat, (s i).pr, (s i).at_⟩ (fun _ => False) False (Nat.le_refl _) (fun _ x => x.elim) (fun x => x.elim) (fun _ => by show f.ph.toNat ≠ 0; omega) (fun x => by omega) (fun x => by simp only at x; omega) (fun x => by simp only at x; omega) (fun x => hf.d2 (by omega) (by simp only at x; omega)) (fun x => .inl (hf.d3 (by omega) (by simp only at x; omega)))
            rw [ghS_id] at hco
            exact ⟨_, hco.1, hco.2, rfl, fun e => absurd rfl e⟩
          · exact same ⟨s i, 0, false⟩ rfl fun e => absurd rfl e
        · exact same ⟨s i, 0, false⟩ rfl fun e => absurd rfl e
end
end Go.Proofs.YtdpemmmbkjmplabGreatDoor
