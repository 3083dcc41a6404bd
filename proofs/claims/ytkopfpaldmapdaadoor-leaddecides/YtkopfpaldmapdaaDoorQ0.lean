/-
  PLAIN: the program's lead; what it makes of a frame.
-/
import Derived.Test.YtkopfpaldmapdaaDoorTA
import Derived.Test.YtkopfpaldmapdaaDoorL1
import Derived.Test.YtkopfpaldmapdaaDoorPlain4
namespace Go.Proofs.YtkopfpaldmapdaaDoor
open Go.RowKit

/-- A lead of the program: its state's text, who has answered, what was told, what it prepared, the greatest promise, and whether there was one. -/
structure PL where
  stt : Nat
  ans : Int
  told : List S3
  prep : Int
  seen : Int
  has : Bool
/-- The texts of a lead's state. -/
def stP (k : Nat) : ByteArray := if k = 0 then ⟨#[97, 115, 107, 105, 110, 103]⟩ else if k = 1 then ⟨#[112, 114, 101, 112, 97, 114, 105, 110, 103]⟩ else if k = 2 then ⟨#[100, 111, 110, 101]⟩ else ⟨#[114, 101, 102, 117, 115, 101, 100]⟩
theorem stP0 : stP 0 = ⟨#[97, 115, 107, 105, 110, 103]⟩ := rfl
theorem stP1 : stP 1 = ⟨#[112, 114, 101, 112, 97, 114, 105, 110, 103]⟩ := rfl
theorem stP2 : stP 2 = ⟨#[100, 111, 110, 101]⟩ := rfl
theorem stP3 : stP 3 = ⟨#[114, 101, 102, 117, 115, 101, 100]⟩ := rfl
/-- Does it wait for this kind? -/
def waitsB (P : PL) (att k : Int) : Bool := (k == 2 && P.stt == 0 && decide (att = 0)) || (k == 4 && P.stt == 0 && decide (0 < att)) || (k == 6 && P.stt == 1)
/-- Does it take this frame? -/
def takesB (n id : Nat) (deal att : Int) (P : PL) (f : F9) : Bool := decide (f.t = id ∧ f.d = deal ∧ f.a = att) && waitsB P att f.k && decide (0 ≤ f.f ∧ f.f < n) && !bit P.ans f.f.toNat
def ansS (a : Int) (i : Nat) : Int := bits .or .i64 a (2 ^ i)
def toldS (L : List S3) (i : Nat) (s : S3) : List S3 := L.set i s
/-- The frame's answer is noted; its promise, too (but a vote's). -/
def noteP (P : PL) (f : F9) : PL := { P with ans := ansS P.ans f.f.toNat }
def seeP (P : PL) (p : Int) : PL := if P.has = false ∨ P.seen < p then { P with seen := p, has := true } else P
/-- What it sends to all: kind and phase; the lead behind it. -/
def decP (P : PL) (p : Int) : PL × Option (Int × Int) := ({ P with stt := 2 }, some (7, p))
def preP (P : PL) (p : Int) : PL × Option (Int × Int) := ({ P with stt := 1, prep := p, ans := 0 }, some (5, p))
def voteP (n : Nat) (P : PL) (y : Bool) : PL × Option (Int × Int) := if y = false then decP P 3 else if P.ans = 2 ^ n - 1 then preP P 4 else (P, none)
def tellP (zs : List Int) (P : PL) (i : Nat) (s : S3) : PL × Option (Int × Int) :=
  if enoughB zs P.ans = false then ({ P with told := toldS P.told i s }, none)
  else if (chooseL (toldS P.told i s)).2 = true then decP { P with told := toldS P.told i s } (chooseL (toldS P.told i s)).1 else preP { P with told := toldS P.told i s } (chooseL (toldS P.told i s)).1
def ackP (zs : List Int) (P : PL) : PL × Option (Int × Int) := if enoughB zs P.ans = false then (P, none) else decP P (afterI P.prep)
def takenP (zs : List Int) (P : PL) (f : F9) : PL × Option (Int × Int) :=
  if f.k = 2 then voteP zs.length (noteP P f) f.y
  else if f.y = false then ({ seeP (noteP P f) f.pr with stt := 3 }, none)
  else if f.k = 4 then tellP zs (seeP (noteP P f) f.pr) f.f.toNat ⟨f.ph, f.pr, f.pa⟩
  else ackP zs (seeP (noteP P f) f.pr)
def phear (zs : List Int) (id : Nat) (deal att : Int) (P : PL) (f : F9) : PL × Option (Int × Int) :=
  if takesB zs.length id deal att P f = true then takenP zs P f else (P, none)
/-- The frames to the first k sites. -/
def toL (id : Nat) (deal kind att ph : Int) : Nat → List F9
  | 0 => []
  | k + 1 => toL id deal kind att ph k ++ [⟨id, k, deal, kind, att, false, ph, 0, 0⟩]
theorem toL_length (id : Nat) (deal kind att ph : Int) : ∀ k, (toL id deal kind att ph k).length = k
  | 0 => rfl
  | k + 1 => by rw [toL, List.length_append, toL_length]; rfl
def outL (id : Nat) (deal att : Int) (n : Nat) : Option (Int × Int) → List F9
  | none => []
  | some x => toL id deal x.1 att x.2 n
theorem outL_le (id : Nat) (deal att : Int) (n : Nat) (x : Option (Int × Int)) : (outL id deal att n x).length ≤ n := by
  cases x with
  | none => exact Nat.zero_le _
  | some y => exact Nat.le_of_eq (toL_length _ _ _ _ _ _)
/-- What stands of every lead: seven states were told; those who answered are sites. -/
structure PW (n : Nat) (P : PL) : Prop where
  len : P.told.length = 7
  lo : 0 ≤ P.ans
  hi : P.ans < 2 ^ n
theorem ansS_bd {n : Nat} {a : Int} {i : Nat} (hn : n ≤ 7) (h0 : 0 ≤ a) (h1 : a < 2 ^ n) (hi : i < n) : 0 ≤ ansS a i ∧ ansS a i < 2 ^ n := by
  have h2 : (2 : Int) ^ i < 2 ^ n := Int.pow_lt_pow_of_lt (by decide) hi
  have h3 : (0 : Int) < 2 ^ i := Int.pow_pos (by decide)
  exact or_lt hn h0 h1 (by omega) h2
theorem seeP_of (P : PL) (p : Int) : (seeP P p).stt = P.stt ∧ (seeP P p).ans = P.ans ∧ (seeP P p).told = P.told ∧ (seeP P p).prep = P.prep := by
  unfold seeP; split <;> exact ⟨rfl, rfl, rfl, rfl⟩
theorem PW.note {n : Nat} {P : PL} {f : F9} (h : PW n P) (hn : n ≤ 7) (h0 : 0 ≤ f.f) (h1 : f.f < n) : PW n (noteP P f) :=
  ⟨h.len, (ansS_bd hn h.lo h.hi (by omega)).1, (ansS_bd hn h.lo h.hi (by omega)).2⟩
theorem PW.see {n : Nat} {P : PL} (h : PW n P) (p : Int) : PW n (seeP P p) := by
  obtain ⟨-, h2, h3, -⟩ := seeP_of P p
  exact ⟨by rw [h3]; exact h.len, by rw [h2]; exact h.lo, by rw [h2]; exact h.hi⟩
theorem PW.dec {n : Nat} {P : PL} (h : PW n P) (p : Int) : PW n (decP P p).1 := ⟨h.len, h.lo, h.hi⟩
theorem PW.pre {n : Nat} {P : PL} (h : PW n P) (p : Int) : PW n (preP P p).1 := ⟨h.len, Int.le_refl _, Int.pow_pos (by decide)⟩
theorem PW.tell {n : Nat} {P : PL} (h : PW n P) (i : Nat) (s : S3) : PW n { P with told := toldS P.told i s } := ⟨by show (P.told.set i s).length = 7; rw [List.length_set]; exact h.len, h.lo, h.hi⟩
theorem PW.taken {zs : List Int} {P : PL} {f : F9} (h : PW zs.length P) (hn : zs.length ≤ 7) (h0 : 0 ≤ f.f) (h1 : f.f < zs.length) : PW zs.length (takenP zs P f).1 := by
  have h2 := h.note (f := f) hn h0 h1
  have h3 := h2.see f.pr
  unfold takenP
  split
  · unfold voteP; split
    · exact h2.dec _
    · split
      · exact h2.pre _
      · exact h2
  · split
    · exact ⟨h3.len, h3.lo, h3.hi⟩
    · split
      · unfold tellP
        split
        · exact h3.tell _ _
        · split
          · exact (h3.tell _ _).dec _
          · exact (h3.tell _ _).pre _
      · unfold ackP
        split
        · exact h3
        · exact h3.dec _
theorem takesB_in {n id : Nat} {deal att : Int} {P : PL} {f : F9} (h : takesB n id deal att P f = true) : (f.t = id ∧ f.d = deal ∧ f.a = att) ∧ waitsB P att f.k = true ∧ (0 ≤ f.f ∧ f.f < n) ∧ bit P.ans f.f.toNat = false := by
  unfold takesB at h
  simp only [Bool.and_eq_true, decide_eq_true_eq, Bool.not_eq_true'] at h
  exact ⟨h.1.1.1, h.1.1.2, h.1.2, h.2⟩
theorem PW.hear {zs : List Int} {id : Nat} {deal att : Int} {P : PL} {f : F9} (h : PW zs.length P) (hn : zs.length ≤ 7) : PW zs.length (phear zs id deal att P f).1 := by
  unfold phear
  split
  · rename_i ht
    obtain ⟨-, -, ⟨h0, h1⟩, -⟩ := takesB_in ht
    exact h.taken hn h0 h1
  · exact h
end Go.Proofs.YtkopfpaldmapdaaDoor
