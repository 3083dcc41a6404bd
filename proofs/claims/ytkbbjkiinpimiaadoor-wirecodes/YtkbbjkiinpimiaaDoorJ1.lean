/-
  PLAIN MATHEMATICS of a journal's slots: what a write leaves of each; which state a deal has when a Put was cut, and when it was done.
-/
import Derived.Test.YtkbbjkiinpimiaaDoorJ0
namespace Go.Proofs.YtkbbjkiinpimiaaDoor

/-- S laid over L from place a on. -/
def putL (L : List UInt8) (a : Nat) (S : List UInt8) : List UInt8 := L.take a ++ S ++ L.drop (a + S.length)
theorem putL_length {L S : List UInt8} {a : Nat} (h : a + S.length ≤ L.length) : (putL L a S).length = L.length := by
  simp [putL]; omega
theorem putL_nil (L : List UInt8) (a : Nat) : putL L a [] = L := by simp [putL]
theorem putL_get {L S : List UInt8} {a : Nat} (h : a + S.length ≤ L.length) (j : Nat) : (putL L a S)[j]? = if a ≤ j ∧ j < a + S.length then S[j - a]? else L[j]? := by
  unfold putL
  have e : min a L.length = a := by omega
  simp only [List.getElem?_append, List.length_append, List.length_take, List.getElem?_take, List.getElem?_drop, e]
  rcases Nat.lt_or_ge j a with h1 | h1
  · rw [if_pos (by omega), if_pos h1, if_pos h1, if_neg (by omega)]
  · rcases Nat.lt_or_ge j (a + S.length) with h2 | h2
    · rw [if_pos h2, if_neg (by omega), if_pos ⟨h1, h2⟩]
    · rw [if_neg (by omega), if_neg (by omega)]
      congr 1
      omega
theorem putB_putL {B s : ByteArray} {a k : Nat} (hk : k ≤ s.size) : (putB B a s k).data.toList = putL B.data.toList a (s.data.toList.take k) := by
  rw [putB_list]
  unfold putL
  rw [size_list] at hk
  rw [List.length_take, Nat.min_eq_left hk]

/-- The slot number k. -/
def slotL (L : List UInt8) (k : Nat) : List UInt8 := (L.drop (18 * k)).take 18
theorem slotL_get (L : List UInt8) (k j : Nat) : (slotL L k)[j]? = if j < 18 then L[18 * k + j]? else none := by
  unfold slotL
  rw [List.getElem?_take, List.getElem?_drop]
theorem slotL_length {L : List UInt8} {k : Nat} (h : 18 * (k + 1) ≤ L.length) : (slotL L k).length = 18 := by
  simp [slotL]; omega
/-- One deal's number and state. -/
def dealL (L : List UInt8) (d : Nat) : Nat × St :=
  if (heldL (2 * d) (slotL L (2 * d))).1 < (heldL (2 * d + 1) (slotL L (2 * d + 1))).1 then heldL (2 * d + 1) (slotL L (2 * d + 1)) else heldL (2 * d) (slotL L (2 * d))

/-- Slot k alone has turned. -/
structure Only (L : List UInt8) (k : Nat) (L' : List UInt8) : Prop where
  len : L'.length = L.length
  other : ∀ j, j ≠ k → slotL L' j = slotL L j
theorem Only.refl (L : List UInt8) (k : Nat) : Only L k L := ⟨rfl, fun _ _ => rfl⟩
theorem Only.trans {L L' L'' : List UInt8} {k : Nat} (h : Only L k L') (g : Only L' k L'') : Only L k L'' := ⟨g.len.trans h.len, fun j hj => (g.other j hj).trans (h.other j hj)⟩
theorem only_put {L S : List UInt8} {k i : Nat} (hk : 18 * (k + 1) ≤ L.length) (hi : i + S.length ≤ 18) : Only L k (putL L (18 * k + i) S) := by
  refine ⟨putL_length (by omega), fun j hj => ?_⟩
  apply List.ext_getElem?
  intro m
  rw [slotL_get, slotL_get]
  split
  · rw [putL_get (by omega), if_neg (by omega)]
  · rfl
/-- What a write within slot k makes of it. -/
theorem slot_put {L S : List UInt8} {k i : Nat} (hk : 18 * (k + 1) ≤ L.length) (hi : i + S.length ≤ 18) : slotL (putL L (18 * k + i) S) k = putL (slotL L k) i S := by
  apply List.ext_getElem?
  intro m
  rw [slotL_get, putL_get (by omega), putL_get (by rw [slotL_length hk]; omega), slotL_get]
  by_cases h : m < 18
  · rw [if_pos h, if_pos h]
    by_cases g : i ≤ m ∧ m < i + S.length
    · rw [if_pos (by omega), if_pos g]
      congr 1
      omega
    · rw [if_neg (by omega), if_neg g]
  · rw [if_neg h, if_neg h, if_neg (by omega)]

/-- Behind a Put that was cut: slot k alone has turned, if at all, and then its last byte is not 165. -/
def Torn (L : List UInt8) (k : Nat) (L' : List UInt8) : Prop := Only L k L' ∧ (slotL L' k = slotL L k ∨ ∃ b : UInt8, b ≠ 165 ∧ (slotL L' k)[17]? = some b)
/-- Behind a Put that was done. -/
def Done (L : List UInt8) (k n : Nat) (s : St) (L' : List UInt8) : Prop := Only L k L' ∧ slotL L' k = bodyL n s ++ [165]
/-- Which slot the next state of a deal goes into. -/
def nextK (d m : Nat) : Nat := 2 * d + (m + 1) % 2
theorem last_of_17 {t : List UInt8} {b : UInt8} (hl : t.length = 18) (h : t[17]? = some b) : t.getLast? = some b := by rw [List.getLast?_eq_getElem?, hl]; exact h
theorem deal_other {L L' : List UInt8} {d m e : Nat} (h : Only L (nextK d m) L') (he : e ≠ d) : dealL L' e = dealL L e := by
  unfold nextK at h
  unfold dealL
  rw [h.other (2 * e) (by omega), h.other (2 * e + 1) (by omega)]
theorem deal_torn {L L' : List UInt8} {d : Nat} (hL : 36 * (d + 1) ≤ L.length) (h : Torn L (nextK d (dealL L d).1) L') : dealL L' d = dealL L d := by
  obtain ⟨ho, hs⟩ := h
  rcases hs with hs | ⟨b, hb, hg⟩
  · have all : ∀ j, slotL L' j = slotL L j := fun j => by
      by_cases hj : j = nextK d (dealL L d).1
      · rw [hj]; exact hs
      · exact ho.other j hj
    unfold dealL
    rw [all, all]
  · have hk : 18 * (nextK d (dealL L d).1 + 1) ≤ L'.length := by rw [ho.len]; unfold nextK; omega
    have ht := fun k => heldL_torn k _ b (last_of_17 (slotL_length hk) hg) hb
    have pa := heldL_parity (2 * d) (slotL L (2 * d))
    have pb := heldL_parity (2 * d + 1) (slotL L (2 * d + 1))
    have za := heldL_zero (2 * d) (slotL L (2 * d))
    have zb := heldL_zero (2 * d + 1) (slotL L (2 * d + 1))
    unfold nextK at ho ht
    unfold dealL at ho ht ⊢
    by_cases c : (heldL (2 * d) (slotL L (2 * d))).1 < (heldL (2 * d + 1) (slotL L (2 * d + 1))).1
    · rw [if_pos c] at ho ht ⊢
      have p := pb (by omega)
      have e : ((heldL (2 * d + 1) (slotL L (2 * d + 1))).1 + 1) % 2 = 0 := by omega
      rw [e, Nat.add_zero] at ho ht
      rw [ho.other (2 * d + 1) (by omega), ht (2 * d), if_pos (by show 0 < _; omega)]
    · rw [if_neg c] at ho ht ⊢
      by_cases z : (heldL (2 * d) (slotL L (2 * d))).1 = 0
      · have e : ((heldL (2 * d) (slotL L (2 * d))).1 + 1) % 2 = 1 := by omega
        rw [e] at ho ht
        rw [ho.other (2 * d) (by omega), ht (2 * d + 1), if_neg (by show ¬ _ < 0; omega)]
      · have p := pa z
        have e : ((heldL (2 * d) (slotL L (2 * d))).1 + 1) % 2 = 1 := by omega
        rw [e] at ho ht
        rw [ho.other (2 * d) (by omega), ht (2 * d + 1), if_neg (by show ¬ _ < 0; omega)]
theorem deal_done {L L' : List UInt8} {d : Nat} {s : St} (hn : (dealL L d).1 + 1 < 4294967296) (hs : s.fits) (h : Done L (nextK d (dealL L d).1) ((dealL L d).1 + 1) s L') : dealL L' d = ((dealL L d).1 + 1, s) := by
  obtain ⟨ho, hb⟩ := h
  have le : (heldL (2 * d) (slotL L (2 * d))).1 ≤ (dealL L d).1 ∧ (heldL (2 * d + 1) (slotL L (2 * d + 1))).1 ≤ (dealL L d).1 := by
    unfold dealL; split <;> omega
  have hh := fun k (hk : ((dealL L d).1 + 1) % 2 = k % 2) => heldL_body k ((dealL L d).1 + 1) s (by omega) hn hk hs
  generalize dealL L d = m at *
  unfold nextK at ho hb
  unfold dealL
  rcases Nat.mod_two_eq_zero_or_one (m.1 + 1) with e | e
  · rw [e, Nat.add_zero] at ho hb
    rw [ho.other (2 * d + 1) (by omega), hb, hh (2 * d) (by omega), if_neg (by show ¬ m.1 + 1 < _; omega)]
  · rw [e] at ho hb
    rw [ho.other (2 * d) (by omega), hb, hh (2 * d + 1) (by omega), if_pos (by show _ < m.1 + 1; omega)]

/-- A write, by its error's number: done; or cut, ahead of its end. -/
def Wr (L : List UInt8) (a : Nat) (S : List UInt8) (L' : List UInt8) (c : Nat) : Prop := (c = 0 ∧ L' = putL L a S) ∨ (c = 6 ∧ ∃ t, t < S.length ∧ L' = putL L a (S.take t))
/-- Slot k with its last byte 0. -/
def Zeroed (L : List UInt8) (k : Nat) (L' : List UInt8) : Prop := Only L k L' ∧ (slotL L' k)[17]? = some 0
theorem Zeroed.torn {L L' : List UInt8} {k : Nat} (h : Zeroed L k L') : Torn L k L' := ⟨h.1, .inr ⟨0, by decide, h.2⟩⟩
theorem zero_skip {L : List UInt8} {k : Nat} (h : L[18 * k + 17]? = some 0) : Zeroed L k L := ⟨Only.refl _ _, by rw [slotL_get]; exact h⟩
theorem zero_wr {L L' : List UInt8} {k c : Nat} (hk : 18 * (k + 1) ≤ L.length) (h : Wr L (18 * k + 17) [0] L' c) : (c = 0 ∧ Zeroed L k L') ∨ (c = 6 ∧ Torn L k L') := by
  rcases h with ⟨rfl, rfl⟩ | ⟨rfl, t, ht, rfl⟩
  · refine .inl ⟨rfl, only_put hk (by simp), ?_⟩
    rw [slot_put hk (by simp), putL_get (by rw [slotL_length hk]; simp)]
    rfl
  · obtain rfl : t = 0 := by simpa using ht
    rw [List.take_zero, putL_nil]
    exact .inr ⟨rfl, Only.refl _ _, .inl rfl⟩
/-- Slot k with the seventeen bytes, its last byte 0. -/
def Bodied (L : List UInt8) (k n : Nat) (s : St) (L' : List UInt8) : Prop := Only L k L' ∧ slotL L' k = bodyL n s ++ [0]
theorem Bodied.torn {L L' : List UInt8} {k n : Nat} {s : St} (h : Bodied L k n s L') : Torn L k L' := ⟨h.1, .inr ⟨0, by decide, by rw [h.2, List.getElem?_append_right (by rw [bodyL_length]; omega), bodyL_length]; rfl⟩⟩
theorem body_wr {L L0 L' : List UInt8} {k n c : Nat} {s : St} (hk : 18 * (k + 1) ≤ L.length) (h0 : Zeroed L k L0) (h : Wr L0 (18 * k) (bodyL n s) L' c) : (c = 0 ∧ Bodied L k n s L') ∨ (c = 6 ∧ Torn L k L') := by
  have hk0 : 18 * (k + 1) ≤ L0.length := by rw [h0.1.len]; exact hk
  have hb := bodyL_length n s
  rcases h with ⟨rfl, rfl⟩ | ⟨rfl, t, ht, rfl⟩
  · refine .inl ⟨rfl, h0.1.trans (only_put (i := 0) hk0 (by omega)), ?_⟩
    have e := slot_put (S := bodyL n s) (i := 0) hk0 (by omega)
    rw [Nat.add_zero] at e
    rw [e]
    apply List.ext_getElem?
    intro m
    rw [putL_get (by rw [slotL_length hk0]; omega), List.getElem?_append, hb]
    by_cases g : m < 17
    · rw [if_pos (by omega), if_pos g, Nat.sub_zero]
    · rw [if_neg (by omega), if_neg g]
      by_cases g2 : m = 17
      · subst g2; rw [h0.2]; rfl
      · rw [slotL_get, if_neg (by omega), List.getElem?_eq_none (by simp; omega)]
  · refine .inr ⟨rfl, h0.1.trans (only_put (i := 0) hk0 (by simp; omega)), .inr ⟨0, by decide, ?_⟩⟩
    have e := slot_put (S := (bodyL n s).take t) (i := 0) hk0 (by simp; omega)
    rw [Nat.add_zero] at e
    rw [e, putL_get (by rw [slotL_length hk0]; simp; omega), if_neg (by simp; omega)]
    exact h0.2
theorem last_wr {L L1 L' : List UInt8} {k n c : Nat} {s : St} (hk : 18 * (k + 1) ≤ L.length) (h1 : Bodied L k n s L1) (h : Wr L1 (18 * k + 17) [165] L' c) : (c = 0 ∧ Done L k n s L') ∨ (c = 6 ∧ Torn L k L') := by
  have hk1 : 18 * (k + 1) ≤ L1.length := by rw [h1.1.len]; exact hk
  rcases h with ⟨rfl, rfl⟩ | ⟨rfl, t, ht, rfl⟩
  · refine .inl ⟨rfl, h1.1.trans (only_put hk1 (by simp)), ?_⟩
    rw [slot_put hk1 (by simp), h1.2]
    unfold putL
    rw [take_app (bodyL_length n s)]
    simp [bodyL_length]
  · obtain rfl : t = 0 := by simpa using ht
    rw [List.take_zero, putL_nil]
    exact .inr ⟨rfl, h1.torn⟩
end Go.Proofs.YtkbbjkiinpimiaaDoor
