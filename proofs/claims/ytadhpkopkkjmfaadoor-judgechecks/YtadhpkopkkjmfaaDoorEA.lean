/-
  PLAIN: events: the first that is not well, as the document tells it, and by what the program keeps of those ahead (an end and a set of sites a deal).
-/
import Derived.Test.YtadhpkopkkjmfaaDoorEV
import Derived.Test.YtadhpkopkkjmfaaDoorPlain2
namespace Go.Proofs.YtadhpkopkkjmfaaDoor
open Go.RowKit

def bdB (n : Int) (e : E3) : Bool := decide ((0 ≤ e.s ∧ e.s < n) ∧ (0 ≤ e.d ∧ e.d < 6) ∧ (e.p = 2 ∨ e.p = 3))
def spB (P : List E3) (e : E3) : Bool := P.any fun q => decide (q.d = e.d ∧ q.p ≠ e.p)
def heB (P : List E3) (e : E3) : Bool := P.any fun q => decide (q.d = e.d ∧ q.s = e.s)
/-- The number of an event's fault, behind others. -/
def evC (n : Int) (P : List E3) (e : E3) : Nat := if bdB n e = false then 2 else if spB P e = true then 9 else if heB P e = true then 8 else 0
theorem evC_le (n : Int) (P : List E3) (e : E3) : evC n P e ≤ 9 := by
  unfold evC
  repeat' split
  all_goals omega
/-- All of the first k are well. -/
def EvW (n : Int) (L : List E3) (k : Nat) : Prop := ∀ j (h : j < L.length), j < k → evC n (L.take j) (L[j]'h) = 0
theorem EvW.succ {n : Int} {L : List E3} {k : Nat} (h : EvW n L k) (hk : k < L.length) (hc : evC n (L.take k) (L[k]'hk) = 0) : EvW n L (k + 1) := by
  intro j hj hlt
  rcases Nat.lt_succ_iff_lt_or_eq.1 hlt with x | rfl
  · exact h j hj x
  · exact hc
/-- The first fault: its number and place; 0: none. -/
def EvF (n : Int) (L : List E3) (c k : Nat) : Prop := EvW n L k ∧ ((c = 0 ∧ k = L.length) ∨ ∃ h : k < L.length, c ≠ 0 ∧ evC n (L.take k) (L[k]'h) = c)
theorem evF_ex (n : Int) (L : List E3) : ∃ c k, EvF n L c k := by
  have gen : ∀ r k, k + r = L.length → EvW n L k → ∃ c k, EvF n L c k := by
    intro r
    induction r with
    | zero => intro k hk hw; exact ⟨0, k, hw, .inl ⟨rfl, hk⟩⟩
    | succ r ih =>
      intro k hk hw
      have hlt : k < L.length := by omega
      by_cases hc : evC n (L.take k) (L[k]'hlt) = 0
      · exact ih (k + 1) (by omega) (hw.succ hlt hc)
      · exact ⟨_, k, hw, .inr ⟨hlt, hc, rfl⟩⟩
  exact gen L.length 0 (by omega) (fun j _ h => absurd h (Nat.not_lt_zero _))
theorem EvF.le {n : Int} {L : List E3} {c k : Nat} (h : EvF n L c k) : c ≤ 9 := by
  obtain ⟨-, g⟩ := h
  rcases g with ⟨g, -⟩ | ⟨_, _, g⟩
  · omega
  · rw [← g]; exact evC_le _ _ _
/-- What is kept of a deal: its end, and the set of its sites. -/
def endL (P : List E3) (d : Nat) : Int := P.foldl (fun x e => if e.d = (d : Int) then e.p else x) 0
def sitL (P : List E3) (d : Nat) : Int := P.foldl (fun x e => if e.d = (d : Int) then bits .or .i64 x (2 ^ e.s.toNat) else x) 0
theorem endL_snoc (P : List E3) (e : E3) (d : Nat) : endL (P ++ [e]) d = if e.d = (d : Int) then e.p else endL P d := by simp [endL, List.foldl_append]
theorem sitL_snoc (P : List E3) (e : E3) (d : Nat) : sitL (P ++ [e]) d = if e.d = (d : Int) then bits .or .i64 (sitL P d) (2 ^ e.s.toNat) else sitL P d := by simp [sitL, List.foldl_append]
/-- What stands of events that are all well. -/
structure EvK (n : Int) (P : List E3) : Prop where
  bd : ∀ q, q ∈ P → bdB n q = true
  en : ∀ q, q ∈ P → ∀ d : Nat, q.d = (d : Int) → endL P d = q.p
  e0 : ∀ d : Nat, endL P d ≠ 0 → ∃ q, q ∈ P ∧ q.d = (d : Int)
  s0 : ∀ d : Nat, 0 ≤ sitL P d ∧ sitL P d < 128
  si : ∀ (d i : Nat), i < 7 → bit (sitL P d) i = P.any fun q => decide (q.d = (d : Int) ∧ q.s = (i : Int))
theorem EvK.nil (n : Int) : EvK n [] := ⟨fun _ h => (by cases h), fun _ h => (by cases h), fun _ h => absurd rfl h, fun _ => ⟨(show (0 : Int) ≤ 0 by omega), (show (0 : Int) < 128 by omega)⟩, fun d i _ => by show bit 0 i = false; unfold bit; simp⟩
theorem orAllE : ((List.range 128).all fun s => (List.range 7).all fun q => (decide (s ||| 2 ^ q < 128)) && (List.range 7).all fun j => (Nat.testBit (s ||| 2 ^ q) j == (Nat.testBit s j || decide (q = j)))) = true := by decide +kernel
theorem bit_orE {x : Int} {q : Nat} (h0 : 0 ≤ x) (h1 : x < 128) (hq : q < 7) : (0 ≤ bits .or .i64 x (2 ^ q) ∧ bits .or .i64 x (2 ^ q) < 128) ∧ ∀ j, j < 7 → bit (bits .or .i64 x (2 ^ q)) j = (bit x j || decide (q = j)) := by
  obtain ⟨s, rfl⟩ := Int.eq_ofNat_of_zero_le h0
  have hs : s < 128 := by omega
  have h := List.all_eq_true.1 (List.all_eq_true.1 orAllE s (List.mem_range.2 hs)) q (List.mem_range.2 hq)
  rw [Bool.and_eq_true] at h
  have h3 : (2 : Nat) ^ q < 9223372036854775808 := Nat.lt_of_lt_of_le (Nat.pow_lt_pow_right (by decide) hq) (by decide)
  have h4 := of_decide_eq_true h.1
  rw [pow_nat, bits_or_nat s (2 ^ q) (by omega) h3]
  refine ⟨by omega, fun j hj => ?_⟩
  have := List.all_eq_true.1 h.2 j (List.mem_range.2 hj)
  unfold bit
  rw [Int.toNat_natCast, Int.toNat_natCast]
  exact eq_of_beq this
theorem evC_zero {n : Int} {P : List E3} {e : E3} (h : evC n P e = 0) : bdB n e = true ∧ spB P e = false ∧ heB P e = false := by
  unfold evC at h
  split at h
  · cases h
  · rename_i h1
    split at h
    · cases h
    · rename_i h2
      split at h
      · cases h
      · rename_i h3
        refine ⟨?_, ?_, ?_⟩
        · cases hb : bdB n e with
          | true => rfl
          | false => exact absurd hb h1
        · cases hb : spB P e with
          | false => rfl
          | true => exact absurd hb h2
        · cases hb : heB P e with
          | false => rfl
          | true => exact absurd hb h3
theorem EvK.snoc {n : Int} {P : List E3} {e : E3} (hn : n ≤ 7) (h : EvK n P) (hc : evC n P e = 0) : EvK n (P ++ [e]) := by
  obtain ⟨c1, c2, c3⟩ := evC_zero hc
  have b := of_decide_eq_true c1
  refine ⟨fun q hq => ?_, fun q hq d hd => ?_, fun d hd => ?_, fun d => ?_, fun d i hi => ?_⟩
  · rcases List.mem_append.1 hq with x | x
    · exact h.bd q x
    · rw [List.mem_singleton] at x; rw [x]; exact c1
  · rw [endL_snoc]
    rcases List.mem_append.1 hq with x | x
    · split
      · rename_i he
        have := List.any_eq_false.1 c2 q x
        simp only [decide_eq_true_eq, not_and] at this
        have h2 := this (by omega)
        omega
      · exact h.en q x d hd
    · rw [List.mem_singleton] at x
      subst x
      rw [if_pos hd]
  · rw [endL_snoc] at hd
    split at hd
    · rename_i he
      exact ⟨e, List.mem_append.2 (.inr (List.mem_singleton.2 rfl)), he⟩
    · obtain ⟨q, h1, h2⟩ := h.e0 d hd
      exact ⟨q, List.mem_append.2 (.inl h1), h2⟩
  · rw [sitL_snoc]
    split
    · exact (bit_orE (h.s0 d).1 (h.s0 d).2 (by omega)).1
    · exact h.s0 d
  · rw [sitL_snoc, List.any_append, List.any_cons, List.any_nil, Bool.or_false]
    split
    · rename_i he
      rw [(bit_orE (h.s0 d).1 (h.s0 d).2 (by omega)).2 i hi, h.si d i hi]
      congr 1
      refine decide_eq_decide.2 ?_
      omega
    · rename_i he
      rw [h.si d i hi, decide_eq_false (fun x => he x.1), Bool.or_false]
theorem EvW.kept {n : Int} {L : List E3} (hn : n ≤ 7) : ∀ {k : Nat}, k ≤ L.length → EvW n L k → EvK n (L.take k)
  | 0, _, _ => by rw [List.take_zero]; exact EvK.nil n
  | k + 1, hk, h => by
    rw [take_snoc L k hk]
    exact (EvW.kept hn (Nat.le_of_succ_le hk) (fun j hj hlt => h j hj (Nat.lt_succ_of_lt hlt))).snoc hn (h k hk (Nat.lt_succ_self _))
/-- The program's tests, by what it keeps. -/
theorem EvK.split {n : Int} {P : List E3} (h : EvK n P) {e : E3} {d : Nat} (hd : e.d = (d : Int)) : spB P e = (endL P d != 0 && endL P d != e.p) := by
  rw [Bool.eq_iff_iff, Bool.and_eq_true, bne_iff_ne, bne_iff_ne]
  unfold spB
  rw [List.any_eq_true]
  constructor
  · rintro ⟨q, hq, hx⟩
    have hx := of_decide_eq_true hx
    have h1 := h.en q hq d (by omega)
    have h2 := of_decide_eq_true (h.bd q hq)
    omega
  · rintro ⟨h1, h2⟩
    obtain ⟨q, hq, hqd⟩ := h.e0 d h1
    have h3 := h.en q hq d hqd
    exact ⟨q, hq, decide_eq_true ⟨by omega, by omega⟩⟩
theorem EvK.held {n : Int} {P : List E3} (h : EvK n P) {e : E3} {d i : Nat} (hd : e.d = (d : Int)) (hi : e.s = (i : Int)) (h7 : i < 7) : heB P e = bit (sitL P d) i := by
  rw [h.si d i h7]
  unfold heB
  rw [hd, hi]
end Go.Proofs.YtadhpkopkkjmfaaDoor
