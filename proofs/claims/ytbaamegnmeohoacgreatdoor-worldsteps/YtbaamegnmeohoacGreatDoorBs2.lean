/-
  On the way to WStepsProof: TA Plain L5 L6 L7 TS TG.
-/
import Derived.Test.YtbaamegnmeohoacGreatDoorBs1
import Derived.WalkKit
import Derived.BigQuiet
import Derived.Deep.QuietTactic
import Derived.Deep.CutRange
import Derived.Laws.AppendOwn
import Derived.Laws.AppendOwnNone
import Derived.Laws.OwnMore
namespace Go.Proofs.YtbaamegnmeohoacGreatDoor
structure S3 where
  p : Int
  r : Int
  a : Int
def hasP (p : Int) (L : List S3) : Bool := L.any fun s => decide (s.p = p)
theorem hasP_iff (p : Int) (L : List S3) : hasP p L = true ↔ ∃ s, s ∈ L ∧ s.p = p := by simp [hasP]
def grS (p : Int) (x : Int × Bool) (s : S3) : Int × Bool := if s.p = p ∧ (x.2 = false ∨ x.1 < s.a) then (s.a, true) else x
def gr (p : Int) (L : List S3) : Int × Bool := L.foldl (grS p) (0, false)
theorem gr_snoc (p : Int) (L : List S3) (s : S3) : gr p (L ++ [s]) = grS p (gr p L) s := by simp [gr, List.foldl_append]
def GrOf (p : Int) (L : List S3) (x : Int × Bool) : Prop :=
  (x.2 = true ∧ (∃ s, s ∈ L ∧ s.p = p ∧ s.a = x.1) ∧ ∀ s, s ∈ L → s.p = p → s.a ≤ x.1) ∨ (x = (0, false) ∧ ∀ s, s ∈ L → s.p ≠ p)
theorem grS_of {p : Int} {L : List S3} {x : Int × Bool} (s : S3) (h : GrOf p L x) : GrOf p (L ++ [s]) (grS p x s) := by
  obtain ⟨m, is⟩ := x
  unfold grS
  rcases h with ⟨h1, ⟨t, ht, hp, ha⟩, h3⟩ | ⟨h1, h2⟩
  · simp only at h1 ha h3
    subst h1
    by_cases hc : s.p = p ∧ ((true : Bool) = false ∨ m < s.a)
    · rw [if_pos hc]
      refine .inl ⟨rfl, ⟨s, by simp, hc.1, rfl⟩, fun u hu hup => ?_⟩
      rcases List.mem_append.1 hu with hu | hu
      · have := h3 u hu hup
        rcases hc.2 with h | h
        · cases h
        · show u.a ≤ s.a; omega
      · obtain rfl : u = s := by simpa using hu
        exact Int.le_refl _
    · rw [if_neg hc]
      refine .inl ⟨rfl, ⟨t, by simp [ht], hp, ha⟩, fun u hu hup => ?_⟩
      rcases List.mem_append.1 hu with hu | hu
      · exact h3 u hu hup
      · obtain rfl : u = s := by simpa using hu
        have : ¬ m < u.a := fun h => hc ⟨hup, .inr h⟩
        show u.a ≤ m; omega
  · obtain ⟨rfl, rfl⟩ : m = 0 ∧ is = false := by simpa using h1
    by_cases hc : s.p = p
    · rw [if_pos ⟨hc, .inl rfl⟩]
      refine .inl ⟨rfl, ⟨s, by simp, hc, rfl⟩, fun u hu hup => ?_⟩
      rcases List.mem_append.1 hu with hu | hu
      · exact absurd hup (h2 u hu)
      · obtain rfl : u = s := by simpa using hu
        exact Int.le_refl _
    · rw [if_neg (fun h => hc h.1)]
      refine .inr ⟨rfl, fun u hu => ?_⟩
      rcases List.mem_append.1 hu with hu | hu
      · exact h2 u hu
      · obtain rfl : u = s := by simpa using hu
        exact hc
theorem snoc_rec {α : Type} {C : List α → Prop} (h0 : C []) (h1 : ∀ l x, C l → C (l ++ [x])) (l : List α) : C l := by
  have : ∀ n, ∀ l : List α, l.length = n → C l := by
    intro n
    induction n with
    | zero => intro l hl; cases l with
      | nil => exact h0
      | cons x r => simp at hl
    | succ n ih =>
      intro l hl
      have hne : l ≠ [] := by intro h; subst h; simp at hl
      have e := List.dropLast_concat_getLast hne
      rw [← e]
      exact h1 _ _ (ih _ (by rw [List.length_dropLast]; omega))
  exact this _ l rfl
theorem gr_of (p : Int) (L : List S3) : GrOf p L (gr p L) := by
  refine snoc_rec (C := fun L => GrOf p L (gr p L)) ?_ ?_ L
  · exact .inr ⟨rfl, fun s hs => by cases hs⟩
  · intro l s ih
    rw [gr_snoc]
    exact grS_of s ih
theorem gr_has (p : Int) (L : List S3) : (gr p L).2 = hasP p L := by
  rcases gr_of p L with ⟨h1, ⟨t, ht, hp, -⟩, -⟩ | ⟨h1, h2⟩
  · rw [h1]; exact ((hasP_iff p L).2 ⟨t, ht, hp⟩).symm
  · rw [h1]
    refine (Bool.eq_false_iff.2 fun h => ?_).symm
    obtain ⟨s, hs, hp⟩ := (hasP_iff p L).1 h
    exact h2 s hs hp
def chooseL (L : List S3) : Int × Bool :=
  if (gr 2 L).2 = true then (2, true) else if (gr 3 L).2 = true then (3, true)
  else if (gr 4 L).2 = true ∧ ((gr 5 L).2 = false ∨ (gr 5 L).1 ≤ (gr 4 L).1) then (4, false) else (5, false)
def beS (x : Bool × Int) (s : S3) : Bool × Int := if s.p = 4 ∨ s.p = 5 then (false, if x.1 = true ∨ x.2 < s.a then s.a else x.2) else x
def be (L : List S3) : Bool × Int := L.foldl beS (true, 0)
theorem be_snoc (L : List S3) (s : S3) : be (L ++ [s]) = beS (be L) s := by simp [be, List.foldl_append]
def BeOf (L : List S3) (x : Bool × Int) : Prop :=
  (x.1 = false ∧ (∃ s, s ∈ L ∧ (s.p = 4 ∨ s.p = 5) ∧ s.a = x.2) ∧ ∀ s, s ∈ L → (s.p = 4 ∨ s.p = 5) → s.a ≤ x.2) ∨ (x = (true, 0) ∧ ∀ s, s ∈ L → ¬ (s.p = 4 ∨ s.p = 5))
theorem beS_of {L : List S3} {x : Bool × Int} (s : S3) (h : BeOf L x) : BeOf (L ++ [s]) (beS x s) := by
  obtain ⟨is, m⟩ := x
  unfold beS
  by_cases hc : s.p = 4 ∨ s.p = 5
  · rw [if_pos hc]
    rcases h with ⟨h1, ⟨t, ht, hp, ha⟩, h3⟩ | ⟨h1, h2⟩
    · simp only at h1 ha h3
      subst h1
      by_cases hm : m < s.a
      · rw [if_pos (.inr hm)]
        refine .inl ⟨rfl, ⟨s, by simp, hc, rfl⟩, fun u hu hup => ?_⟩
        rcases List.mem_append.1 hu with hu | hu
        · have := h3 u hu hup
          show u.a ≤ s.a; omega
        · obtain rfl : u = s := by simpa using hu
          exact Int.le_refl _
      · rw [if_neg (by simpa using hm)]
        refine .inl ⟨rfl, ⟨t, by simp [ht], hp, ha⟩, fun u hu hup => ?_⟩
        rcases List.mem_append.1 hu with hu | hu
        · exact h3 u hu hup
        · obtain rfl : u = s := by simpa using hu
          show u.a ≤ m; omega
    · obtain ⟨rfl, rfl⟩ : is = true ∧ m = 0 := by simpa using h1
      rw [if_pos (.inl rfl)]
      refine .inl ⟨rfl, ⟨s, by simp, hc, rfl⟩, fun u hu hup => ?_⟩
      rcases List.mem_append.1 hu with hu | hu
      · exact absurd hup (h2 u hu)
      · obtain rfl : u = s := by simpa using hu
        exact Int.le_refl _
  · rw [if_neg hc]
    rcases h with ⟨h1, ⟨t, ht, hp, ha⟩, h3⟩ | ⟨h1, h2⟩
    · refine .inl ⟨h1, ⟨t, by simp [ht], hp, ha⟩, fun u hu hup => ?_⟩
      rcases List.mem_append.1 hu with hu | hu
      · exact h3 u hu hup
      · obtain rfl : u = s := by simpa using hu
        exact absurd hup hc
    · refine .inr ⟨h1, fun u hu => ?_⟩
      rcases List.mem_append.1 hu with hu | hu
      · exact h2 u hu
      · obtain rfl : u = s := by simpa using hu
        exact hc
theorem be_of (L : List S3) : BeOf L (be L) := by
  refine snoc_rec (C := fun L => BeOf L (be L)) ?_ ?_ L
  · exact .inr ⟨rfl, fun s hs => by cases hs⟩
  · intro l s ih
    rw [be_snoc]
    exact beS_of s ih
def preL (b : Int) (L : List S3) : Bool := L.any fun s => decide (s.p = 4 ∧ s.a = b)
theorem preL_iff (b : Int) (L : List S3) : preL b L = true ↔ ∃ s, s ∈ L ∧ s.p = 4 ∧ s.a = b := by simp [preL]
def refL (L : List S3) : Int × Bool := if hasP 2 L = true then (2, true) else if hasP 3 L = true then (3, true) else if preL (be L).2 L = true then (4, false) else (5, false)
theorem choose_ref (L : List S3) : chooseL L = refL L := by
  unfold chooseL refL
  rw [gr_has 2, gr_has 3]
  have key : ((gr 4 L).2 = true ∧ ((gr 5 L).2 = false ∨ (gr 5 L).1 ≤ (gr 4 L).1)) ↔ preL (be L).2 L = true := by
    rw [preL_iff]
    rcases gr_of 4 L with ⟨h1, ⟨t, ht, tp, ta⟩, h3⟩ | ⟨h1, h2⟩
    · rcases gr_of 5 L with ⟨g1, ⟨u, hu, up, ua⟩, g3⟩ | ⟨g1, g2⟩
      · rcases be_of L with ⟨-, ⟨v, hv, vp, va⟩, b3⟩ | ⟨-, b2⟩
        · constructor
          · rintro ⟨-, h | h⟩
            · rw [g1] at h; cases h
            · refine ⟨t, ht, tp, ?_⟩
              have e1 := b3 t ht (.inl tp)
              rcases vp with vp | vp
              · have := h3 v hv vp; omega
              · have := g3 v hv vp; omega
          · rintro ⟨s, hs, sp, sa⟩
            refine ⟨h1, .inr ?_⟩
            have e1 := b3 u hu (.inr up)
            have e2 := h3 s hs sp
            omega
        · exact absurd (.inl tp) (b2 t ht)
      · rcases be_of L with ⟨-, ⟨v, hv, vp, va⟩, b3⟩ | ⟨-, b2⟩
        · refine ⟨fun _ => ⟨v, hv, ?_, va⟩, fun _ => ⟨h1, .inl (by rw [g1])⟩⟩
          rcases vp with vp | vp
          · exact vp
          · exact absurd vp (g2 v hv)
        · exact absurd (.inl tp) (b2 t ht)
    · refine ⟨fun h => ?_, fun ⟨s, hs, sp, _⟩ => absurd sp (h2 s hs)⟩
      have := h.1
      rw [h1] at this
      cases this
  by_cases k2 : hasP 2 L = true
  · rw [if_pos k2, if_pos k2]
  · rw [if_neg k2, if_neg k2]
    by_cases k3 : hasP 3 L = true
    · rw [if_pos k3, if_pos k3]
    · rw [if_neg k3, if_neg k3]
      by_cases k4 : preL (be L).2 L = true
      · rw [if_pos k4, if_pos (key.2 k4)]
      · rw [if_neg k4, if_neg (fun h => k4 (key.1 h))]
def afterI (a : Int) : Int := if a = 4 then 2 else if a = 5 then 3 else 0
theorem choose_ways (L : List S3) : chooseL L = (2, true) ∨ chooseL L = (3, true) ∨ chooseL L = (4, false) ∨ chooseL L = (5, false) := by
  unfold chooseL
  repeat' split
  · exact .inl rfl
  · exact .inr (.inl rfl)
  · exact .inr (.inr (.inl rfl))
  · exact .inr (.inr (.inr rfl))
end Go.Proofs.YtbaamegnmeohoacGreatDoor
namespace Go.Proofs.YtbaamegnmeohoacGreatDoor
open Go.RowKit

/-! ### Bits of an int that is not below 0 -/
theorem ofInt_nat (a : Nat) (ha : a < 9223372036854775808) : (BitVec.ofInt 64 (a : Int)).toNat = a := by
  rw [BitVec.ofInt_natCast, BitVec.toNat_ofNat]; exact Nat.mod_eq_of_lt (by omega)
theorem bits_and_nat (a b : Nat) (ha : a < 9223372036854775808) (hb : b < 9223372036854775808) : bits .and .i64 (a : Int) (b : Int) = ((a &&& b : Nat) : Int) := by
  have hx : a &&& b < 2 ^ 63 := Nat.and_lt_two_pow _ (by omega)
  show IntKind.i64.wrap ((BitVec.ofInt 64 (a : Int) &&& BitVec.ofInt 64 (b : Int)).toNat : Int) = _
  rw [BitVec.toNat_and, ofInt_nat a ha, ofInt_nat b hb, IntKind.wrap_i64]
  omega
theorem bits_or_nat (a b : Nat) (ha : a < 9223372036854775808) (hb : b < 9223372036854775808) : bits .or .i64 (a : Int) (b : Int) = ((a ||| b : Nat) : Int) := by
  have hx : a ||| b < 2 ^ 63 := Nat.or_lt_two_pow (by omega) (by omega)
  show IntKind.i64.wrap ((BitVec.ofInt 64 (a : Int) ||| BitVec.ofInt 64 (b : Int)).toNat : Int) = _
  rw [BitVec.toNat_or, ofInt_nat a ha, ofInt_nat b hb, IntKind.wrap_i64]
  omega
def bit (s : Int) (k : Nat) : Bool := s.toNat.testBit k
def sumTo (zs : List Int) (s : Int) : Nat → Int
  | 0 => 0
  | k + 1 => sumTo zs s k + if bit s k then zs.getD k 0 else 0
def psum (zs : List Int) : Nat → Int
  | 0 => 0
  | k + 1 => psum zs k + zs.getD k 0
def tot (zs : List Int) : Int := psum zs zs.length
def okTo (zs : List Int) (k : Nat) : Prop := ∀ i, i < k → 0 ≤ zs.getD i 0 ∧ zs.getD i 0 ≤ 1000
def errW (zs : List Int) : Nat :=
  if zs.length < 1 ∨ 7 < zs.length then 3 else if (zs.all fun n => decide (0 ≤ n ∧ n ≤ 1000)) = true then (if tot zs = 0 then 4 else 0) else 2
def errS (zs : List Int) (s : Int) : Nat := if errW zs = 0 then (if s < 0 ∨ 2 ^ zs.length ≤ s then 2 else 0) else errW zs
def enoughB (zs : List Int) (s : Int) : Bool := decide (tot zs < 2 * sumTo zs s zs.length)
theorem getD_lt (zs : List Int) (k : Nat) (h : k < zs.length) : zs.getD k 0 = zs[k] := by simp [h]
theorem okTo_all (zs : List Int) : okTo zs zs.length ↔ (zs.all fun n => decide (0 ≤ n ∧ n ≤ 1000)) = true := by
  rw [List.all_eq_true]
  constructor
  · intro h x hx
    obtain ⟨i, hi, rfl⟩ := List.getElem_of_mem hx
    have := h i hi
    rw [getD_lt zs i hi] at this
    simpa using this
  · intro h i hi
    have := h zs[i] (List.getElem_mem hi)
    rw [getD_lt zs i hi]
    simpa using this
theorem okTo_succ {zs : List Int} {k : Nat} (h : okTo zs k) (h0 : 0 ≤ zs.getD k 0) (h1 : zs.getD k 0 ≤ 1000) : okTo zs (k + 1) := by
  intro i hi
  rcases Nat.lt_succ_iff_lt_or_eq.1 hi with h' | rfl
  · exact h i h'
  · exact ⟨h0, h1⟩
theorem psum_bd {zs : List Int} : ∀ {k : Nat}, okTo zs k → 0 ≤ psum zs k ∧ psum zs k ≤ 1000 * k
  | 0, _ => by simp [psum]
  | k + 1, h => by
    have ih := psum_bd (k := k) (fun i hi => h i (Nat.lt_succ_of_lt hi))
    have := h k (Nat.lt_succ_self k)
    simp only [psum]; omega
theorem sumTo_bd {zs : List Int} (s : Int) : ∀ {k : Nat}, okTo zs k → 0 ≤ sumTo zs s k ∧ sumTo zs s k ≤ psum zs k
  | 0, _ => by simp [psum, sumTo]
  | k + 1, h => by
    have ih := sumTo_bd s (k := k) (fun i hi => h i (Nat.lt_succ_of_lt hi))
    have := h k (Nat.lt_succ_self k)
    simp only [psum, sumTo]; split <;> omega
theorem errW_shape {zs : List Int} (h : zs.length < 1 ∨ 7 < zs.length) : errW zs = 3 := by unfold errW; rw [if_pos h]
theorem errW_bound {zs : List Int} (h : ¬ (zs.length < 1 ∨ 7 < zs.length)) {k : Nat} (hk : k < zs.length) (hb : zs.getD k 0 < 0 ∨ 1000 < zs.getD k 0) : errW zs = 2 := by
  unfold errW; rw [if_neg h, if_neg]
  rw [← okTo_all]; intro g; have := g k hk; omega
theorem errW_ok {zs : List Int} (h : ¬ (zs.length < 1 ∨ 7 < zs.length)) (g : okTo zs zs.length) : errW zs = if tot zs = 0 then 4 else 0 := by
  unfold errW; rw [if_neg h, if_pos ((okTo_all zs).1 g)]
theorem errW_zero {zs : List Int} (h : errW zs = 0) : 1 ≤ zs.length ∧ zs.length ≤ 7 ∧ okTo zs zs.length ∧ tot zs ≠ 0 := by
  unfold errW at h
  split at h
  · cases h
  · split at h
    · split at h
      · cases h
      · refine ⟨by omega, by omega, (okTo_all zs).2 (by assumption), by assumption⟩
    · cases h
theorem errS_zero {zs : List Int} {s : Int} (h : errS zs s = 0) : errW zs = 0 ∧ 0 ≤ s ∧ s < 2 ^ zs.length := by
  unfold errS at h
  split at h
  · split at h
    · cases h
    · exact ⟨by assumption, by omega, by omega⟩
  · exact absurd h (by assumption)
theorem errS_mk {zs : List Int} {s : Int} (h : errW zs = 0) (h0 : 0 ≤ s) (h1 : s < 2 ^ zs.length) : errS zs s = 0 := by
  unfold errS; rw [if_pos h, if_neg (by omega)]
theorem pow_le7 {n : Nat} (h : n ≤ 7) : (2 : Int) ^ n ≤ 128 ∧ (1 : Int) ≤ 2 ^ n := by
  have : n = 0 ∨ n = 1 ∨ n = 2 ∨ n = 3 ∨ n = 4 ∨ n = 5 ∨ n = 6 ∨ n = 7 := by omega
  rcases this with rfl | rfl | rfl | rfl | rfl | rfl | rfl | rfl <;> decide
theorem pow_le30 {n : Nat} (h : n ≤ 30) : (2 : Int) ^ n ≤ 1073741824 ∧ (1 : Int) ≤ 2 ^ n := by
  have h1 : (2 : Nat) ^ n ≤ 2 ^ 30 := Nat.pow_le_pow_right (by decide) h
  have h2 : 1 ≤ (2 : Nat) ^ n := Nat.one_le_two_pow
  have e : ((2 : Int) ^ n) = (((2 : Nat) ^ n : Nat) : Int) := by simp
  rw [e]; constructor
  · have : (2 : Nat) ^ 30 = 1073741824 := by decide
    omega
  · omega
theorem bit_and {s : Int} (k : Nat) (h0 : 0 ≤ s) (h1 : s < 9223372036854775808) : (bits BinOp.and IntKind.i64 (s / 2 ^ k) 1 == 1) = bit s k := by
  obtain ⟨m, rfl⟩ := Int.eq_ofNat_of_zero_le h0
  have e : ((m : Int) / 2 ^ k) = ((m / 2 ^ k : Nat) : Int) := by simp
  have hlt : m / 2 ^ k < 9223372036854775808 := Nat.lt_of_le_of_lt (Nat.div_le_self _ _) (by omega)
  rw [e, show (1 : Int) = ((1 : Nat) : Int) from rfl, bits_and_nat _ 1 hlt (by decide), Nat.and_one_is_mod]
  unfold bit
  rw [Int.toNat_natCast, Nat.testBit_eq_decide_div_mod_eq, Bool.eq_iff_iff]
  simp; omega
theorem bit_two {n k : Nat} (h : k < n) : bit (2 ^ n - 1) k = true := by
  unfold bit
  have e : ((2 : Int) ^ n - 1).toNat = 2 ^ n - 1 := by
    have h2 : 1 ≤ (2 : Nat) ^ n := Nat.one_le_two_pow
    have e : ((2 : Int) ^ n) = (((2 : Nat) ^ n : Nat) : Int) := by simp
    rw [e]; omega
  rw [e, Nat.testBit_two_pow_sub_one]; simpa using h
theorem sumTo_all (zs : List Int) {n : Nat} : ∀ {k : Nat}, k ≤ n → sumTo zs (2 ^ n - 1) k = psum zs k
  | 0, _ => rfl
  | k + 1, h => by simp only [sumTo, psum]; rw [sumTo_all zs (k := k) (by omega), bit_two (by omega)]; simp
end Go.Proofs.YtbaamegnmeohoacGreatDoor
namespace Go.Proofs.YtbaamegnmeohoacGreatDoor
structure LSt where
  wait : Int
  stt : Nat
  hs : List F9
  ph : Int
  seen : Int
abbrev forL (n id : Nat) (deal att : Int) (L : LSt) (f : F9) : Prop := L.wait ≠ 0 ∧ f.k = L.wait ∧ f.d = deal ∧ f.a = att ∧ f.t = id ∧ 0 ≤ f.f ∧ f.f < n
def toldTo (hs : List F9) : Nat → List S3
  | 0 => []
  | k + 1 => match fromL hs k with
    | none => toldTo hs k
    | some x => toldTo hs k ++ [⟨x.ph, x.pr, x.pa⟩]
def setTo (hs : List F9) : Nat → Int
  | 0 => 0
  | k + 1 => if (fromL hs k).isSome = true then setTo hs k + 2 ^ k else setTo hs k
theorem setTo_bd (hs : List F9) : ∀ k, 0 ≤ setTo hs k ∧ setTo hs k < 2 ^ k
  | 0 => ⟨Int.le_refl _, by show (0 : Int) < 1; decide⟩
  | k + 1 => by
    obtain ⟨h0, h1⟩ := setTo_bd hs k
    have e : (2 : Int) ^ (k + 1) = 2 * 2 ^ k := by rw [Int.pow_succ]; omega
    unfold setTo
    rw [e]
    split <;> omega
theorem toldTo_le (hs : List F9) : ∀ k, (toldTo hs k).length ≤ k
  | 0 => Nat.le_refl _
  | k + 1 => by
    have := toldTo_le hs k
    unfold toldTo
    split
    · omega
    · rw [List.length_append]; simp; omega
def seenL (L : LSt) (f : F9) : Int := if f.k ≠ 2 ∧ L.seen < f.pr then f.pr else L.seen
def lhear (zs : List Int) (id : Nat) (deal att : Int) (L : LSt) (f : F9) : LSt × Option (Int × Int) :=
  if forL zs.length id deal att L f ∧ (fromL L.hs f.f).isSome = false then
    (if f.y = false then (if f.k = 2 then (⟨0, 2, L.hs, L.ph, seenL L f⟩, some (7, 3)) else (⟨0, 3, L.hs, L.ph, seenL L f⟩, none))
    else if f.k = 2 then (if (L.hs ++ [f]).length = zs.length then (⟨6, 1, [], 4, seenL L f⟩, some (5, 4)) else (⟨L.wait, L.stt, L.hs ++ [f], L.ph, seenL L f⟩, none))
    else if enoughB zs (setTo (L.hs ++ [f]) zs.length) = false then (⟨L.wait, L.stt, L.hs ++ [f], L.ph, seenL L f⟩, none)
    else if f.k = 6 then (⟨0, 2, L.hs ++ [f], L.ph, seenL L f⟩, some (7, afterI L.ph))
    else if (refL (toldTo (L.hs ++ [f]) zs.length)).2 = true then (⟨0, 2, L.hs ++ [f], L.ph, seenL L f⟩, some (7, (refL (toldTo (L.hs ++ [f]) zs.length)).1))
    else (⟨6, 1, [], (refL (toldTo (L.hs ++ [f]) zs.length)).1, seenL L f⟩, some (5, (refL (toldTo (L.hs ++ [f]) zs.length)).1)))
  else (L, none)
theorem lhear_pass {zs : List Int} {id : Nat} {deal att : Int} {L : LSt} {f : F9} (h : ¬ (forL zs.length id deal att L f ∧ (fromL L.hs f.f).isSome = false)) : lhear zs id deal att L f = (L, none) := by
  unfold lhear
  exact if_neg h
section
variable {zs : List Int} {id : Nat} {deal att : Int} {L : LSt} {f : F9}
theorem lhear_no (h : forL zs.length id deal att L f ∧ (fromL L.hs f.f).isSome = false) (hy : f.y = false) (hk : f.k ≠ 2) : lhear zs id deal att L f = (⟨0, 3, L.hs, L.ph, seenL L f⟩, none) := by
  unfold lhear
  rw [if_pos h, if_pos hy, if_neg hk]
theorem lhear_no2 (h : forL zs.length id deal att L f ∧ (fromL L.hs f.f).isSome = false) (hy : f.y = false) (hk : f.k = 2) : lhear zs id deal att L f = (⟨0, 2, L.hs, L.ph, seenL L f⟩, some (7, 3)) := by
  unfold lhear
  rw [if_pos h, if_pos hy, if_pos hk]
theorem lhear_all (h : forL zs.length id deal att L f ∧ (fromL L.hs f.f).isSome = false) (hy : ¬ f.y = false) (hk : f.k = 2) (hn : (L.hs ++ [f]).length = zs.length) : lhear zs id deal att L f = (⟨6, 1, [], 4, seenL L f⟩, some (5, 4)) := by
  unfold lhear
  rw [if_pos h, if_neg hy, if_pos hk, if_pos hn]
theorem lhear_some (h : forL zs.length id deal att L f ∧ (fromL L.hs f.f).isSome = false) (hy : ¬ f.y = false) (hk : f.k = 2) (hn : ¬ (L.hs ++ [f]).length = zs.length) : lhear zs id deal att L f = (⟨L.wait, L.stt, L.hs ++ [f], L.ph, seenL L f⟩, none) := by
  unfold lhear
  rw [if_pos h, if_neg hy, if_pos hk, if_neg hn]
theorem lhear_few (h : forL zs.length id deal att L f ∧ (fromL L.hs f.f).isSome = false) (hy : ¬ f.y = false) (hk : ¬ f.k = 2) (hn : enoughB zs (setTo (L.hs ++ [f]) zs.length) = false) : lhear zs id deal att L f = (⟨L.wait, L.stt, L.hs ++ [f], L.ph, seenL L f⟩, none) := by
  unfold lhear
  rw [if_pos h, if_neg hy, if_neg hk, if_pos hn]
theorem lhear_ack (h : forL zs.length id deal att L f ∧ (fromL L.hs f.f).isSome = false) (hy : ¬ f.y = false) (hk : ¬ f.k = 2) (hn : ¬ enoughB zs (setTo (L.hs ++ [f]) zs.length) = false) (h6 : f.k = 6) : lhear zs id deal att L f = (⟨0, 2, L.hs ++ [f], L.ph, seenL L f⟩, some (7, afterI L.ph)) := by
  unfold lhear
  rw [if_pos h, if_neg hy, if_neg hk, if_neg hn, if_pos h6]
theorem lhear_fin (h : forL zs.length id deal att L f ∧ (fromL L.hs f.f).isSome = false) (hy : ¬ f.y = false) (hk : ¬ f.k = 2) (hn : ¬ enoughB zs (setTo (L.hs ++ [f]) zs.length) = false) (h6 : ¬ f.k = 6) {p : Int} (hc : refL (toldTo (L.hs ++ [f]) zs.length) = (p, true)) : lhear zs id deal att L f = (⟨0, 2, L.hs ++ [f], L.ph, seenL L f⟩, some (7, p)) := by
  unfold lhear
  rw [if_pos h, if_neg hy, if_neg hk, if_neg hn, if_neg h6, hc, if_pos rfl]
theorem lhear_pre (h : forL zs.length id deal att L f ∧ (fromL L.hs f.f).isSome = false) (hy : ¬ f.y = false) (hk : ¬ f.k = 2) (hn : ¬ enoughB zs (setTo (L.hs ++ [f]) zs.length) = false) (h6 : ¬ f.k = 6) {p : Int} (hc : refL (toldTo (L.hs ++ [f]) zs.length) = (p, false)) : lhear zs id deal att L f = (⟨6, 1, [], p, seenL L f⟩, some (5, p)) := by
  unfold lhear
  rw [if_pos h, if_neg hy, if_neg hk, if_neg hn, if_neg h6, hc, if_neg (fun h => by cases h)]
end
end Go.Proofs.YtbaamegnmeohoacGreatDoor
namespace Go.Proofs.YtbaamegnmeohoacGreatDoor
open Go.RowKit
section
variable {w : World} {lb id n cap : Nat} {deal att : Int} {aw : Option Addr} {st : ByteArray} {wait : Int} {vh : Value} {hs : List F9} {ph seen : Int}
set_option maxHeartbeats 4000000 in
set_option maxRecDepth 100000 in
theorem rlhear_not (f t d k a : Int) (y : Bool) (p1 p2 p3 : Int) (h : RLd w lb id n cap deal att aw st wait vh hs ph seen) (hf : ¬ (wait ≠ 0 ∧ k = wait ∧ d = deal ∧ a = att ∧ t = id ∧ 0 ≤ f ∧ f < n)) :
    Calls Tryz.prog 106 #[.pointer (some ⟨lb, 0, none⟩), frV f t d k a y p1 p2 p3] w fun e w' => e = .returned (.slice none 0 0) ∧ Below w.heap.size w w' := by
  obtain ⟨W, HW⟩ : ∃ W, Hid (w.alloc (.cells #[.int .i64 f, .int .i64 t, .int .i64 d, .int .i64 k, .int .i64 a, .bool y, .int .i64 p1, .int .i64 p2, .int .i64 p3] 130) = W) := ⟨_, rfl⟩
  have HB : Hid (Below w.heap.size w W) := by rw [← HW.out]; exact (Below.refl _ _).alloc (Nat.le_refl _) _
  have HR : Hid (W.heap[w.heap.size]? = some (.cells #[.int .i64 f, .int .i64 t, .int .i64 d, .int .i64 k, .int .i64 a, .bool y, .int .i64 p1, .int .i64 p2, .int .i64 p3] 130 (0, 0))) := by rw [← HW.out]; exact heap_alloc_new w _
  obtain ⟨b0, b1, b2, b3, b4, b5, b6, b7, b8⟩ := nine HR.out
  obtain ⟨c0, c1, c2, c3, c4, c5, c6, c7, c8⟩ := (h.later HB.out).cells
  have hW := HW.out
  clear h
  by_cases g0 : wait = 0
  · subst g0
    clear hf
    go_enter Tryz.func106, Tryz.ntmps106
    go_wp2_with fail
    go_quiet (fail)
    go_wp2
    go_ret
    exact ⟨rfl, below_drewN HB.out _⟩
  have e0 : (wait == 0) = false := beq_eq_false_iff_ne.2 g0
  by_cases g1 : k = wait
  · subst g1
    by_cases g2 : d = deal
    · subst g2
      by_cases g3 : a = att
      · subst g3
        by_cases g4 : t = (id : Int)
        · subst g4
          by_cases g5 : f < 0
          · clear hf
            go_enter Tryz.func106, Tryz.ntmps106
            go_wp2_with fail
            go_quiet (fail)
            go_wp2
            go_ret
            exact ⟨rfl, below_drewN HB.out _⟩
          · by_cases g6 : (n : Int) ≤ f
            · clear hf
              go_enter Tryz.func106, Tryz.ntmps106
              go_wp2_with fail
              go_quiet (fail)
              go_wp2
              go_ret
              exact ⟨rfl, below_drewN HB.out _⟩
            · exact absurd ⟨g0, rfl, rfl, rfl, rfl, by omega, by omega⟩ hf
        · have e4 : (t != (id : Int)) = true := bne_iff_ne.2 g4
          clear hf
          go_enter Tryz.func106, Tryz.ntmps106
          go_wp2_with fail
          go_quiet (fail)
          go_wp2
          go_ret
          exact ⟨rfl, below_drewN HB.out _⟩
      · have e3 : (a != att) = true := bne_iff_ne.2 g3
        clear hf
        go_enter Tryz.func106, Tryz.ntmps106
        go_wp2_with fail
        go_quiet (fail)
        go_wp2
        go_ret
        exact ⟨rfl, below_drewN HB.out _⟩
    · have e2 : (d != deal) = true := bne_iff_ne.2 g2
      clear hf
      go_enter Tryz.func106, Tryz.ntmps106
      go_wp2_with fail
      go_quiet (fail)
      go_wp2
      go_ret
      exact ⟨rfl, below_drewN HB.out _⟩
  · have e1 : (k != wait) = true := bne_iff_ne.2 g1
    clear hf
    go_enter Tryz.func106, Tryz.ntmps106
    go_wp2_with fail
    go_quiet (fail)
    go_wp2
    go_ret
    exact ⟨rfl, below_drewN HB.out _⟩
end
structure FIn (w W : World) (f t d k a : Int) (y : Bool) (p1 p2 p3 : Int) : Prop where
  row : W.heap[w.heap.size]? = some (.cells #[.int .i64 f, .int .i64 t, .int .i64 d, .int .i64 k, .int .i64 a, .bool y, .int .i64 p1, .int .i64 p2, .int .i64 p3] 130 (0, 0))
theorem FIn.later {w W V : World} {f t d k a : Int} {y : Bool} {p1 p2 p3 : Int} (h : FIn w W f t d k a y p1 p2 p3) (hb : Below W.heap.size W V) : FIn w V f t d k a y p1 p2 p3 := ⟨(hb.block _ (row_ltJ h.row)).trans h.row⟩
section
variable {w : World} {lb id n cap : Nat} {deal att : Int} {aw : Option Addr} {st : ByteArray} {wait : Int} {vh : Value} {hs : List F9} {ph seen : Int}
set_option maxHeartbeats 4000000 in
set_option maxRecDepth 100000 in
theorem rlhear_again (f : Nat) (k : Int) (y : Bool) (p1 p2 p3 : Int) (x : F9) (h : RLd w lb id n cap deal att aw st k vh hs ph seen) (hl : hs.length ≤ 1000) (hw : k ≠ 0) (hf : f < n) (hx : fromL hs f = some x) :
    Calls Tryz.prog 106 #[.pointer (some ⟨lb, 0, none⟩), frV f id deal k att y p1 p2 p3] w fun e w' => e = .returned (.slice none 0 0) ∧ Below w.heap.size w w' := by
  obtain ⟨W, HW⟩ : ∃ W, Hid (w.alloc (.cells #[.int .i64 (f : Int), .int .i64 (id : Int), .int .i64 deal, .int .i64 k, .int .i64 att, .bool y, .int .i64 p1, .int .i64 p2, .int .i64 p3] 130) = W) := ⟨_, rfl⟩
  have HB : Hid (Below w.heap.size w W) := by rw [← HW.out]; exact (Below.refl _ _).alloc (Nat.le_refl _) _
  have HR : Hid (FIn w W f id deal k att y p1 p2 p3) := by rw [← HW.out]; exact ⟨heap_alloc_new w _⟩
  obtain ⟨b0, b1, b2, b3, b4, b5, b6, b7, b8⟩ := nine HR.out.row
  have HI := hid (h.later HB.out)
  obtain ⟨c0, c1, c2, c3, c4, c5, c6, c7, c8⟩ := HI.out.cells
  have hW := HW.out
  have e0 : (k == 0) = false := beq_eq_false_iff_ne.2 hw
  have f7 : ¬ (n : Int) ≤ (f : Int) := by omega
  have HX := hid hx
  obtain ⟨xf, xt, xd, xk, xa, xy, xph, xpr, xpa⟩ := x
  clear h hx
  go_enter Tryz.func106, Tryz.ntmps106
  go_wp2_with fail
  go_quiet (fail)
  have HB2 := hid (below_drewN (Below.refl W.heap.size W) nq)
  generalize W.drewN nq = V at HB2 ⊢
  have HI2 := hid (HI.out.later HB2.out)
  have HR2 := hid (HR.out.later HB2.out)
  have HB3 := hid (HB.out.trans (HB2.out.mono HB.out.size))
  clear b0 b1 b2 b3 b4 b5 b6 b7 b8 c0 c1 c2 c3 c4 c5 c6 c7 c8
  obtain ⟨b0, b1, b2, b3, b4, b5, b6, b7, b8⟩ := nine HR2.out.row
  go_wp2_with fail
  refine (rlfrom_any lb id n cap deal att aw st k vh hs ph seen f _ HI2.out hl).mono ?_
  rw [HX.out]
  unfold frO
  simp only [Option.isSome]
  rintro e w1 ⟨rfl, hb1⟩
  have HB4 := hid (HB3.out.trans (hb1.mono HB3.out.size))
  clear hb1
  go_wp2_with fail
  go_ret
  exact ⟨rfl, HB4.out.alloc HB4.out.size _⟩
end
def SL (w : World) (a : Option Addr) (L : List S3) : Prop :=
  ∀ i (h : i < L.length), ∃ b off, a = some ⟨b, off, none⟩ ∧ w.cell? ⟨b, off + i * 3, none⟩ = some (.int .i64 (L[i]'h).p) ∧ w.cell? ⟨b, off + i * 3 + 1, none⟩ = some (.int .i64 (L[i]'h).r) ∧ w.cell? ⟨b, off + i * 3 + 2, none⟩ = some (.int .i64 (L[i]'h).a)
theorem SL.later {w w' : World} {a : Option Addr} {L : List S3} (h : SL w a L) (hb : Below w.heap.size w w') : SL w' a L := fun i hi => by
  obtain ⟨b, off, ha, h0, h1, h2⟩ := h i hi
  exact ⟨b, off, ha, cell_later hb h0, cell_later hb h1, cell_later hb h2⟩
theorem SL.nil (w : World) (a : Option Addr) : SL w a [] := fun _ h => absurd h (Nat.not_lt_zero _)
theorem take_snoc {α : Type} (L : List α) (k : Nat) (h : k < L.length) : L.take (k + 1) = L.take k ++ [L[k]] := by
  rw [List.take_add_one, List.getElem?_eq_getElem h]; rfl
theorem gr_take (p : Int) (L : List S3) (k : Nat) (h : k < L.length) : gr p (L.take (k + 1)) = grS p (gr p (L.take k)) L[k] := by rw [take_snoc L k h, gr_snoc]
theorem Tryz.infoS3 : (Tryz.prog.info? 113).map (fun i => (i.zero, i.size, i.bytes)) = some (some (.agg #[.int .i64 0, .int .i64 0, .int .i64 0]), 3, 24) := by kernel_rfl
def stCells (L : List S3) : List Value := L.flatMap fun s => [.int .i64 s.p, .int .i64 s.r, .int .i64 s.a]
theorem stCells_cons (s : S3) (L : List S3) : stCells (s :: L) = .int .i64 s.p :: .int .i64 s.r :: .int .i64 s.a :: stCells L := rfl
theorem stCells_append (L M : List S3) : stCells (L ++ M) = stCells L ++ stCells M := by simp [stCells, List.flatMap_append]
theorem stCells_length : ∀ L : List S3, (stCells L).length = L.length * 3
  | [] => rfl
  | s :: L => by rw [stCells_cons]; simp [stCells_length L]; omega
theorem stCells_get : ∀ (L : List S3) (i : Nat) (h : i < L.length), (stCells L)[i * 3]? = some (.int .i64 (L[i]'h).p) ∧ (stCells L)[i * 3 + 1]? = some (.int .i64 (L[i]'h).r) ∧ (stCells L)[i * 3 + 2]? = some (.int .i64 (L[i]'h).a)
  | [], i, h => absurd h (Nat.not_lt_zero _)
  | s :: L, 0, _ => ⟨rfl, rfl, rfl⟩
  | s :: L, i + 1, h => by
    have ih := stCells_get L i (by simpa using h)
    rw [stCells_cons, show (i + 1) * 3 = i * 3 + 1 + 1 + 1 by omega]
    simpa using ih
theorem stCells_one (L : List S3) : ∀ u ∈ stCells L, u.oneCell' = true := by
  intro u hu
  obtain ⟨s, -, hs⟩ := List.mem_flatMap.1 hu
  simp at hs
  rcases hs with rfl | rfl | rfl <;> rfl
theorem SL.cells {w : World} {ad : Addr} {L : List S3} (h : SL w (some ad) L) : ∀ j u, (stCells L)[j]? = some u → w.cell? (ad.add j) = some u := by
  intro j u hj
  have hlt : j < (stCells L).length := (List.getElem?_eq_some_iff.1 hj).1
  rw [stCells_length] at hlt
  have hi : j / 3 < L.length := by omega
  obtain ⟨b, off, e, h0, h1, h2⟩ := h (j / 3) hi
  obtain ⟨g0, g1, g2⟩ := stCells_get L (j / 3) hi
  obtain rfl := Option.some.inj e
  rw [addr_add]
  rcases (by omega : j = j / 3 * 3 ∨ j = j / 3 * 3 + 1 ∨ j = j / 3 * 3 + 2) with e | e | e
  · rw [← e] at g0 h0; rw [g0] at hj; rw [← hj]; exact h0
  · rw [← e] at g1; rw [Nat.add_assoc, ← e] at h1; rw [g1] at hj; rw [← hj]; exact h1
  · rw [← e] at g2; rw [Nat.add_assoc, ← e] at h2; rw [g2] at hj; rw [← hj]; exact h2
theorem SL.owned {w : World} {base : Nat} {v : Value} {L : List S3} (h : w.ownsRow base 113 3 v L.length (stCells L)) : ∃ a cap, v = .slice a L.length cap ∧ (a = none → cap = 0) ∧ SL w a L := by
  have hc := h
  rcases h.2 with ⟨rfl, h0⟩ | ⟨g, cap, cur, rfl, hb, hg, hle, hcap, hsz, htk⟩
  · have e : L = [] := List.length_eq_zero_iff.1 h0
    subst e
    exact ⟨none, 0, rfl, fun _ => rfl, SL.nil _ _⟩
  · refine ⟨_, cap, rfl, (fun h => by cases h), fun i hi => ⟨g, 0, rfl, ?_, ?_, ?_⟩⟩
    · have := hc.cellAt (i * 3) (by omega)
      rw [Nat.zero_add, this]; exact (stCells_get L i hi).1
    · have := hc.cellAt (i * 3 + 1) (by omega)
      rw [Nat.zero_add, this]; exact (stCells_get L i hi).2.1
    · have := hc.cellAt (i * 3 + 2) (by omega)
      rw [Nat.zero_add, this]; exact (stCells_get L i hi).2.2
theorem wp_append_states {ops : Array Oper} {rest : List Oper} {o : Oper} {a : Act} {Q : Exit → Act → World → Prop} {w : World} (hgd : o.guard = none) (s x : Operand)
    (ho : o.op = .call { callee := .builtin .append, args := #[s, x], argTypes := #[181, 181] }) (base : Nat)
    (v : Value) (M : List S3) (hs : a.eval s = v) (hown : w.ownsRow base 113 3 v M.length (stCells M)) (ad : Option Addr) (n cap : Nat) (L : List S3) (hx : a.eval x = .slice ad n cap) (hn : n = L.length) (hno : ad = none → cap = 0)
    (hL : SL w ad L) (h1 : M.length ≤ 100) (h2 : L.length ≤ 100) (hbase : base ≤ w.heap.size)
    (h : ∀ v' w', w'.ownsRow base 113 3 v' (M ++ L).length (stCells (M ++ L)) → Below base w w' → wpList Tryz.prog ops Q rest (a.put o.dst v') w') : wpList Tryz.prog ops Q (o :: rest) a w := by
  obtain ⟨i0, hi, hz0, hz1, hz2⟩ := info_parts Tryz.infoS3
  subst hn
  cases ad with
  | none =>
    have hc := hno rfl
    subst hc
    have hz : L = [] := by
      cases L with
      | nil => rfl
      | cons y r => obtain ⟨b, off, e, _⟩ := hL 0 (by simp); cases e
    subst hz
    refine wpList_append_own_none hgd s x 181 ho base 113 i0 3 Tryz.underlying181 hi v M.length (stCells M) hs hown hx ?_
    exact h v w (by rw [List.append_nil]; exact hown) (Below.refl _ _)
  | some ad =>
    refine wpList_append_own _ hgd s x 181 ho base 113 i0 _ 3 24 Tryz.underlying181 hi hz0 hz1 hz2 rfl (by decide) v M.length (stCells M) hs hown ad L.length cap (stCells L) hx (stCells_length L) hL.cells (stCells_one L) (by unfold maxLen; omega) (by omega) hbase ?_
    intro v' w' h3 h4 _
    refine h v' w' (by rw [List.length_append, stCells_append]; exact h3) ((Below.refl _ _).grown h4 hbase fun k hk => ?_)
    rcases hown.2 with ⟨rfl, _⟩ | ⟨g, cap', cur, rfl, hb, _⟩
    · cases hk
    · simp [Value.ownBlock] at hk; omega
end Go.Proofs.YtbaamegnmeohoacGreatDoor
