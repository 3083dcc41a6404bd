/-
  On the way to WStepsProof: QG QH XU RA.
-/
import Derived.Test.YtbaamegnmeohoacGreatDoorBs2
import Derived.Test.YtbaamegnmeohoacGreatDoorBs23
import Derived.Test.YtbaamegnmeohoacGreatDoorBs4
import Derived.Test.YtbaamegnmeohoacGreatDoorBs7
namespace Go.Proofs.YtbaamegnmeohoacGreatDoor
open Go.RowKit
theorem gr_same' {p : Int} {L M : List S3} (h : ∀ s : S3, s.p = p → (s ∈ L ↔ s ∈ M)) : gr p L = gr p M := by
  rcases gr_of p L with ⟨h1, ⟨t, ht, hp, ha⟩, h3⟩ | ⟨h1, h2⟩
  · rcases gr_of p M with ⟨g1, ⟨u, hu, up, ua⟩, g3⟩ | ⟨g1, g2⟩
    · have a1 := g3 t ((h t hp).1 ht) hp
      have a2 := h3 u ((h u up).2 hu) up
      refine Prod.ext ?_ (h1.trans g1.symm)
      omega
    · exact absurd hp (g2 t ((h t hp).1 ht))
  · rcases gr_of p M with ⟨g1, ⟨u, hu, up, ua⟩, g3⟩ | ⟨g1, g2⟩
    · exact absurd up (h2 u ((h u up).2 hu))
    · rw [h1, g1]
theorem choose_same' {L M : List S3} (h : ∀ s : S3, s.p ≠ 0 → (s ∈ L ↔ s ∈ M)) : chooseL L = chooseL M := by
  unfold chooseL
  rw [gr_same' (p := 2) (fun s e => h s (by omega)), gr_same' (p := 3) (fun s e => h s (by omega)), gr_same' (p := 4) (fun s e => h s (by omega)), gr_same' (p := 5) (fun s e => h s (by omega))]
theorem fromL_snoc (hs : List F9) (f : F9) (i : Int) : fromL (hs ++ [f]) i = (fromL hs i).or (if f.f = i then some f else none) := by
  unfold fromL
  rw [List.find?_append]
  congr 1
  by_cases h : f.f = i
  · rw [if_pos h]; simp [h]
  · rw [if_neg h]; simp [h]
theorem fromL_other {hs : List F9} {f : F9} {i : Int} (h : f.f ≠ i) : fromL (hs ++ [f]) i = fromL hs i := by
  rw [fromL_snoc, if_neg h, Option.or_none]
theorem fromL_new {hs : List F9} {f : F9} (h : fromL hs f.f = none) : fromL (hs ++ [f]) f.f = some f := by
  rw [fromL_snoc, h, if_pos rfl]; rfl
theorem setTo_snoc {hs : List F9} {f : F9} {m : Nat} (hm : f.f = (m : Int)) (hn : fromL hs m = none) : ∀ k, setTo (hs ++ [f]) k = setTo hs k + (if m < k then 2 ^ m else 0)
  | 0 => by simp [setTo]
  | k + 1 => by
    unfold setTo
    rw [setTo_snoc hm hn k]
    by_cases e : m = k
    · subst e
      have h1 : (fromL (hs ++ [f]) (m : Int)).isSome = true := by rw [← hm, fromL_new (by rw [hm]; exact hn)]; rfl
      have h2 : ¬ (fromL hs (m : Int)).isSome = true := by rw [hn]; simp
      rw [if_pos h1, if_neg h2, if_neg (by omega), if_pos (by omega)]
      omega
    · rw [fromL_other (by omega)]
      by_cases g : m < k
      · rw [if_pos g, if_pos (show m < k + 1 by omega)]; split <;> omega
      · rw [if_neg g, if_neg (show ¬ m < k + 1 by omega)]; split <;> omega
theorem bit_addpow {a : Int} {k : Nat} (h0 : 0 ≤ a) (h1 : a < 2 ^ k) (i : Nat) : bit (a + 2 ^ k) i = (decide (i = k) || bit a i) := by
  obtain ⟨n, rfl⟩ := Int.eq_ofNat_of_zero_le h0
  have hn : n < 2 ^ k := by
    have : ((n : Nat) : Int) < ((2 ^ k : Nat) : Int) := by rw [← pow_nat]; exact h1
    omega
  unfold bit
  have e : (((n : Nat) : Int) + 2 ^ k).toNat = 2 ^ k + n := by rw [pow_nat]; omega
  rw [e, Int.toNat_natCast]
  rcases Nat.lt_trichotomy i k with g | g | g
  · rw [Nat.testBit_two_pow_add_gt g, decide_eq_false (by omega)]; rfl
  · subst g
    rw [Nat.testBit_two_pow_add_eq, Nat.testBit_lt_two_pow hn, decide_eq_true rfl]; rfl
  · have h2 : 2 ^ (k + 1) ≤ 2 ^ i := Nat.pow_le_pow_right (by decide) g
    have h3 : 2 ^ (k + 1) = 2 * 2 ^ k := by rw [Nat.pow_succ]; omega
    rw [Nat.testBit_lt_two_pow (by omega), Nat.testBit_lt_two_pow (by omega), decide_eq_false (by omega)]; rfl
theorem setTo_bit (hs : List F9) : ∀ (k i : Nat), bit (setTo hs k) i = (decide (i < k) && (fromL hs i).isSome)
  | 0, i => by simp [setTo, bit]
  | k + 1, i => by
    obtain ⟨h0, h1⟩ := setTo_bd hs k
    unfold setTo
    by_cases g : (fromL hs (k : Int)).isSome = true
    · rw [if_pos g, bit_addpow h0 h1, setTo_bit hs k i]
      by_cases e : i = k
      · subst e; rw [g]; simp
      · rw [decide_eq_false e, Bool.false_or]
        by_cases l : i < k
        · rw [decide_eq_true l, decide_eq_true (show i < k + 1 by omega)]
        · rw [decide_eq_false l, decide_eq_false (show ¬ i < k + 1 by omega)]
    · rw [if_neg g, setTo_bit hs k i]
      by_cases e : i = k
      · subst e
        have : (fromL hs (i : Int)).isSome = false := by simpa using g
        rw [this]; simp
      · by_cases l : i < k
        · rw [decide_eq_true l, decide_eq_true (show i < k + 1 by omega)]
        · rw [decide_eq_false l, decide_eq_false (show ¬ i < k + 1 by omega)]
def cntTo (hs : List F9) : Nat → Nat
  | 0 => 0
  | k + 1 => if (fromL hs k).isSome = true then cntTo hs k + 1 else cntTo hs k
theorem cntTo_le (hs : List F9) : ∀ k, cntTo hs k ≤ k
  | 0 => Nat.le_refl _
  | k + 1 => by have := cntTo_le hs k; unfold cntTo; split <;> omega
theorem cntTo_snoc {hs : List F9} {f : F9} {m : Nat} (hm : f.f = (m : Int)) (hn : fromL hs m = none) : ∀ k, cntTo (hs ++ [f]) k = cntTo hs k + (if m < k then 1 else 0)
  | 0 => by simp [cntTo]
  | k + 1 => by
    unfold cntTo
    rw [cntTo_snoc hm hn k]
    by_cases e : m = k
    · subst e
      have h1 : (fromL (hs ++ [f]) (m : Int)).isSome = true := by rw [← hm, fromL_new (by rw [hm]; exact hn)]; rfl
      have h2 : ¬ (fromL hs (m : Int)).isSome = true := by rw [hn]; simp
      rw [if_pos h1, if_neg h2, if_neg (by omega), if_pos (by omega)]
    · rw [fromL_other (by omega)]
      by_cases g : m < k
      · rw [if_pos g, if_pos (show m < k + 1 by omega)]; split <;> omega
      · rw [if_neg g, if_neg (show ¬ m < k + 1 by omega)]; split <;> omega
theorem all_iff (hs : List F9) : ∀ k, (cntTo hs k = k ↔ setTo hs k = 2 ^ k - 1)
  | 0 => by simp [cntTo, setTo]
  | k + 1 => by
    have ih := all_iff hs k
    have h1 := cntTo_le hs k
    obtain ⟨h2, h3⟩ := setTo_bd hs k
    have e : (2 : Int) ^ (k + 1) = 2 * 2 ^ k := by rw [Int.pow_succ]; omega
    unfold cntTo setTo
    rw [e]
    by_cases g : (fromL hs (k : Int)).isSome = true
    · rw [if_pos g, if_pos g]; omega
    · rw [if_neg g, if_neg g]; omega
theorem cntTo_nil : ∀ k, cntTo [] k = 0
  | 0 => rfl
  | k + 1 => by unfold cntTo; rw [if_neg (by simp [fromL]), cntTo_nil k]
theorem setTo_nil : ∀ k, setTo [] k = 0
  | 0 => rfl
  | k + 1 => by unfold setTo; rw [if_neg (by simp [fromL]), setTo_nil k]
def tl (hs : List F9) (i : Nat) : S3 := match fromL hs i with
  | none => ⟨0, 0, 0⟩
  | some x => ⟨x.ph, x.pr, x.pa⟩
theorem mem_toldTo (hs : List F9) (s : S3) : ∀ k, (s ∈ toldTo hs k ↔ ∃ i, i < k ∧ ∃ x, fromL hs (i : Nat) = some x ∧ s = ⟨x.ph, x.pr, x.pa⟩)
  | 0 => by
    unfold toldTo
    constructor
    · intro h; cases h
    · rintro ⟨i, hi, -⟩; omega
  | k + 1 => by
    have ih := mem_toldTo hs s k
    unfold toldTo
    cases hf : fromL hs (k : Int) with
    | none =>
      simp only
      rw [ih]
      constructor
      · rintro ⟨i, hi, x, hx, e⟩; exact ⟨i, by omega, x, hx, e⟩
      · rintro ⟨i, hi, x, hx, e⟩
        refine ⟨i, ?_, x, hx, e⟩
        rcases Nat.lt_or_ge i k with g | g
        · exact g
        · obtain rfl : i = k := by omega
          rw [hf] at hx; cases hx
    | some y =>
      simp only [List.mem_append, List.mem_singleton]
      rw [ih]
      constructor
      · rintro (⟨i, hi, x, hx, e⟩ | e)
        · exact ⟨i, by omega, x, hx, e⟩
        · exact ⟨k, by omega, y, hf, e⟩
      · rintro ⟨i, hi, x, hx, e⟩
        rcases Nat.lt_or_ge i k with g | g
        · exact .inl ⟨i, g, x, hx, e⟩
        · obtain rfl : i = k := by omega
          rw [hf] at hx
          obtain rfl := Option.some.inj hx
          exact .inr e
theorem fromL_mem {hs : List F9} {i : Int} {x : F9} (h : fromL hs i = some x) : x ∈ hs ∧ x.f = i := by
  unfold fromL at h
  exact ⟨List.mem_of_find?_eq_some h, by simpa using List.find?_some h⟩
theorem choose_told {hs : List F9} {n : Nat} (hn : n ≤ 7) (hs0 : ∀ x, x ∈ hs → 0 ≤ x.f ∧ x.f < n) : chooseL ((List.range 7).map (tl hs)) = refL (toldTo hs n) := by
  rw [← choose_ref]
  refine choose_same' fun s hp => ?_
  rw [mem_toldTo, List.mem_map]
  constructor
  · rintro ⟨i, hi, rfl⟩
    unfold tl at hp ⊢
    cases hf : fromL hs (i : Int) with
    | none => rw [hf] at hp; exact absurd rfl hp
    | some x =>
      obtain ⟨h1, h2⟩ := fromL_mem hf
      have := (hs0 x h1).2
      exact ⟨i, by omega, x, hf, rfl⟩
  · rintro ⟨i, hi, x, hx, rfl⟩
    refine ⟨i, List.mem_range.2 (by omega), ?_⟩
    unfold tl
    rw [hx]
theorem told_new {hs : List F9} {f : F9} {m : Nat} (hm : f.f = (m : Int)) (hn : fromL hs m = none) (h7 : m < 7) : toldS ((List.range 7).map (tl hs)) m ⟨f.ph, f.pr, f.pa⟩ = (List.range 7).map (tl (hs ++ [f])) := by
  refine List.ext_getElem? fun i => ?_
  show (((List.range 7).map (tl hs)).set m ⟨f.ph, f.pr, f.pa⟩)[i]? = _
  rw [List.getElem?_set]
  by_cases e : m = i
  · subst e
    rw [if_pos rfl, if_pos (by simpa using h7), List.getElem?_map, List.getElem?_range h7]
    simp only [Option.map_some]
    unfold tl
    rw [← hm, fromL_new (by rw [hm]; exact hn)]
  · rw [if_neg e, List.getElem?_map, List.getElem?_map]
    rcases Nat.lt_or_ge i 7 with g | g
    · rw [List.getElem?_range g]
      simp only [Option.map_some]
      unfold tl
      rw [fromL_other (by omega)]
    · rw [List.getElem?_eq_none (by simpa using g)]
      rfl
theorem sent_to (id : Nat) (deal kind att ph : Int) : ∀ k, sentL id deal kind att ph true k = toL id deal kind att ph k
  | 0 => rfl
  | k + 1 => by
    unfold sentL toL
    rw [if_neg (by simp), sent_to id deal kind att ph k]
structure Rel (n : Nat) (att : Int) (P : PL) (L : LSt) : Prop where
  pw : PW n P
  stt : P.stt = L.stt
  st4 : P.stt < 4
  wait : L.wait = if P.stt = 0 then (if att = 0 then 2 else 4) else if P.stt = 1 then 6 else 0
  snd : ∀ x, x ∈ L.hs → 0 ≤ x.f ∧ x.f < n
  cnt : P.stt ≤ 1 → L.hs.length = cntTo L.hs n
  ans : P.stt ≤ 1 → P.ans = setTo L.hs n
  told : P.stt = 0 → P.told = (List.range 7).map (tl (if att = 0 then [] else L.hs))
  prep : P.stt = 1 → P.prep = L.ph
  seen : P.seen = L.seen
  has : P.has = false → P.seen = 0
  pos : 0 ≤ P.seen
theorem Rel.waits {n : Nat} {att : Int} {P : PL} {L : LSt} (h : Rel n att P L) (h0 : 0 ≤ att) (k : Int) : waitsB P att k = true ↔ (L.wait ≠ 0 ∧ k = L.wait) := by
  rw [h.wait]
  constructor
  · intro hw
    rcases waits_ways hw with ⟨rfl, hs, ha⟩ | ⟨rfl, hs, ha⟩ | ⟨rfl, hs⟩
    · rw [if_pos hs, if_pos ha]; omega
    · rw [if_pos hs, if_neg (by omega)]; omega
    · rw [if_neg (by omega), if_pos hs]; omega
  · rintro ⟨h1, h2⟩
    unfold waitsB
    by_cases g0 : P.stt = 0
    · rw [if_pos g0] at h2
      by_cases ga : att = 0
      · rw [if_pos ga] at h2; subst h2; simp [g0, ga]
      · rw [if_neg ga] at h2; subst h2; simp [g0]; omega
    · rw [if_neg g0] at h1 h2
      by_cases g1 : P.stt = 1
      · rw [if_pos g1] at h2; subst h2; simp [g1]
      · rw [if_neg g1] at h1; exact absurd rfl h1
theorem Rel.takes {n id : Nat} {deal att : Int} {P : PL} {L : LSt} {f : F9} (h : Rel n att P L) (h0 : 0 ≤ att) : takesB n id deal att P f = true ↔ (forL n id deal att L f ∧ (fromL L.hs f.f).isSome = false) := by
  constructor
  · intro ht
    obtain ⟨⟨h1, h2, h3⟩, hw, ⟨h4, h5⟩, hb⟩ := takesB_in ht
    obtain ⟨g1, g2⟩ := (h.waits h0 f.k).1 hw
    refine ⟨⟨g1, g2, h2, h3, h1, h4, h5⟩, ?_⟩
    have hst : P.stt ≤ 1 := by
      rw [h.wait] at g1
      rcases Nat.lt_or_ge 1 P.stt with g | g
      · rw [if_neg (by omega), if_neg (by omega)] at g1; exact absurd rfl g1
      · exact g
    rw [h.ans hst, setTo_bit, decide_eq_true (show f.f.toNat < n by omega), Bool.true_and, show ((f.f.toNat : Nat) : Int) = f.f by omega] at hb
    exact hb
  · rintro ⟨⟨g1, g2, h2, h3, h1, h4, h5⟩, hb⟩
    have hst : P.stt ≤ 1 := by
      rw [h.wait] at g1
      rcases Nat.lt_or_ge 1 P.stt with g | g
      · rw [if_neg (by omega), if_neg (by omega)] at g1; exact absurd rfl g1
      · exact g
    rw [tk_in ⟨h1, h2, h3⟩ ((h.waits h0 f.k).2 ⟨g1, g2⟩) ⟨h4, h5⟩, h.ans hst, setTo_bit, decide_eq_true (show f.f.toNat < n by omega), Bool.true_and, show ((f.f.toNat : Nat) : Int) = f.f by omega, hb]
    rfl
theorem see_seen {P : PL} {p : Int} (h : P.has = false → P.seen = 0) (h0 : 0 ≤ P.seen) (hp : 0 ≤ p) :
    (seeP P p).seen = (if P.seen < p then p else P.seen) ∧ ((seeP P p).has = false → (seeP P p).seen = 0) ∧ 0 ≤ (seeP P p).seen := by
  unfold seeP
  by_cases g : P.has = false ∨ P.seen < p
  · rw [if_pos g]
    refine ⟨?_, fun e => (by cases e), hp⟩
    show p = _
    by_cases l : P.seen < p
    · rw [if_pos l]
    · rw [if_neg l]
      rcases g with g | g
      · have := h g; omega
      · exact absurd g l
  · rw [if_neg g, if_neg (fun l => g (.inr l))]
    exact ⟨rfl, h, h0⟩
section
variable {zs : List Int} {id : Nat} {deal att : Int} {P : PL} {L : LSt} {f : F9}
theorem Rel.step (h : Rel zs.length att P L) (h0 : 0 ≤ att) (hn : zs.length ≤ 7) (hp : f.k ≠ 2 → 0 ≤ f.pr) :
    (phear zs id deal att P f).2 = (lhear zs id deal att L f).2 ∧ Rel zs.length att (phear zs id deal att P f).1 (lhear zs id deal att L f).1 := by
  by_cases ht : takesB zs.length id deal att P f = true
  · have hq := (h.takes h0).1 ht
    obtain ⟨⟨w1, w2, -, -, -, r1, r2⟩, hnone⟩ := hq
    have hq := (h.takes h0).1 ht
    obtain ⟨-, hw, -, hb⟩ := takesB_in ht
    obtain ⟨m, hm⟩ := Int.eq_ofNat_of_zero_le r1
    have hmn : m < zs.length := by omega
    have htn : f.f.toNat = m := by omega
    have hfn : fromL L.hs (m : Int) = none := by rw [← hm]; exact Option.isSome_eq_false_iff.1 hnone |> Option.isNone_iff_eq_none.1
    have hp7 := (pow_le7 hn).1
    have hlo := h.pw.lo
    have hhi := h.pw.hi
    have hst : P.stt ≤ 1 := by
      rcases waits_ways hw with ⟨-, hs, -⟩ | ⟨-, hs, -⟩ | ⟨-, hs⟩ <;> omega
    have hans : (noteP P f).ans = setTo (L.hs ++ [f]) zs.length := by
      show ansS P.ans f.f.toNat = _
      rw [htn] at hb ⊢
      rw [ansS_add hlo (by omega) (by omega) hb, setTo_snoc hm hfn, if_pos hmn, h.ans hst]
    have hcnt : (L.hs ++ [f]).length = cntTo (L.hs ++ [f]) zs.length := by
      rw [cntTo_snoc hm hfn, if_pos hmn, List.length_append, h.cnt hst]; rfl
    have hsnd : ∀ x, x ∈ L.hs ++ [f] → 0 ≤ x.f ∧ x.f < zs.length := by
      intro x hx
      rcases List.mem_append.1 hx with g | g
      · exact h.snd x g
      · rw [List.mem_singleton.1 g]; exact ⟨r1, r2⟩
    have hpn := h.pw.note (f := f) hn r1 r2
    have hph : phear zs id deal att P f = takenP zs P f := by unfold phear; rw [if_pos ht]
    rw [hph]
    rcases waits_ways hw with ⟨hk, hs, ha⟩ | ⟨hk, hs, ha⟩ | ⟨hk, hs⟩
    · have hsl : seenL L f = L.seen := by unfold seenL; rw [if_neg (fun x => x.1 hk)]
      have htold := h.told hs
      rw [if_pos ha] at htold
      cases hy : f.y with
      | false =>
        rw [lhear_no2 hq hy hk]
        have e : takenP zs P f = decP (noteP P f) 3 := by unfold takenP; rw [if_pos hk]; unfold voteP; rw [if_pos hy]
        rw [e, hsl]
        exact ⟨rfl, hpn.dec 3, rfl, by show 2 < 4; decide, rfl, h.snd, fun g => absurd g (by show ¬ 2 ≤ 1; decide), fun g => absurd g (by show ¬ 2 ≤ 1; decide), fun g => absurd g (by show ¬ 2 = 0; decide), fun g => absurd g (by show ¬ 2 = 1; decide), h.seen, h.has, h.pos⟩
      | true =>
        have hy' : ¬ f.y = false := by rw [hy]; decide
        by_cases hall : (L.hs ++ [f]).length = zs.length
        · rw [lhear_all hq hy' hk hall]
          have e2 : (noteP P f).ans = 2 ^ zs.length - 1 := by rw [hans]; exact (all_iff _ _).1 (hcnt.symm.trans hall)
          have e : takenP zs P f = preP (noteP P f) 4 := by unfold takenP; rw [if_pos hk]; unfold voteP; rw [if_neg hy', if_pos e2]
          rw [e, hsl]
          refine ⟨rfl, hpn.pre 4, rfl, by show 1 < 4; decide, rfl, fun x hx => (by cases hx), fun _ => ?_, fun _ => ?_, fun g => absurd g (by show ¬ 1 = 0; decide), fun _ => rfl, h.seen, h.has, h.pos⟩
          · show 0 = cntTo [] zs.length
            exact (cntTo_nil _).symm
          · show (0 : Int) = setTo [] zs.length
            exact (setTo_nil _).symm
        · rw [lhear_some hq hy' hk hall]
          have e2 : ¬ (noteP P f).ans = 2 ^ zs.length - 1 := by rw [hans]; exact fun g => hall (hcnt.trans ((all_iff _ _).2 g))
          have e : takenP zs P f = (noteP P f, none) := by unfold takenP; rw [if_pos hk]; unfold voteP; rw [if_neg hy', if_neg e2]
          rw [e, hsl]
          exact ⟨rfl, hpn, h.stt, h.st4, h.wait, hsnd, fun _ => hcnt, fun _ => hans, fun _ => by rw [if_pos ha]; exact htold, fun g => absurd (hs.symm.trans g) (by decide), h.seen, h.has, h.pos⟩
    · have k2 : ¬ f.k = 2 := by omega
      have hpr := hp k2
      have hsl : seenL L f = (if P.seen < f.pr then f.pr else P.seen) := by
        unfold seenL
        rw [h.seen]
        by_cases g : L.seen < f.pr
        · rw [if_pos ⟨k2, g⟩, if_pos g]
        · rw [if_neg (fun x => g x.2), if_neg g]
      obtain ⟨s1, s2, s3⟩ := see_seen (P := noteP P f) h.has h.pos hpr
      obtain ⟨u1, u2, u3, u4⟩ := seeP_of (noteP P f) f.pr
      have hQw := hpn.see f.pr
      have hseen : (seeP (noteP P f) f.pr).seen = seenL L f := by rw [hsl]; exact s1
      have htold := h.told hs
      rw [if_neg (show ¬ att = 0 by omega)] at htold
      generalize hQe : seeP (noteP P f) f.pr = Q at *
      have hQa : Q.ans = setTo (L.hs ++ [f]) zs.length := u2.trans hans
      have hQs : Q.stt = 0 := u1.trans hs
      cases hy : f.y with
      | false =>
        rw [lhear_no hq hy k2]
        have e : takenP zs P f = ({ Q with stt := 3 }, none) := by unfold takenP; rw [if_neg k2, if_pos hy, hQe]
        rw [e]
        exact ⟨rfl, ⟨hQw.len, hQw.lo, hQw.hi⟩, rfl, by show 3 < 4; decide, rfl, h.snd, fun g => absurd g (by show ¬ 3 ≤ 1; decide), fun g => absurd g (by show ¬ 3 ≤ 1; decide), fun g => absurd g (by show ¬ 3 = 0; decide), fun g => absurd g (by show ¬ 3 = 1; decide), hseen, s2, s3⟩
      | true =>
        have hy' : ¬ f.y = false := by rw [hy]; decide
        have e : takenP zs P f = tellP zs Q m ⟨f.ph, f.pr, f.pa⟩ := by unfold takenP; rw [if_neg k2, if_neg hy', if_pos hk, hQe, htn]
        rw [e]
        have hTold : toldS Q.told m ⟨f.ph, f.pr, f.pa⟩ = (List.range 7).map (tl (L.hs ++ [f])) := by
          rw [u3, show (noteP P f).told = P.told from rfl, htold]
          exact told_new hm hfn (by omega)
        have hCh : chooseL (toldS Q.told m ⟨f.ph, f.pr, f.pa⟩) = refL (toldTo (L.hs ++ [f]) zs.length) := by rw [hTold]; exact choose_told hn hsnd
        unfold tellP
        by_cases hen : enoughB zs (setTo (L.hs ++ [f]) zs.length) = false
        · rw [if_pos (show enoughB zs Q.ans = false by rw [hQa]; exact hen), lhear_few hq hy' k2 hen]
          refine ⟨rfl, hQw.tell m _, u1.trans h.stt, by show Q.stt < 4; omega, ?_, hsnd, fun _ => hcnt, fun _ => hQa, fun _ => ?_, fun g => absurd (hQs.symm.trans g) (by decide), hseen, s2, s3⟩
          · show L.wait = if Q.stt = 0 then _ else _
            rw [hQs, h.wait, hs]
          · show toldS Q.told m ⟨f.ph, f.pr, f.pa⟩ = _
            rw [if_neg (show ¬ att = 0 by omega)]; exact hTold
        · rw [if_neg (show ¬ enoughB zs Q.ans = false by rw [hQa]; exact hen), hCh]
          cases hc : refL (toldTo (L.hs ++ [f]) zs.length) with
          | mk cp cf =>
            cases cf with
            | true =>
              rw [if_pos rfl, lhear_fin hq hy' k2 hen (by omega) hc]
              exact ⟨rfl, (hQw.tell m _).dec cp, rfl, by show 2 < 4; decide, rfl, hsnd, fun g => absurd g (by show ¬ 2 ≤ 1; decide), fun g => absurd g (by show ¬ 2 ≤ 1; decide), fun g => absurd g (by show ¬ 2 = 0; decide), fun g => absurd g (by show ¬ 2 = 1; decide), hseen, s2, s3⟩
            | false =>
              rw [if_neg (by simp), lhear_pre hq hy' k2 hen (by omega) hc]
              refine ⟨rfl, (hQw.tell m _).pre cp, rfl, by show 1 < 4; decide, rfl, fun x hx => (by cases hx), fun _ => ?_, fun _ => ?_, fun g => absurd g (by show ¬ 1 = 0; decide), fun _ => rfl, hseen, s2, s3⟩
              · show 0 = cntTo [] zs.length
                exact (cntTo_nil _).symm
              · show (0 : Int) = setTo [] zs.length
                exact (setTo_nil _).symm
    · have k2 : ¬ f.k = 2 := by omega
      have k4 : ¬ f.k = 4 := by omega
      have hpr := hp k2
      have hsl : seenL L f = (if P.seen < f.pr then f.pr else P.seen) := by
        unfold seenL
        rw [h.seen]
        by_cases g : L.seen < f.pr
        · rw [if_pos ⟨k2, g⟩, if_pos g]
        · rw [if_neg (fun x => g x.2), if_neg g]
      obtain ⟨s1, s2, s3⟩ := see_seen (P := noteP P f) h.has h.pos hpr
      obtain ⟨u1, u2, u3, u4⟩ := seeP_of (noteP P f) f.pr
      have hQw := hpn.see f.pr
      have hseen : (seeP (noteP P f) f.pr).seen = seenL L f := by rw [hsl]; exact s1
      have hprep := h.prep hs
      generalize hQe : seeP (noteP P f) f.pr = Q at *
      have hQa : Q.ans = setTo (L.hs ++ [f]) zs.length := u2.trans hans
      have hQs : Q.stt = 1 := u1.trans hs
      have hQp : Q.prep = L.ph := u4.trans hprep
      cases hy : f.y with
      | false =>
        rw [lhear_no hq hy k2]
        have e : takenP zs P f = ({ Q with stt := 3 }, none) := by unfold takenP; rw [if_neg k2, if_pos hy, hQe]
        rw [e]
        exact ⟨rfl, ⟨hQw.len, hQw.lo, hQw.hi⟩, rfl, by show 3 < 4; decide, rfl, h.snd, fun g => absurd g (by show ¬ 3 ≤ 1; decide), fun g => absurd g (by show ¬ 3 ≤ 1; decide), fun g => absurd g (by show ¬ 3 = 0; decide), fun g => absurd g (by show ¬ 3 = 1; decide), hseen, s2, s3⟩
      | true =>
        have hy' : ¬ f.y = false := by rw [hy]; decide
        have e : takenP zs P f = ackP zs Q := by unfold takenP; rw [if_neg k2, if_neg hy', if_neg k4, hQe]
        rw [e]
        unfold ackP
        by_cases hen : enoughB zs (setTo (L.hs ++ [f]) zs.length) = false
        · rw [if_pos (show enoughB zs Q.ans = false by rw [hQa]; exact hen), lhear_few hq hy' k2 hen]
          refine ⟨rfl, hQw, u1.trans h.stt, by show Q.stt < 4; omega, ?_, hsnd, fun _ => hcnt, fun _ => hQa, fun g => absurd (hQs.symm.trans g) (by decide), fun _ => hQp, hseen, s2, s3⟩
          show L.wait = if Q.stt = 0 then _ else _
          rw [hQs, h.wait, hs]
        · rw [if_neg (show ¬ enoughB zs Q.ans = false by rw [hQa]; exact hen), lhear_ack hq hy' k2 hen hk]
          exact ⟨by show some (7, afterI Q.prep) = _; rw [hQp], hQw.dec _, rfl, by show 2 < 4; decide, rfl, hsnd, fun g => absurd g (by show ¬ 2 ≤ 1; decide), fun g => absurd g (by show ¬ 2 ≤ 1; decide), fun g => absurd g (by show ¬ 2 = 0; decide), fun g => absurd g (by show ¬ 2 = 1; decide), hseen, s2, s3⟩
  · have hq : ¬ (forL zs.length id deal att L f ∧ (fromL L.hs f.f).isSome = false) := fun g => ht ((h.takes h0).2 g)
    rw [lhear_pass hq]
    have hph : phear zs id deal att P f = (P, none) := by unfold phear; rw [if_neg ht]
    rw [hph]
    exact ⟨rfl, h⟩
end
section
variable {zs : List Int} {id : Nat} {deal att : Int} {L : LSt} {f : F9}
theorem lhear_yes (h : forL zs.length id deal att L f ∧ (fromL L.hs f.f).isSome = false) (hy : f.y = true) :
    yesR zs id deal att (stB L.stt) f.k (L.hs ++ [f]) L.ph = (outL id deal att zs.length (lhear zs id deal att L f).2, stB (lhear zs id deal att L f).1.stt, (lhear zs id deal att L f).1.wait, (lhear zs id deal att L f).1.hs, (lhear zs id deal att L f).1.ph) ∧ (lhear zs id deal att L f).1.seen = seenL L f := by
  have hy' : ¬ f.y = false := by rw [hy]; decide
  have hw : L.wait = f.k := h.1.2.1.symm
  unfold yesR
  by_cases h2 : f.k = 2
  · by_cases hall : (L.hs ++ [f]).length = zs.length
    · rw [lhear_all h hy' h2 hall, if_pos h2, if_pos hall]
      exact ⟨by simp only [outL, sent_to], rfl⟩
    · rw [lhear_some h hy' h2 hall, if_pos h2, if_neg hall]
      exact ⟨by simp only [outL, hw], rfl⟩
  · by_cases hen : enoughB zs (setTo (L.hs ++ [f]) zs.length) = false
    · rw [lhear_few h hy' h2 hen, if_neg h2, if_pos hen]
      exact ⟨by simp only [outL, hw], rfl⟩
    · by_cases h6 : f.k = 6
      · rw [lhear_ack h hy' h2 hen h6, if_neg h2, if_neg hen, if_pos h6]
        exact ⟨by simp only [outL, sent_to], rfl⟩
      · cases hc : refL (toldTo (L.hs ++ [f]) zs.length) with
        | mk p b =>
          cases b with
          | true =>
            rw [lhear_fin h hy' h2 hen h6 hc, if_neg h2, if_neg hen, if_neg h6]
            exact ⟨by simp [outL, sent_to], rfl⟩
          | false =>
            rw [lhear_pre h hy' h2 hen h6 hc, if_neg h2, if_neg hen, if_neg h6]
            exact ⟨by simp [outL, sent_to], rfl⟩
end
section
variable {w : World} {zs : List Int} {lb id cap vb vo : Nat} {deal att : Int} {vh : Value} {P : PL} {L : LSt} {f : F9}
def f9V (f : F9) : Value := frV f.f f.t f.d f.k f.a f.y f.ph f.pr f.pa
theorem rlhear_all (f : F9) (h : RLd w lb id zs.length cap deal att (some ⟨vb, vo, none⟩) (stB L.stt) L.wait vh L.hs L.ph L.seen) (hr : Rel zs.length att P L) (h0 : 0 ≤ att) (hp : f.k ≠ 2 → 0 ≤ f.pr) (he : errW zs = 0) (hvc : ∀ i, i < zs.length → w.cell? ⟨vb, vo + i, none⟩ = some (.int .i64 (zs.getD i 0))) (hvl : vb ≠ lb) (hvh : vh.ownBlock ≠ some vb) :
    Calls Tryz.prog 106 #[.pointer (some ⟨lb, 0, none⟩), f9V f] w fun e w' => ∃ v vh' L', e = .returned v ∧ IsFr w' v (outL id deal att zs.length (phear zs id deal att P f).2) ∧ Rel zs.length att (phear zs id deal att P f).1 L' ∧ RLd w' lb id zs.length cap deal att (some ⟨vb, vo, none⟩) (stB L'.stt) L'.wait vh' L'.hs L'.ph L'.seen ∧ Kept (InH lb vh) w w' ∧ ∀ g, vh'.ownBlock = some g → vh.ownBlock = some g ∨ w.heap.size ≤ g := by
  have hn7 : zs.length ≤ 7 := (errW_zero he).2.1
  obtain ⟨s1, s2⟩ := hr.step (id := id) (deal := deal) (f := f) h0 hn7 hp
  rw [s1]
  have hst : ∀ (_ : L.wait ≠ 0), L.hs.length ≤ 60 := fun hw => by
    have : P.stt ≤ 1 := by
      have := hr.wait
      rcases Nat.lt_or_ge 1 P.stt with g | g
      · rw [if_neg (by omega), if_neg (by omega)] at this; exact absurd this hw
      · exact g
    rw [hr.cnt this]
    have := cntTo_le L.hs zs.length
    omega
  by_cases hfor : forL zs.length id deal att L f
  · obtain ⟨w1, w2, w3, w4, w5, r1, r2⟩ := hfor
    have hfor : forL zs.length id deal att L f := ⟨w1, w2, w3, w4, w5, r1, r2⟩
    have hl := hst w1
    obtain ⟨ff, hff⟩ := Int.eq_ofNat_of_zero_le r1
    have hk : f.k = 2 ∨ f.k = 4 ∨ f.k = 6 := by
      have := hr.wait
      rw [w2]
      rw [this] at w1 ⊢
      split
      · split
        · exact .inl rfl
        · exact .inr (.inl rfl)
      · split
        · exact .inr (.inr rfl)
        · rename_i g1 g2
          rw [if_neg g1, if_neg g2] at w1; exact absurd rfl w1
    have hv : f9V f = frV (ff : Int) (id : Int) deal f.k att f.y f.ph f.pr f.pa := by unfold f9V; rw [hff, w5, w3, w4]
    rw [← w2] at h
    rw [hv]
    cases hx : fromL L.hs (ff : Int) with
    | some x =>
      have hq : ¬ (forL zs.length id deal att L f ∧ (fromL L.hs f.f).isSome = false) := fun g => by
        have := g.2
        rw [hff, hx] at this
        cases this
      rw [lhear_pass hq] at s2 ⊢
      refine (rlhear_again ff f.k f.y f.ph f.pr f.pa x h (by omega) (by rw [w2]; exact w1) (by omega) hx).mono ?_
      rintro e w' ⟨rfl, hb⟩
      rw [w2] at h
      exact ⟨_, vh, L, rfl, IsFr.zero _, s2, h.later hb, Kept.of_below hb, fun g hg => .inl hg⟩
    | none =>
      have hq : forL zs.length id deal att L f ∧ (fromL L.hs f.f).isSome = false := ⟨hfor, by rw [hff, hx]; rfl⟩
      cases hy : f.y with
      | false =>
        refine (rlhear_no ff f.k f.ph f.pr f.pa (seenL L f) h (by omega) hk (by omega) hx hn7 rfl).mono ?_
        rintro e w' ⟨v, rfl, hv2, hr2, hk2⟩
        by_cases h2 : f.k = 2
        · rw [lhear_no2 hq hy h2] at s2 ⊢
          rw [if_pos h2, sent_to] at hv2
          rw [if_pos h2] at hr2
          exact ⟨v, vh, _, rfl, hv2, s2, hr2, hk2.mono (fun x hx => .inl hx), fun g hg => .inl hg⟩
        · rw [lhear_no hq hy h2] at s2 ⊢
          rw [if_neg h2] at hv2 hr2
          exact ⟨v, vh, _, rfl, hv2, s2, hr2, hk2.mono (fun x hx => .inl hx), fun g hg => .inl hg⟩
      | true =>
        obtain ⟨y1, y2⟩ := lhear_yes hq hy
        have hff9 : f = ⟨ff, id, deal, f.k, att, true, f.ph, f.pr, f.pa⟩ := by
          cases f
          simp only at hff w5 w3 w4 hy
          simp only [hff, w5, w3, w4, hy]
        refine (rlhear_yes vb vo zs ff f.k f.ph f.pr f.pa (seenL L f) _ (L.hs ++ [f]) (by rw [← hff9]) h hl hk (by omega) hx rfl he hvc hvl hvh rfl y1).mono ?_
        rintro e w' ⟨v, vh', rfl, hv2, hr2, hk2, hg2⟩
        refine ⟨v, vh', _, rfl, hv2, s2, ?_, hk2, hg2⟩
        rw [y2]
        exact hr2
  · have hq : ¬ (forL zs.length id deal att L f ∧ (fromL L.hs f.f).isSome = false) := fun g => hfor g.1
    rw [lhear_pass hq] at s2 ⊢
    refine (rlhear_not f.f f.t f.d f.k f.a f.y f.ph f.pr f.pa h hfor).mono ?_
    rintro e w' ⟨rfl, hb⟩
    exact ⟨_, vh, L, rfl, IsFr.zero _, s2, h.later hb, Kept.of_below hb, fun g hg => .inl hg⟩
end
theorem idx_strR (s : ByteArray) (i : Nat) (z : Int) (h : i < s.size) (hz : z = i) (w : World) : (Instr.index 9 (.string s) (.int .i64 z)).run Tryz.prog w = .ok (.int .u8 ((s[i]'h).toNat : Int)) w := idx_str s i z h hz w
theorem conv_lit (w : World) (x : Int) (b : UInt8) (hb : (b.toNat : Int) = x) : (convert 96 9 (.slice (some ⟨w.heap.size, 0, none⟩) 1 1)).run Tryz.prog (w.alloc (.cells #[.int .u8 x] 5)) = .ok (.string (bA [b])) (w.alloc (.cells #[.int .u8 x] 5)) := by
  subst hb
  have := run_convert_bytes_back (P := Tryz.prog) (w.alloc (.cells #[.int .u8 (b.toNat : Int)] 5)) 96 9 5 ⟨w.heap.size, 0, none⟩ 1 [b] Tryz.underlying96 Tryz.underlying5 Tryz.underlying9 (fun j hj => by
    obtain rfl : j = 0 := by simpa using hj
    rw [addrAdd, cell_of_row _ w.heap.size 0 _ _ _ (heap_alloc_new w _)]; rfl)
  rw [show ([b] : List UInt8).length = 1 from rfl] at this
  rw [this]; rfl
theorem byte_any (n : Nat) (w : World) (hn : n < 256) :
    Calls Tryz.prog 131 #[.int .i64 (n : Int)] w fun e w' => e = .returned (.string (bA [UInt8.ofNat n])) ∧ Below w.heap.size w w' := by
  have hc := conv_lit w (n : Int) (UInt8.ofNat n) (by rw [UInt8.toNat_ofNat', Nat.mod_eq_of_lt (by omega)])
  go_enter Tryz.func131, Tryz.ntmps131
  go_wp2
  go_ret
  exact ⟨rfl, (Below.refl _ _).alloc (Nat.le_refl _) _⟩
theorem wide_front (i : Nat) : ∀ n, wideL n (i + 1) = UInt8.ofNat (n / 256 ^ i % 256) :: wideL n i := by
  induction i with
  | zero => intro n; simp [wideL]
  | succ i ih =>
    intro n
    rw [wideL, ih (n / 256), Nat.div_div_eq_div_mul, ← Nat.pow_succ']
    rfl
theorem bA_append (a b : List UInt8) : bA a ++ bA b = bA (a ++ b) := by
  apply ba_ext
  rw [ByteArray.data_append, Array.toList_append, bA_list, bA_list, bA_list]
set_option maxRecDepth 100000 in
theorem wide_any (n k : Nat) (w : World) (hn : n < 9223372036854775808) (hk : k ≤ 4) :
    Calls Tryz.prog 132 #[.int .i64 (n : Int), .int .i64 (k : Int)] w fun e w' => e = .returned (.string (bA (wideL n k))) ∧ Below w.heap.size w w' := by
  have HB : Hid (∀ i, UInt8.ofNat (n / 256 ^ i % 256) :: wideL n i = wideL n (i + 1)) := fun i => (wide_front i n).symm
  have HD : Hid (∀ i, n / 256 ^ i / 256 = n / 256 ^ (i + 1)) := fun i => by rw [Nat.div_div_eq_div_mul, Nat.pow_succ]
  have HL : Hid (∀ i, n / 256 ^ i < 9223372036854775808) := fun i => Nat.lt_of_le_of_lt (Nat.div_le_self _ _) hn
  have H0 : Hid (n / 256 ^ 0 = n) := by unfold Hid; simp
  have HE : Hid (ByteArray.mk #[] = bA (wideL n 0)) := rfl
  go_enter Tryz.func132, Tryz.ntmps132
  go_wp2
  go_loopw [0, 5, 6] (fun x o i wr => ∃ m : Nat, m ≤ k ∧ i = .int .i64 (m : Int) ∧ x = .int .i64 ((n / 256 ^ m : Nat) : Int) ∧ o = .string (bA (wideL n m)) ∧ Below w.heap.size w wr) (fun _ _ i _ => k - (intOf i).toNat)
  case atStart => exact ⟨0, Nat.zero_le _, rfl, by rw [H0.out], by rw [← HE.out], Below.refl _ _⟩
  case round =>
    obtain ⟨m, hm, rfl, rfl, rfl, hb⟩ := hrel
    have HBl := hid hb
    have h1 := HL.out m
    have hD := hid (HD.out m)
    have hB := hid (HB.out m)
    clear hb
    by_cases hlt : m < k
    · generalize n / 256 ^ m = x at h1 hD hB ⊢
      have z1 : (bA [UInt8.ofNat (x % 256)]).size = 1 := bA_size _
      have z2 : (bA (wideL n m)).size = m := by rw [bA_size, wideL_length]
      go_wp2_with (go_at_call 131; refine (byte_any (x % 256) _ (by omega)).mono ?_; rintro e w1 ⟨rfl, hb1⟩; have HB1 := hid (HBl.out.trans (hb1.mono HBl.out.size)); clear hb1)
      go_roundw
      case rel => exact ⟨m + 1, by omega, by go_num, val_int (by rw [← hD.out]; omega), by rw [bA_append, ← hB.out]; rfl, HB1.out⟩
      case measure => simp [intOf]; omega
    · obtain rfl : m = k := by omega
      go_wp2
      go_ret
      exact ⟨rfl, HBl.out⟩
theorem xor64 (a b : Nat) (ha : a < 9223372036854775808) (hb : b < 9223372036854775808) : bits .xor .i64 (a : Int) (b : Int) = ((a ^^^ b : Nat) : Int) := by
  have hx : a ^^^ b < 2 ^ 63 := Nat.xor_lt_two_pow (by omega) (by omega)
  show IntKind.i64.wrap ((BitVec.ofInt 64 (a : Int) ^^^ BitVec.ofInt 64 (b : Int)).toNat : Int) = _
  rw [BitVec.toNat_xor, ofInt_nat a ha, ofInt_nat b hb, IntKind.wrap_i64]
  omega
set_option maxRecDepth 100000 in
theorem crc_any (s : ByteArray) (w : World) (hs : s.size ≤ 1000) :
    Calls Tryz.prog 134 #[.string s] w fun e w' => e = .returned (.int .i64 (crcL s.data.toList : Nat)) ∧ w' = w := by
  go_enter Tryz.func134, Tryz.ntmps134
  go_wp2
  go_loop [3, 4] (fun x i => ∃ k : Nat, k ≤ s.size ∧ i = .int .i64 (k : Int) ∧ x = .int .i64 (crcFold 4294967295 (s.data.toList.take k) : Nat)) (fun _ i => s.size - (intOf i).toNat)
  case atStart => exact ⟨0, Nat.zero_le _, rfl, rfl⟩
  case round =>
    obtain ⟨k, hk, rfl, rfl⟩ := hrel
    have hc : crcFold 4294967295 (s.data.toList.take k) < 4294967296 := crcFold_lt _ (by decide)
    by_cases hlt : k < s.size
    · have ix := idx_strR s k (k : Int) hlt rfl
      have hb := UInt8.toNat_lt (s[k]'hlt)
      have HS : Hid (crcFold 4294967295 (s.data.toList.take (k + 1)) = crcBits (crcFold 4294967295 (s.data.toList.take k)) (s[k]'hlt).toNat 8) := by
        unfold Hid
        rw [← crcFold_snoc, List.take_add_one, List.getElem?_eq_getElem (by rw [← size_list]; exact hlt), getB hlt]
        rfl
      generalize (s[k]'hlt).toNat = x at ix hb HS
      generalize crcFold 4294967295 (s.data.toList.take k) = c at hc HS ⊢
      go_wp2
      go_loop [3, 5] (fun y i => ∃ m : Nat, m ≤ 8 ∧ i = .int .i64 (m : Int) ∧ y = .int .i64 (crcBits c x m : Nat)) (fun _ i => 8 - (intOf i).toNat)
      case atStart => exact ⟨0, Nat.zero_le _, rfl, rfl⟩
      case round =>
        obtain ⟨m, hm, rfl, rfl⟩ := hrel
        have hd : crcBits c x m < 4294967296 := crcBits_lt hc x m
        have HD : Hid (crcBits c x (m + 1) = crcBit (crcBits c x m) x m) := rfl
        by_cases hlt8 : m < 8
        · generalize crcBits c x m = y at hd HD ⊢
          have hq : x / 2 ^ m < 256 := Nat.lt_of_le_of_lt (Nat.div_le_self _ _) (by omega)
          have hx1 : bits .xor .i64 (y : Int) ((x : Int) / 2 ^ m) = ((y ^^^ x / 2 ^ m : Nat) : Int) := by
            rw [show ((x : Int) / 2 ^ m) = ((x / 2 ^ m : Nat) : Int) by simp]; exact xor64 y (x / 2 ^ m) (by omega) (by omega)
          have HX := hid (xor64 (y / 2) 3988292384 (by omega) (by decide))
          have HCb : Hid (crcBit y x m = if (y ^^^ x / 2 ^ m) % 2 = 1 then (y / 2) ^^^ 3988292384 else y / 2) := rfl
          generalize y ^^^ x / 2 ^ m = z at hx1 HCb
          have hpar : (z : Int) % 2 = 0 ∨ (z : Int) % 2 = 1 := by omega
          rcases hpar with hp | hp
          · have hp2 : (z : Int).tmod 2 = 0 := by rw [Int.tmod_eq_emod_of_nonneg (by omega)]; exact hp
            have HP : Hid (crcBits c x (m + 1) = y / 2) := by unfold Hid; rw [HD.out, HCb.out, if_neg (by omega)]
            go_wp2
            all_goals go_round
            case rel => exact ⟨m + 1, by omega, by go_num, val_int (by rw [HP.out]; omega)⟩
            case measure => simp [intOf]; omega
          · have hp2 : (z : Int).tmod 2 = 1 := by rw [Int.tmod_eq_emod_of_nonneg (by omega)]; exact hp
            have HP : Hid (crcBits c x (m + 1) = (y / 2) ^^^ 3988292384) := by unfold Hid; rw [HD.out, HCb.out, if_pos (by omega)]
            go_wp2
            all_goals go_round
            case rel => exact ⟨m + 1, by omega, by go_num, val_int (by rw [HP.out]; exact HX.out)⟩
            case measure => simp [intOf]; omega
        · obtain rfl : m = 8 := by omega
          go_wp2
          go_round
          case rel => exact ⟨k + 1, by omega, by go_num, val_int (by rw [HS.out])⟩
          case measure => simp [intOf]; omega
    · obtain rfl : k = s.size := by omega
      rw [size_list, List.take_length] at hc
      have HC := hid (xor64 (crcFold 4294967295 s.data.toList) 4294967295 (by omega) (by decide))
      have HT : Hid (s.data.toList.take s.size = s.data.toList) := by unfold Hid; rw [size_list, List.take_length]
      rw [HT.out]
      go_wp2
      go_ret
      exact ⟨ret_int HC.out, rfl⟩
end Go.Proofs.YtbaamegnmeohoacGreatDoor
