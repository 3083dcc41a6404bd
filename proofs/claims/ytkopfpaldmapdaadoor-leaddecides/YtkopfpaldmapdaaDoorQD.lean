/-
  PLAIN: what stands along the law LeadDecides.
-/
import Derived.Test.YtkopfpaldmapdaaDoorQI
import Derived.Test.YtkopfpaldmapdaaDoorQ8
namespace Go.Proofs.YtkopfpaldmapdaaDoor
open Go.RowKit

theorem orAll : ((List.range 128).all fun s => (List.range 7).all fun q => Nat.testBit s q || decide (s ||| 2 ^ q = s + 2 ^ q)) = true := by decide +kernel
theorem ansS_add {a : Int} {m : Nat} (h0 : 0 ≤ a) (h1 : a < 128) (hm : m < 7) (hb : bit a m = false) : ansS a m = a + 2 ^ m := by
  obtain ⟨n, rfl⟩ := Int.eq_ofNat_of_zero_le h0
  have hn : n < 128 := by omega
  have h := List.all_eq_true.1 (List.all_eq_true.1 orAll n (List.mem_range.2 hn)) m (List.mem_range.2 hm)
  unfold bit at hb
  rw [Int.toNat_natCast] at hb
  rw [hb, Bool.false_or] at h
  have h2 := of_decide_eq_true h
  have h3 : (2 : Nat) ^ m < 9223372036854775808 := Nat.lt_of_lt_of_le (Nat.pow_lt_pow_right (by decide) hm) (by decide)
  unfold ansS
  rw [pow_nat, bits_or_nat n (2 ^ m) (by omega) h3, h2, Int.natCast_add]
/-- Along the law: how the law's own tally goes with the lead. -/
structure DI (n : Nat) (att : Int) (P : PL) (acks : Int) (no : Bool) (fin phase : Int) : Prop where
  pw : PW n P
  st : P.stt = 0 ∨ P.stt = 1 ∨ P.stt = 3
  ask : P.stt = 0 → phase = 0 ∧ acks = 0
  pre : P.stt = 1 → phase = P.prep ∧ (phase = 4 ∨ phase = 5) ∧ acks = P.ans
  fin : ∀ s, s ∈ P.told → (s.p = 2 ∨ s.p = 3) → 0 < fin
/-- The law's own tally behind a frame. -/
def acksD (P : PL) (acks : Int) (m : Nat) (k : Int) (y : Bool) : Int := if k = 6 ∧ y = true ∧ P.stt = 1 ∧ bit acks m = false then acks + 2 ^ m else acks
def noD (no : Bool) (k : Int) (y : Bool) : Bool := no || (decide (k = 2) && !y)
def finD (fin k : Int) (y : Bool) (p : Int) : Int := if k = 4 ∧ y = true ∧ (p = 2 ∨ p = 3) then p else fin
theorem finD_le {fin k : Int} {y : Bool} {p : Int} (h : 0 < fin) : 0 < finD fin k y p := by
  unfold finD; split
  · omega
  · exact h
theorem waits_ways {P : PL} {att k : Int} (h : waitsB P att k = true) : (k = 2 ∧ P.stt = 0 ∧ att = 0) ∨ (k = 4 ∧ P.stt = 0 ∧ 0 < att) ∨ (k = 6 ∧ P.stt = 1) := by
  unfold waitsB at h
  simp at h
  omega
theorem mem_toldS {L : List S3} {i : Nat} {s t : S3} (h : t ∈ toldS L i s) : t ∈ L ∨ t = s := List.mem_or_eq_of_mem_set h
/-- What a round comes to. -/
def After (zs : List Int) (att : Int) (acks : Int) (no : Bool) (fin phase : Int) : PL × Option (Int × Int) → Prop
  | (Q, none) => DI zs.length att Q acks no fin phase
  | (Q, some (k, p)) => (k = 5 ∧ DI zs.length att Q acks no fin p) ∨
      (k = 7 ∧ Q.stt = 2 ∧ ((0 < phase ∧ p = afterI phase ∧ enoughB zs acks = true ∧ 0 ≤ acks ∧ acks < 2 ^ zs.length) ∨ (¬ 0 < phase ∧ att = 0 ∧ no = true ∧ p = 3) ∨ (¬ 0 < phase ∧ ¬ att = 0 ∧ 0 < fin ∧ (p = 2 ∨ p = 3))))
theorem choose_mem {L : List S3} {p : Int} (h : chooseL L = (p, true)) : (p = 2 ∨ p = 3) ∧ ∃ s, s ∈ L ∧ s.p = p := by
  unfold chooseL at h
  split at h
  · rename_i g
    obtain ⟨rfl, -⟩ := Prod.mk.inj h
    rw [gr_has, hasP_iff] at g
    exact ⟨.inl rfl, g⟩
  · split at h
    · rename_i g
      obtain ⟨rfl, -⟩ := Prod.mk.inj h
      rw [gr_has, hasP_iff] at g
      exact ⟨.inr rfl, g⟩
    · split at h <;> (obtain ⟨-, h2⟩ := Prod.mk.inj h; cases h2)
theorem step_di {zs : List Int} {att : Int} {P : PL} {acks : Int} {no : Bool} {fin phase : Int} (h : DI zs.length att P acks no fin phase) (hn : zs.length ≤ 7) {m : Nat} (hm : m < zs.length) (k : Int) (y : Bool) (p1 p2 p3 : Int) :
    After zs att (acksD P acks m k y) (noD no k y) (finD fin k y p1) phase (phear zs 0 0 att P ⟨(m : Int), 0, 0, k, att, y, p1, p2, p3⟩) := by
  have hfin : ∀ s, s ∈ P.told → (s.p = 2 ∨ s.p = 3) → 0 < finD fin k y p1 := fun s hs hp => finD_le (h.fin s hs hp)
  have hp7 := (pow_le7 hn).1
  have hlo := h.pw.lo
  have hhi := h.pw.hi
  unfold phear
  by_cases ht : takesB zs.length 0 0 att P ⟨(m : Int), 0, 0, k, att, y, p1, p2, p3⟩ = true
  · rw [if_pos ht]
    obtain ⟨-, hw, -, hb⟩ := takesB_in ht
    simp only [Int.toNat_natCast] at hb hw
    have hpn := h.pw.note (f := ⟨(m : Int), 0, 0, k, att, y, p1, p2, p3⟩) hn (by show 0 ≤ (m : Int); omega) (by show (m : Int) < zs.length; omega)
    rcases waits_ways hw with ⟨rfl, hs, ha⟩ | ⟨rfl, hs, ha⟩ | ⟨rfl, hs⟩
    · have hacks : acksD P acks m 2 y = acks := by unfold acksD; rw [if_neg (by omega)]
      rw [hacks]
      obtain ⟨q1, q2⟩ := h.ask hs
      unfold takenP
      rw [if_pos rfl]
      unfold voteP
      cases y with
      | false =>
        rw [if_pos rfl]
        exact .inr ⟨rfl, rfl, .inr (.inl ⟨by omega, ha, by simp [noD], rfl⟩)⟩
      | true =>
        rw [if_neg (by simp)]
        split
        · exact .inl ⟨rfl, ⟨hpn.pre 4, .inr (.inl rfl), fun e => (by cases e), fun _ => ⟨rfl, .inl rfl, q2⟩, hfin⟩⟩
        · exact ⟨hpn, .inl hs, fun _ => ⟨q1, q2⟩, fun e => by have : P.stt = 1 := e; omega, hfin⟩
    · have hacks : acksD P acks m 4 y = acks := by unfold acksD; rw [if_neg (by omega)]
      rw [hacks]
      obtain ⟨q1, q2⟩ := h.ask hs
      unfold takenP
      rw [if_neg (by simp)]
      have hsee := seeP_of (noteP P ⟨(m : Int), 0, 0, 4, att, y, p1, p2, p3⟩) p2
      cases y with
      | false =>
        rw [if_pos rfl]
        refine ⟨⟨?_, ?_, ?_⟩, .inr (.inr rfl), fun e => (by cases e), fun e => (by cases e), fun s hs' hp => ?_⟩
        · exact (hpn.see p2).len
        · exact (hpn.see p2).lo
        · exact (hpn.see p2).hi
        · have hs2 : s ∈ (seeP (noteP P ⟨(m : Int), 0, 0, 4, att, false, p1, p2, p3⟩) p2).told := hs'
          rw [hsee.2.2.1] at hs2
          exact hfin s hs2 hp
      | true =>
        rw [if_neg (by simp), if_pos rfl]
        generalize hQ : seeP (noteP P ⟨(m : Int), 0, 0, 4, att, true, p1, p2, p3⟩) p2 = Q
        have hQw : PW zs.length Q := by rw [← hQ]; exact hpn.see p2
        have hQs : Q.stt = 0 := by rw [← hQ, hsee.1]; exact hs
        have hQt : Q.told = P.told := by rw [← hQ, hsee.2.2.1]; rfl
        have hfin2 : ∀ s, s ∈ toldS Q.told m ⟨p1, p2, p3⟩ → (s.p = 2 ∨ s.p = 3) → 0 < finD fin 4 true p1 := by
          intro s hs' hp
          rcases mem_toldS hs' with g | rfl
          · rw [hQt] at g
            exact hfin s g hp
          · have hp' : p1 = 2 ∨ p1 = 3 := hp
            unfold finD
            rw [if_pos ⟨rfl, rfl, hp'⟩]
            omega
        show After zs att acks (noD no 4 true) (finD fin 4 true p1) phase (tellP zs Q m ⟨p1, p2, p3⟩)
        unfold tellP
        split
        · exact ⟨hQw.tell m _, .inl hQs, fun _ => ⟨q1, q2⟩, fun e => by have : Q.stt = 1 := e; omega, hfin2⟩
        · generalize hC : chooseL (toldS Q.told m ⟨p1, p2, p3⟩) = c
          obtain ⟨cp, cf⟩ := c
          cases cf with
          | true =>
            rw [if_pos rfl]
            obtain ⟨g1, s, g2, g3⟩ := choose_mem hC
            exact .inr ⟨rfl, rfl, .inr (.inr ⟨by omega, by omega, hfin2 s g2 (by rw [g3]; exact g1), g1⟩)⟩
          | false =>
            rw [if_neg (by simp)]
            have hcp : cp = 4 ∨ cp = 5 := by
              rcases choose_ways (toldS Q.told m ⟨p1, p2, p3⟩) with g | g | g | g <;> rw [hC] at g <;> obtain ⟨g1, g2⟩ := Prod.mk.inj g
              · cases g2
              · cases g2
              · exact .inl g1
              · exact .inr g1
            exact .inl ⟨rfl, ⟨(hQw.tell m _).pre cp, .inr (.inl rfl), fun e => (by cases e), fun _ => ⟨rfl, hcp, q2⟩, hfin2⟩⟩
    · obtain ⟨q1, q2, q3⟩ := h.pre hs
      unfold takenP
      rw [if_neg (by simp)]
      have hsee := seeP_of (noteP P ⟨(m : Int), 0, 0, 6, att, y, p1, p2, p3⟩) p2
      cases y with
      | false =>
        rw [if_pos rfl]
        refine ⟨⟨?_, ?_, ?_⟩, .inr (.inr rfl), fun e => (by cases e), fun e => (by cases e), fun s hs' hp => ?_⟩
        · exact (hpn.see p2).len
        · exact (hpn.see p2).lo
        · exact (hpn.see p2).hi
        · have hs2 : s ∈ (seeP (noteP P ⟨(m : Int), 0, 0, 6, att, false, p1, p2, p3⟩) p2).told := hs'
          rw [hsee.2.2.1] at hs2
          exact hfin s hs2 hp
      | true =>
        rw [if_neg (by simp), if_neg (by simp)]
        have hacks : acksD P acks m 6 true = ansS P.ans m := by
          unfold acksD
          rw [if_pos ⟨rfl, rfl, hs, by rw [q3]; exact hb⟩, q3, ansS_add hlo (by omega) (by omega) hb]
        rw [hacks]
        generalize hQ : seeP (noteP P ⟨(m : Int), 0, 0, 6, att, true, p1, p2, p3⟩) p2 = Q
        have hQw : PW zs.length Q := by rw [← hQ]; exact hpn.see p2
        have hQs : Q.stt = 1 := by rw [← hQ, hsee.1]; exact hs
        have hQt : Q.told = P.told := by rw [← hQ, hsee.2.2.1]; rfl
        have hQp : Q.prep = P.prep := by rw [← hQ, hsee.2.2.2]; rfl
        have hQa : Q.ans = ansS P.ans m := by rw [← hQ, hsee.2.1]; rfl
        show After zs att (ansS P.ans m) (noD no 6 true) (finD fin 6 true p1) phase (ackP zs Q)
        unfold ackP
        split
        · exact ⟨hQw, .inr (.inl hQs), fun e => by omega, fun _ => ⟨by rw [hQp]; exact q1, q2, hQa.symm⟩, fun s hs' hp => hfin s (by rw [← hQt]; exact hs') hp⟩
        · rename_i hen
          refine .inr ⟨rfl, rfl, .inl ⟨by omega, by rw [hQp, q1], ?_, ?_, ?_⟩⟩
          · rw [← hQa]; cases hx : enoughB zs Q.ans with
            | true => rfl
            | false => exact absurd hx hen
          · rw [← hQa]; exact hQw.lo
          · rw [← hQa]; exact hQw.hi
  · rw [if_neg ht]
    have hacks : acksD P acks m k y = acks := by
      unfold acksD
      rw [if_neg]
      rintro ⟨rfl, rfl, hs, hb⟩
      refine ht ?_
      rw [(h.pre hs).2.2] at hb
      rw [tk_in (f := ⟨(m : Int), 0, 0, 6, att, true, p1, p2, p3⟩) ⟨rfl, rfl, rfl⟩ (by unfold waitsB; rw [hs]; simp) ⟨by show 0 ≤ (m : Int); omega, by show (m : Int) < zs.length; omega⟩]
      simp only [Int.toNat_natCast]
      rw [hb]; rfl
    rw [hacks]
    exact ⟨h.pw, h.st, h.ask, h.pre, hfin⟩
end Go.Proofs.YtkopfpaldmapdaaDoor
