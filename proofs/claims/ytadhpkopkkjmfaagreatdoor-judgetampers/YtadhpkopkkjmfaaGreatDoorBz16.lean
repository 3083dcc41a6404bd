/-
  On the way to WCommitsProof, WAgreesProof, WEndsProof, WWaitsProof, JTampersProof, PAgreesProof, PAgainProof: EA EB EC.
-/
import Derived.Test.YtadhpkopkkjmfaaGreatDoorBz5
set_option maxHeartbeats 8000000
set_option maxRecDepth 100000
namespace Go.Proofs.YtadhpkopkkjmfaaGreatDoor
open Go.RowKit
def bdB (n : Int) (e : E3) : Bool := decide ((0 ≤ e.s ∧ e.s < n) ∧ (0 ≤ e.d ∧ e.d < 6) ∧ (e.p = 2 ∨ e.p = 3))
def spB (P : List E3) (e : E3) : Bool := P.any fun q => decide (q.d = e.d ∧ q.p ≠ e.p)
def heB (P : List E3) (e : E3) : Bool := P.any fun q => decide (q.d = e.d ∧ q.s = e.s)
def evC (n : Int) (P : List E3) (e : E3) : Nat := if bdB n e = false then 2 else if spB P e = true then 9 else if heB P e = true then 8 else 0
theorem evC_le (n : Int) (P : List E3) (e : E3) : evC n P e ≤ 9 := by
  unfold evC
  repeat' split
  all_goals omega
def EvW (n : Int) (L : List E3) (k : Nat) : Prop := ∀ j (h : j < L.length), j < k → evC n (L.take j) (L[j]'h) = 0
theorem EvW.succ {n : Int} {L : List E3} {k : Nat} (h : EvW n L k) (hk : k < L.length) (hc : evC n (L.take k) (L[k]'hk) = 0) : EvW n L (k + 1) := by
  intro j hj hlt
  rcases Nat.lt_succ_iff_lt_or_eq.1 hlt with x | rfl
  · exact h j hj x
  · exact hc
def EvF (n : Int) (L : List E3) (c k : Nat) : Prop := EvW n L k ∧ ((c = 0 ∧ k = L.length) ∨ ∃ h : k < L.length, c ≠ 0 ∧ evC n (L.take k) (L[k]'h) = c)
theorem evF_ex (n : Int) (L : List E3) : ∃ c k, EvF n L c k := by
  have gen : ∀ r k, k + r = L.length → EvW n L k → ∃ c k, EvF n L c k := by
    intro r
    induction r with
    | zero => intro k hk hw; exact ⟨0, k, hw, .inl ⟨rfl, hk⟩⟩
    | succ r ih =>
      intro k hk hw
      have hlt : k < L.length := by omega
      by_cases hc : evC n (L.take k) (L[k]'hlt) = 0
      · exact ih (k + 1) (by omega) (hw.succ hlt hc)
      · exact ⟨_, k, hw, .inr ⟨hlt, hc, rfl⟩⟩
  exact gen L.length 0 (by omega) (fun j _ h => absurd h (Nat.not_lt_zero _))
theorem EvF.le {n : Int} {L : List E3} {c k : Nat} (h : EvF n L c k) : c ≤ 9 := by
  obtain ⟨-, g⟩ := h
  rcases g with ⟨g, -⟩ | ⟨_, _, g⟩
  · omega
  · rw [← g]; exact evC_le _ _ _
def endL (P : List E3) (d : Nat) : Int := P.foldl (fun x e => if e.d = (d : Int) then e.p else x) 0
def sitL (P : List E3) (d : Nat) : Int := P.foldl (fun x e => if e.d = (d : Int) then bits .or .i64 x (2 ^ e.s.toNat) else x) 0
theorem endL_snoc (P : List E3) (e : E3) (d : Nat) : endL (P ++ [e]) d = if e.d = (d : Int) then e.p else endL P d := by simp [endL, List.foldl_append]
theorem sitL_snoc (P : List E3) (e : E3) (d : Nat) : sitL (P ++ [e]) d = if e.d = (d : Int) then bits .or .i64 (sitL P d) (2 ^ e.s.toNat) else sitL P d := by simp [sitL, List.foldl_append]
structure EvK (n : Int) (P : List E3) : Prop where
  bd : ∀ q, q ∈ P → bdB n q = true
  en : ∀ q, q ∈ P → ∀ d : Nat, q.d = (d : Int) → endL P d = q.p
  e0 : ∀ d : Nat, endL P d ≠ 0 → ∃ q, q ∈ P ∧ q.d = (d : Int)
  s0 : ∀ d : Nat, 0 ≤ sitL P d ∧ sitL P d < 128
  si : ∀ (d i : Nat), i < 7 → bit (sitL P d) i = P.any fun q => decide (q.d = (d : Int) ∧ q.s = (i : Int))
theorem EvK.nil (n : Int) : EvK n [] := ⟨fun _ h => (by cases h), fun _ h => (by cases h), fun _ h => absurd rfl h, fun _ => ⟨(show (0 : Int) ≤ 0 by omega), (show (0 : Int) < 128 by omega)⟩, fun d i _ => by show bit 0 i = false; unfold bit; simp⟩
theorem orAllE : ((List.range 128).all fun s => (List.range 7).all fun q => (decide (s ||| 2 ^ q < 128)) && (List.range 7).all fun j => (Nat.testBit (s ||| 2 ^ q) j == (Nat.testBit s j || decide (q = j)))) = true := by decide +kernel
theorem bit_orE {x : Int} {q : Nat} (h0 : 0 ≤ x) (h1 : x < 128) (hq : q < 7) : (0 ≤ bits .or .i64 x (2 ^ q) ∧ bits .or .i64 x (2 ^ q) < 128) ∧ ∀ j, j < 7 → bit (bits .or .i64 x (2 ^ q)) j = (bit x j || decide (q = j)) := by
  obtain ⟨s, rfl⟩ := Int.eq_ofNat_of_zero_le h0
  have hs : s < 128 := by omega
  have h := List.all_eq_true.1 (List.all_eq_true.1 orAllE s (List.mem_range.2 hs)) q (List.mem_range.2 hq)
  rw [Bool.and_eq_true] at h
  have h3 : (2 : Nat) ^ q < 9223372036854775808 := Nat.lt_of_lt_of_le (Nat.pow_lt_pow_right (by decide) hq) (by decide)
  have h4 := of_decide_eq_true h.1
  rw [pow_nat, bits_or_nat s (2 ^ q) (by omega) h3]
  refine ⟨by omega, fun j hj => ?_⟩
  have := List.all_eq_true.1 h.2 j (List.mem_range.2 hj)
  unfold bit
  rw [Int.toNat_natCast, Int.toNat_natCast]
  exact eq_of_beq this
theorem evC_zero {n : Int} {P : List E3} {e : E3} (h : evC n P e = 0) : bdB n e = true ∧ spB P e = false ∧ heB P e = false := by
  unfold evC at h
  split at h
  · cases h
  · rename_i h1
    split at h
    · cases h
    · rename_i h2
      split at h
      · cases h
      · rename_i h3
        refine ⟨?_, ?_, ?_⟩
        · cases hb : bdB n e with
          | true => rfl
          | false => exact absurd hb h1
        · cases hb : spB P e with
          | false => rfl
          | true => exact absurd hb h2
        · cases hb : heB P e with
          | false => rfl
          | true => exact absurd hb h3
theorem EvK.snoc {n : Int} {P : List E3} {e : E3} (hn : n ≤ 7) (h : EvK n P) (hc : evC n P e = 0) : EvK n (P ++ [e]) := by
  obtain ⟨c1, c2, c3⟩ := evC_zero hc
  have b := of_decide_eq_true c1
  refine ⟨fun q hq => ?_, fun q hq d hd => ?_, fun d hd => ?_, fun d => ?_, fun d i hi => ?_⟩
  · rcases List.mem_append.1 hq with x | x
    · exact h.bd q x
    · rw [List.mem_singleton] at x; rw [x]; exact c1
  · rw [endL_snoc]
    rcases List.mem_append.1 hq with x | x
    · split
      · rename_i he
        have := List.any_eq_false.1 c2 q x
        simp only [decide_eq_true_eq, not_and] at this
        have h2 := this (by omega)
        omega
      · exact h.en q x d hd
    · rw [List.mem_singleton] at x
      subst x
      rw [if_pos hd]
  · rw [endL_snoc] at hd
    split at hd
    · rename_i he
      exact ⟨e, List.mem_append.2 (.inr (List.mem_singleton.2 rfl)), he⟩
    · obtain ⟨q, h1, h2⟩ := h.e0 d hd
      exact ⟨q, List.mem_append.2 (.inl h1), h2⟩
  · rw [sitL_snoc]
    split
    · exact (bit_orE (h.s0 d).1 (h.s0 d).2 (by omega)).1
    · exact h.s0 d
  · rw [sitL_snoc, List.any_append, List.any_cons, List.any_nil, Bool.or_false]
    split
    · rename_i he
      rw [(bit_orE (h.s0 d).1 (h.s0 d).2 (by omega)).2 i hi, h.si d i hi]
      congr 1
      refine decide_eq_decide.2 ?_
      omega
    · rename_i he
      rw [h.si d i hi, decide_eq_false (fun x => he x.1), Bool.or_false]
theorem EvW.kept {n : Int} {L : List E3} (hn : n ≤ 7) : ∀ {k : Nat}, k ≤ L.length → EvW n L k → EvK n (L.take k)
  | 0, _, _ => by rw [List.take_zero]; exact EvK.nil n
  | k + 1, hk, h => by
    rw [take_snoc L k hk]
    exact (EvW.kept hn (Nat.le_of_succ_le hk) (fun j hj hlt => h j hj (Nat.lt_succ_of_lt hlt))).snoc hn (h k hk (Nat.lt_succ_self _))
theorem EvK.split {n : Int} {P : List E3} (h : EvK n P) {e : E3} {d : Nat} (hd : e.d = (d : Int)) : spB P e = (endL P d != 0 && endL P d != e.p) := by
  rw [Bool.eq_iff_iff, Bool.and_eq_true, bne_iff_ne, bne_iff_ne]
  unfold spB
  rw [List.any_eq_true]
  constructor
  · rintro ⟨q, hq, hx⟩
    have hx := of_decide_eq_true hx
    have h1 := h.en q hq d (by omega)
    have h2 := of_decide_eq_true (h.bd q hq)
    omega
  · rintro ⟨h1, h2⟩
    obtain ⟨q, hq, hqd⟩ := h.e0 d h1
    have h3 := h.en q hq d hqd
    exact ⟨q, hq, decide_eq_true ⟨by omega, by omega⟩⟩
theorem EvK.held {n : Int} {P : List E3} (h : EvK n P) {e : E3} {d i : Nat} (hd : e.d = (d : Int)) (hi : e.s = (i : Int)) (h7 : i < 7) : heB P e = bit (sitL P d) i := by
  rw [h.si d i h7]
  unfold heB
  rw [hd, hi]
theorem jbelow_is (x n : Int) (b : Bool) (w : World) (hb : decide (0 ≤ x ∧ x < n) = b) : Calls Tryz.prog 115 #[.int .i64 x, .int .i64 n] w fun e w' => e = .returned (.bool b) ∧ w' = w := by
  subst hb
  by_cases h0 : 0 ≤ x
  · by_cases h1 : x < n
    · rw [decide_eq_true (show 0 ≤ x ∧ x < n from ⟨h0, h1⟩)]
      go_enter Tryz.func115, Tryz.ntmps115
      go_wp2_with fail
      go_ret
      exact ⟨rfl, rfl⟩
    · rw [decide_eq_false (show ¬ (0 ≤ x ∧ x < n) from fun h => h1 h.2)]
      have e1 : decide (x < n) = false := decide_eq_false h1
      go_enter Tryz.func115, Tryz.ntmps115
      go_wp2_with fail
      go_ret
      exact ⟨rfl, rfl⟩
  · rw [decide_eq_false (show ¬ (0 ≤ x ∧ x < n) from fun h => h0 h.1)]
    have e1 : decide (0 ≤ x) = false := decide_eq_false h0
    go_enter Tryz.func115, Tryz.ntmps115
    go_wp2_with fail
    go_ret
    exact ⟨rfl, rfl⟩
theorem jisEnd_is (p : Int) (b : Bool) (w : World) (hb : decide (p = 2 ∨ p = 3) = b) : Calls Tryz.prog 70 #[.int .i64 p] w fun e w' => e = .returned (.bool b) ∧ w' = w := by
  subst hb
  by_cases h2 : p = 2
  · subst h2
    go_enter Tryz.func70, Tryz.ntmps70
    go_wp2_with fail
    go_ret
    exact ⟨rfl, rfl⟩
  · by_cases h3 : p = 3
    · subst h3
      go_enter Tryz.func70, Tryz.ntmps70
      go_wp2_with fail
      go_ret
      exact ⟨rfl, rfl⟩
    · rw [decide_eq_false (show ¬ (p = 2 ∨ p = 3) by omega)]
      have b2 : (p == 2) = false := beq_eq_false_iff_ne.2 h2
      have b3 : (p == 3) = false := beq_eq_false_iff_ne.2 h3
      go_enter Tryz.func70, Tryz.ntmps70
      go_wp2_with fail
      go_ret
      exact ⟨rfl, rfl⟩
theorem threeE {w : World} {b : Nat} {a c e : Value} {t : TypeId} {f : Nat × Nat} (h : w.heap[b]? = some (.cells #[a, c, e] t f)) : w.cell? ⟨b, 0, none⟩ = some a ∧ w.cell? ⟨b, 1, none⟩ = some c ∧ w.cell? ⟨b, 2, none⟩ = some e :=
  ⟨by rw [cell_of_row _ _ _ _ _ _ h]; rfl, by rw [cell_of_row _ _ _ _ _ _ h]; rfl, by rw [cell_of_row _ _ _ _ _ _ h]; rfl⟩
def verL (E S : Nat → Int) : List Value := [.int .i64 (E 0), .int .i64 (S 0), .int .i64 (E 1), .int .i64 (S 1), .int .i64 (E 2), .int .i64 (S 2), .int .i64 (E 3), .int .i64 (S 3), .int .i64 (E 4), .int .i64 (S 4), .int .i64 (E 5), .int .i64 (S 5)]
def verV (E S : Nat → Int) : Value := .agg #[.int .i64 (E 0), .int .i64 (S 0), .int .i64 (E 1), .int .i64 (S 1), .int .i64 (E 2), .int .i64 (S 2), .int .i64 (E 3), .int .i64 (S 3), .int .i64 (E 4), .int .i64 (S 4), .int .i64 (E 5), .int .i64 (S 5)]
theorem verL_get (E S : Nat → Int) {d : Nat} (hd : d < 6) : (verL E S)[d * 2]? = some (.int .i64 (E d)) ∧ (verL E S)[d * 2 + 1]? = some (.int .i64 (S d)) := by
  have h : d = 0 ∨ d = 1 ∨ d = 2 ∨ d = 3 ∨ d = 4 ∨ d = 5 := by omega
  rcases h with rfl | rfl | rfl | rfl | rfl | rfl <;> exact ⟨rfl, rfl⟩
theorem ver_cells {w : World} {b : Nat} {E S : Nat → Int} {t : TypeId} (h : w.heap[b]? = some (.cells (verL E S).toArray t (0, 0))) {d : Nat} (hd : d < 6) : w.cell? ⟨b, d * 2, none⟩ = some (.int .i64 (E d)) ∧ w.cell? ⟨b, d * 2 + 1, none⟩ = some (.int .i64 (S d)) := by
  obtain ⟨h1, h2⟩ := verL_get E S hd
  exact ⟨by rw [cell_of_row _ _ _ _ _ _ h, List.getElem?_toArray]; exact h1, by rw [cell_of_row _ _ _ _ _ _ h, List.getElem?_toArray]; exact h2⟩
theorem jfault_bad (A : Nat → Addr) (s d p n : Int) (E S : Nat → Int) (w : World) (hE : Held9 w A) (hb : bdB n ⟨s, d, p⟩ = false) :
    Calls Tryz.prog 71 #[.agg #[.int .i64 s, .int .i64 d, .int .i64 p], .int .i64 n, verV E S] w fun e w' => e = .returned (ev A 2) ∧ Below w.heap.size w w' := by
  obtain ⟨x1, H1⟩ : ∃ x, Hid (decide (0 ≤ s ∧ s < n) = x) := ⟨_, rfl⟩
  obtain ⟨x2, H2⟩ : ∃ x, Hid (decide (0 ≤ d ∧ d < 6) = x) := ⟨_, rfl⟩
  obtain ⟨x3, H3⟩ : ∃ x, Hid (decide (p = 2 ∨ p = 3) = x) := ⟨_, rfl⟩
  have HX : Hid (x1 = true → x2 = true → x3 = false) := fun e1 e2 => by
    have h1 := of_decide_eq_true (H1.out.trans e1)
    have h2 := of_decide_eq_true (H2.out.trans e2)
    rw [← H3.out]
    refine decide_eq_false fun h3 => ?_
    exact of_decide_eq_false hb ⟨h1, h2, h3⟩
  obtain ⟨W, HW⟩ : ∃ W, Hid ((w.alloc (.cells #[.int .i64 s, .int .i64 d, .int .i64 p] 75)).alloc (.cells #[.int .i64 (E 0), .int .i64 (S 0), .int .i64 (E 1), .int .i64 (S 1), .int .i64 (E 2), .int .i64 (S 2), .int .i64 (E 3), .int .i64 (S 3), .int .i64 (E 4), .int .i64 (S 4), .int .i64 (E 5), .int .i64 (S 5)] 117) = W) := ⟨_, rfl⟩
  have HB : Hid (Below w.heap.size w W) := by rw [← HW.out]; exact ((Below.refl _ _).alloc (Nat.le_refl _) _).alloc (by simp) _
  have HR : Hid (W.heap[w.heap.size]? = some (.cells #[.int .i64 s, .int .i64 d, .int .i64 p] 75 (0, 0))) := by
    rw [← HW.out]
    exact (heap_alloc_old _ _ (by simp)).trans (heap_alloc_new w _)
  obtain ⟨b0, b1, b2⟩ := threeE HR.out
  have hW := HW.out
  have c1 := (hE.later HB.out).cells.2.1
  unfold verV
  clear hE hb
  cases x1 with
  | false =>
    go_enter Tryz.func71, Tryz.ntmps71
    go_wp2_with fail
    refine (jbelow_is s n false _ H1.out).mono ?_
    rintro e w1 ⟨rfl, hx⟩
    subst w1
    go_wp2_with fail
    go_ret
    exact ⟨rfl, HB.out⟩
  | true =>
    cases x2 with
    | false =>
      go_enter Tryz.func71, Tryz.ntmps71
      go_wp2_with fail
      refine (jbelow_is s n true _ H1.out).mono ?_
      rintro e w1 ⟨rfl, hx⟩
      subst w1
      go_wp2_with fail
      refine (jbelow_is d 6 false _ H2.out).mono ?_
      rintro e w1 ⟨rfl, hx⟩
      subst w1
      go_wp2_with fail
      go_ret
      exact ⟨rfl, HB.out⟩
    | true =>
      obtain rfl := HX.out rfl rfl
      go_enter Tryz.func71, Tryz.ntmps71
      go_wp2_with fail
      refine (jbelow_is s n true _ H1.out).mono ?_
      rintro e w1 ⟨rfl, hx⟩
      subst w1
      go_wp2_with fail
      refine (jbelow_is d 6 true _ H2.out).mono ?_
      rintro e w1 ⟨rfl, hx⟩
      subst w1
      go_wp2_with fail
      refine (jisEnd_is p false _ H3.out).mono ?_
      rintro e w1 ⟨rfl, hx⟩
      subst w1
      go_wp2_with fail
      go_ret
      exact ⟨rfl, HB.out⟩
theorem bit_and1 {s : Int} (k : Nat) (h0 : 0 ≤ s) (h1 : s < 9223372036854775808) : (bits BinOp.and IntKind.i64 (s / 2 ^ k) 1 == 1) = bit s k := by
  obtain ⟨m, rfl⟩ := Int.eq_ofNat_of_zero_le h0
  have e : ((m : Int) / 2 ^ k) = ((m / 2 ^ k : Nat) : Int) := by simp
  have hlt : m / 2 ^ k < 9223372036854775808 := Nat.lt_of_le_of_lt (Nat.div_le_self _ _) (by omega)
  rw [e, show (1 : Int) = ((1 : Nat) : Int) from rfl, bits_and_nat _ 1 hlt (by decide), Nat.and_one_is_mod]
  unfold bit
  rw [Int.toNat_natCast, Nat.testBit_eq_decide_div_mod_eq, Bool.eq_iff_iff]
  simp; omega
theorem jfault_ok (A : Nat → Addr) (s d : Nat) (p n : Int) (E S : Nat → Int) (x y : Bool) (w : World) (hE : Held9 w A) (hs : (s : Int) < n) (hn : n ≤ 7) (hd : d < 6) (hp : p = 2 ∨ p = 3) (hx : (E d != 0 && E d != p) = x) (h0 : 0 ≤ S d) (h1 : S d < 128) (hy : bit (S d) s = y) :
    Calls Tryz.prog 71 #[.agg #[.int .i64 (s : Int), .int .i64 (d : Int), .int .i64 p], .int .i64 n, verV E S] w fun e w' => e = .returned (ev A (if x = true then 9 else if y = true then 8 else 0)) ∧ Below w.heap.size w w' := by
  have H1 : Hid (decide (0 ≤ (s : Int) ∧ (s : Int) < n) = true) := hid (decide_eq_true ⟨by omega, hs⟩)
  have H2 : Hid (decide (0 ≤ (d : Int) ∧ (d : Int) < 6) = true) := hid (decide_eq_true ⟨by omega, by omega⟩)
  have H3 : Hid (decide (p = 2 ∨ p = 3) = true) := hid (decide_eq_true hp)
  obtain ⟨W, HW⟩ : ∃ W, Hid ((w.alloc (.cells #[.int .i64 (s : Int), .int .i64 (d : Int), .int .i64 p] 75)).alloc (.cells #[.int .i64 (E 0), .int .i64 (S 0), .int .i64 (E 1), .int .i64 (S 1), .int .i64 (E 2), .int .i64 (S 2), .int .i64 (E 3), .int .i64 (S 3), .int .i64 (E 4), .int .i64 (S 4), .int .i64 (E 5), .int .i64 (S 5)] 117) = W) := ⟨_, rfl⟩
  have HB : Hid (Below w.heap.size w W) := by rw [← HW.out]; exact ((Below.refl _ _).alloc (Nat.le_refl _) _).alloc (by simp) _
  have HR : Hid (W.heap[w.heap.size]? = some (.cells #[.int .i64 (s : Int), .int .i64 (d : Int), .int .i64 p] 75 (0, 0))) := by
    rw [← HW.out]
    exact (heap_alloc_old _ _ (by simp)).trans (heap_alloc_new w _)
  have HV : Hid (W.heap[w.heap.size + 1]? = some (.cells (verL E S).toArray 117 (0, 0))) := by
    rw [← HW.out]
    have := heap_alloc_new (w.alloc (.cells #[.int .i64 (s : Int), .int .i64 (d : Int), .int .i64 p] 75)) (.cells (verL E S).toArray 117)
    rw [World.size_alloc] at this
    exact this
  obtain ⟨b0, b1, b2⟩ := threeE HR.out
  obtain ⟨v0, v1⟩ := ver_cells HV.out hd
  have hW := HW.out
  obtain ⟨-, c1, -, -, -, -, -, c7, c8⟩ := (hE.later HB.out).cells
  have hbit : Hid ((bits BinOp.and IntKind.i64 (S d / 2 ^ s) 1 == 1) = y) := by rw [← hy]; exact bit_and1 s h0 (by omega)
  obtain ⟨ed, HED⟩ : ∃ z, Hid (E d = z) := ⟨_, rfl⟩
  obtain ⟨sd, HSD⟩ : ∃ z, Hid (S d = z) := ⟨_, rfl⟩
  rw [HED.out] at v0 hx
  rw [HSD.out] at v1 hbit h0 h1
  unfold verV
  clear hE hp HR HV
  cases x with
  | true =>
    rw [Bool.and_eq_true, bne_iff_ne, bne_iff_ne] at hx
    have e1 : (ed != 0) = true := bne_iff_ne.2 hx.1
    have e2 : (ed != p) = true := bne_iff_ne.2 hx.2
    rw [if_pos rfl]
    go_enter Tryz.func71, Tryz.ntmps71
    go_wp2_with fail
    refine (jbelow_is s n true _ H1.out).mono ?_
    rintro e w1 ⟨rfl, hx⟩
    subst w1
    go_wp2_with fail
    refine (jbelow_is d 6 true _ H2.out).mono ?_
    rintro e w1 ⟨rfl, hx⟩
    subst w1
    go_wp2_with fail
    refine (jisEnd_is p true _ H3.out).mono ?_
    rintro e w1 ⟨rfl, hx⟩
    subst w1
    go_wp2_with fail
    go_quiet (fail)
    go_wp2
    go_ret
    exact ⟨rfl, below_drewN HB.out _⟩
  | false =>
    rw [if_neg (by decide)]
    have key : ∀ f1 f2 : Bool, (ed != 0) = f1 → (f1 = true → (ed != p) = f2 ∧ f2 = false) → Calls Tryz.prog 71 #[.agg #[.int .i64 (s : Int), .int .i64 (d : Int), .int .i64 p], .int .i64 n, .agg #[.int .i64 (E 0), .int .i64 (S 0), .int .i64 (E 1), .int .i64 (S 1), .int .i64 (E 2), .int .i64 (S 2), .int .i64 (E 3), .int .i64 (S 3), .int .i64 (E 4), .int .i64 (S 4), .int .i64 (E 5), .int .i64 (S 5)]] w fun e w' => e = .returned (ev A (if y = true then 8 else 0)) ∧ Below w.heap.size w w' := by
      intro f1 f2 e1 e2
      have e3 : f1 = true → (ed != p) = false := fun h => by obtain ⟨a1, a2⟩ := e2 h; rw [a1, a2]
      clear e2
      cases f1 with
      | true =>
        have e4 := e3 rfl
        clear e3 hx
        go_enter Tryz.func71, Tryz.ntmps71
        go_wp2_with fail
        refine (jbelow_is s n true _ H1.out).mono ?_
        rintro e w1 ⟨rfl, hx⟩
        subst w1
        go_wp2_with fail
        refine (jbelow_is d 6 true _ H2.out).mono ?_
        rintro e w1 ⟨rfl, hx⟩
        subst w1
        go_wp2_with fail
        refine (jisEnd_is p true _ H3.out).mono ?_
        rintro e w1 ⟨rfl, hx⟩
        subst w1
        go_wp2_with fail
        go_quiet (fail)
        go_wp2
        go_quiet (fail)
        rw [hbit.out]
        cases y with
        | true =>
          go_wp2
          go_ret
          exact ⟨rfl, below_drewN HB.out _⟩
        | false =>
          go_wp2
          go_ret
          exact ⟨rfl, below_drewN HB.out _⟩
      | false =>
        clear e3 hx
        go_enter Tryz.func71, Tryz.ntmps71
        go_wp2_with fail
        refine (jbelow_is s n true _ H1.out).mono ?_
        rintro e w1 ⟨rfl, hx⟩
        subst w1
        go_wp2_with fail
        refine (jbelow_is d 6 true _ H2.out).mono ?_
        rintro e w1 ⟨rfl, hx⟩
        subst w1
        go_wp2_with fail
        refine (jisEnd_is p true _ H3.out).mono ?_
        rintro e w1 ⟨rfl, hx⟩
        subst w1
        go_wp2_with fail
        go_quiet (fail)
        go_wp2
        go_quiet (fail)
        rw [hbit.out]
        cases y with
        | true =>
          go_wp2
          go_ret
          exact ⟨rfl, below_drewN HB.out _⟩
        | false =>
          go_wp2
          go_ret
          exact ⟨rfl, below_drewN HB.out _⟩
    refine key _ (ed != p) rfl fun h => ⟨rfl, ?_⟩
    rw [h, Bool.true_and] at hx
    exact hx
theorem jfault_any (A : Nat → Addr) (e : E3) (n : Int) (P : List E3) (c : Nat) (w : World) (hE : Held9 w A) (hn : n ≤ 7) (hk : EvK n P) (hc : evC n P e = c) :
    Calls Tryz.prog 71 #[.agg #[.int .i64 e.s, .int .i64 e.d, .int .i64 e.p], .int .i64 n, verV (endL P) (sitL P)] w fun r w' => r = .returned (ev A c) ∧ Below w.heap.size w w' := by
  subst hc
  unfold evC
  cases hb : bdB n e with
  | false =>
    rw [if_pos rfl]
    exact jfault_bad A e.s e.d e.p n _ _ w hE hb
  | true =>
    rw [if_neg (by decide)]
    obtain ⟨⟨s0, s1⟩, ⟨d0, d1⟩, hp⟩ := of_decide_eq_true hb
    obtain ⟨s, hs⟩ := Int.eq_ofNat_of_zero_le s0
    obtain ⟨d, hd⟩ := Int.eq_ofNat_of_zero_le d0
    have h := jfault_ok A s d e.p n (endL P) (sitL P) _ _ w hE (by omega) hn (by omega) hp rfl (hk.s0 d).1 (hk.s0 d).2 rfl
    rw [← hk.split hd, ← hk.held hd hs (by omega)] at h
    rw [hs, hd]
    exact h
theorem ver_set {w : World} {b : Nat} {E S : Nat → Int} {t : TypeId} (h : w.heap[b]? = some (.cells (verL E S).toArray t (0, 0))) {d : Nat} (hd : d < 6) (p q : Int) :
    ((w.setCell ⟨b, d * 2, none⟩ (.int .i64 p)).setCell ⟨b, d * 2 + 1, none⟩ (.int .i64 q)).heap[b]? = some (.cells (verL (fun x => if x = d then p else E x) (fun x => if x = d then q else S x)).toArray t (0, 0)) := by
  have e1 := heap_setCell_same w b (d * 2) _ _ (.int .i64 p) h
  rw [heap_setCell_same _ b (d * 2 + 1) _ _ _ e1, List.setIfInBounds_toArray, List.setIfInBounds_toArray]
  have hd6 : d = 0 ∨ d = 1 ∨ d = 2 ∨ d = 3 ∨ d = 4 ∨ d = 5 := by omega
  rcases hd6 with rfl | rfl | rfl | rfl | rfl | rfl <;> rfl
theorem verL_snoc (P : List E3) (e : E3) {d s : Nat} (hd : e.d = (d : Int)) (hs : e.s = (s : Int)) : (fun x => if x = d then e.p else endL P x) = endL (P ++ [e]) ∧ (fun x => if x = d then bits .or .i64 (sitL P d) (2 ^ s) else sitL P x) = sitL (P ++ [e]) := by
  constructor
  · funext x
    rw [endL_snoc]
    by_cases c : x = d
    · rw [if_pos c, if_pos (by omega)]
    · rw [if_neg c, if_neg (by omega)]
  · funext x
    rw [sitL_snoc]
    by_cases c : x = d
    · rw [if_pos c, if_pos (by omega), c, hs, Int.toNat_natCast]
    · rw [if_neg c, if_neg (by omega)]
theorem ver_twelve {w : World} {b : Nat} {E S : Nat → Int} {t : TypeId} (h : w.heap[b]? = some (.cells (verL E S).toArray t (0, 0))) :
    w.cell? ⟨b, 0, none⟩ = some (.int .i64 (E 0)) ∧ w.cell? ⟨b, 1, none⟩ = some (.int .i64 (S 0)) ∧ w.cell? ⟨b, 2, none⟩ = some (.int .i64 (E 1)) ∧ w.cell? ⟨b, 3, none⟩ = some (.int .i64 (S 1)) ∧ w.cell? ⟨b, 4, none⟩ = some (.int .i64 (E 2)) ∧ w.cell? ⟨b, 5, none⟩ = some (.int .i64 (S 2)) ∧ w.cell? ⟨b, 6, none⟩ = some (.int .i64 (E 3)) ∧ w.cell? ⟨b, 7, none⟩ = some (.int .i64 (S 3)) ∧ w.cell? ⟨b, 8, none⟩ = some (.int .i64 (E 4)) ∧ w.cell? ⟨b, 9, none⟩ = some (.int .i64 (S 4)) ∧ w.cell? ⟨b, 10, none⟩ = some (.int .i64 (E 5)) ∧ w.cell? ⟨b, 11, none⟩ = some (.int .i64 (S 5)) := by
  refine ⟨?_, ?_, ?_, ?_, ?_, ?_, ?_, ?_, ?_, ?_, ?_, ?_⟩ <;> rw [cell_of_row _ _ _ _ _ _ h] <;> rfl
def FltV (w : World) (A : Nat → Addr) (c k : Nat) (v : Value) (base : Nat) : Prop := (c = 0 ∧ v = .nilIface) ∨ (∃ x fb, c = x + 1 ∧ base ≤ fb ∧ v = .iface 112 (.pointer (some ⟨fb, 0, none⟩)) ∧ w.cell? ⟨fb, 0, none⟩ = some (.int .i64 (k : Int)) ∧ w.cell? ⟨fb, 1, none⟩ = some (.iface 276 (.pointer (some (A x)))))
theorem jcheck_no (A : Nat → Addr) (v : Value) (n : Int) (w : World) (hE : Held9 w A) (hn : ¬ (1 ≤ n ∧ n ≤ 7)) :
    Calls Tryz.prog 28 #[v, .int .i64 n] w fun e w' => e = .returned (ev A 2) ∧ w' = w := by
  have c1 := hE.cells.2.1
  clear hE
  by_cases h1 : n < 1
  · go_enter Tryz.func28, Tryz.ntmps28
    go_wp2_with fail
    go_ret
    exact ⟨rfl, rfl⟩
  · have h2 : 7 < n := by omega
    go_enter Tryz.func28, Tryz.ntmps28
    go_wp2_with fail
    go_ret
    exact ⟨rfl, rfl⟩
theorem jcheck_ok (A : Nat → Addr) (ad : Option Addr) (cap : Nat) (L : List E3) (n : Int) (c kk : Nat) (w : World) (hE : Held9 w A) (h1 : 1 ≤ n) (h7 : n ≤ 7) (hL : EL w ad L) (hl : L.length ≤ 100000) (hF : EvF n L c kk) :
    Calls Tryz.prog 28 #[.slice ad L.length cap, .int .i64 n] w fun e w' => ∃ v, e = .returned v ∧ FltV w' A c kk v w.heap.size ∧ Below w.heap.size w w' := by
  have HE := hid hE
  have HL := hid hL
  have HF := hid hF
  have H7 := hid h7
  clear hE hL hF
  go_enter Tryz.func28, Tryz.ntmps28
  go_wp2_with fail
  go_loopw [19] (fun v wr => ∃ k : Nat, k ≤ kk ∧ v = .int .i64 (k : Int) ∧ wr.heap[w.heap.size]? = some (.cells (verL (endL (L.take k)) (sitL (L.take k))).toArray 117 (0, 0)) ∧ Below w.heap.size w wr) (fun v _ => L.length - (intOf v).toNat)
  case atStart =>
    refine ⟨0, Nat.zero_le _, rfl, ?_, (Below.refl _ _).alloc (Nat.le_refl _) _⟩
    exact heap_alloc_new w _
  case round =>
    obtain ⟨k, hk, rfl, hrow, hb⟩ := hrel
    have HB := hid hb
    by_cases hlt : k < L.length
    · obtain ⟨b, o, rfl, y0, y1, y2⟩ := HL.out k hlt
      obtain ⟨⟨s, d, p⟩, HS⟩ : ∃ e, Hid (L[k]'hlt = e) := ⟨_, rfl⟩
      rw [HS.out] at y0 y1 y2
      replace y0 := cell_later hb y0
      replace y1 := cell_later hb y1
      replace y2 := cell_later hb y2
      obtain ⟨W2, HW2⟩ : ∃ W2, Hid (wr.alloc (.cells #[.int .i64 s, .int .i64 d, .int .i64 p] 75) = W2) := ⟨_, rfl⟩
      have hW2 := HW2.out
      have HB2 : Hid (Below wr.heap.size wr W2) := by rw [← HW2.out]; exact (Below.refl _ _).alloc (Nat.le_refl _) _
      have HR2 : Hid (W2.heap[w.heap.size]? = some (.cells (verL (endL (L.take k)) (sitL (L.take k))).toArray 117 (0, 0))) := row_later HB2.out hrow
      obtain ⟨z0, z1, z2, z3, z4, z5, z6, z7, z8, z9, z10, z11⟩ := ver_twelve HR2.out
      have HRe : Hid (W2.heap[wr.heap.size]? = some (.cells #[.int .i64 s, .int .i64 d, .int .i64 p] 75 (0, 0))) := by rw [← HW2.out]; exact heap_alloc_new wr _
      obtain ⟨r0, r1, r2⟩ := threeE HRe.out
      have hwb := row_ltJ hrow
      have HK : Hid (EvK n (L.take k)) := (show EvW n L k from fun j hj hjk => HF.out.1 j hj (by omega)).kept H7.out (by omega)
      clear hb
      by_cases hkk : k < kk
      · have HC : Hid (evC n (L.take k) ⟨s, d, p⟩ = 0) := by have := HF.out.1 k hlt hkk; rw [HS.out] at this; exact this
        have HFa := hid (jfault_any A ⟨s, d, p⟩ n (L.take k) 0 W2 ((HE.out.later HB.out).later HB2.out) H7.out HK.out HC.out)
        unfold verV at HFa
        rw [show ev A 0 = .nilIface from rfl] at HFa
        obtain ⟨⟨s0, s1⟩, ⟨d0, d1⟩, -⟩ := of_decide_eq_true (evC_zero HC.out).1
        simp only at s0 s1 d0 d1
        obtain ⟨sn, rfl⟩ := Int.eq_ofNat_of_zero_le s0
        obtain ⟨dn, rfl⟩ := Int.eq_ofNat_of_zero_le d0
        have hs7 : sn < 7 := by omega
        have hd6 : dn < 6 := by omega
        have HSn : Hid (L.take (k + 1) = L.take k ++ [⟨sn, dn, p⟩]) := by show _ = _; rw [take_snoc L k hlt, HS.out]
        go_wp2_with fail
        refine HFa.out.mono ?_
        rintro e w3 ⟨rfl, hb3⟩
        have HR3 := hid (row_later hb3 HR2.out)
        have HRe3 := hid (row_later hb3 HRe.out)
        have HB3 := hid (below_trans (below_trans HB.out HB2.out) hb3)
        clear hb3 r0 r1 r2 z0 z1 z2 z3 z4 z5 z6 z7 z8 z9 z10 z11
        obtain ⟨r0, r1, r2⟩ := threeE HRe3.out
        obtain ⟨v0, v1⟩ := ver_cells HR3.out hd6
        have f0 := frozen_of_row _ _ (dn * 2) _ _ HR3.out
        have f1 := frozen_of_row _ _ (dn * 2 + 1) _ _ HR3.out
        have HV := hid (ver_set HR3.out hd6 p (bits .or .i64 (sitL (L.take k) dn) (2 ^ sn)))
        rw [(verL_snoc (L.take k) ⟨sn, dn, p⟩ rfl rfl).1, (verL_snoc (L.take k) ⟨sn, dn, p⟩ rfl rfl).2, ← HSn.out] at HV
        have hp := (pow_le7 (n := sn) (by omega)).1
        have hp2 := (pow_le7 (n := sn) (by omega)).2
        obtain ⟨W4, HW4⟩ : ∃ W4, Hid (w3.setCell ⟨w.heap.size, dn * 2, none⟩ (.int .i64 p) = W4) := ⟨_, rfl⟩
        have hW4 := HW4.out
        rw [hW4] at HV
        have HR4 := hid (heap_setCell_same w3 w.heap.size (dn * 2) _ _ (.int .i64 p) HR3.out)
        have HRe4 := hid ((heap_setCell_other w3 ⟨w.heap.size, dn * 2, none⟩ wr.heap.size (.int .i64 p) (by show wr.heap.size ≠ w.heap.size; omega)).trans HRe3.out)
        rw [hW4] at HR4 HRe4
        have q1 : W4.cell? ⟨w.heap.size, dn * 2 + 1, none⟩ = some (.int .i64 (sitL (L.take k) dn)) := by rw [cell_of_row _ _ _ _ _ _ HR4.out, List.setIfInBounds_toArray, List.getElem?_toArray, List.getElem?_set_ne (by omega)]; exact (verL_get _ _ hd6).2
        obtain ⟨q2, q3, q4⟩ := threeE HRe4.out
        have f4 := frozen_of_row _ _ (dn * 2 + 1) _ _ HR4.out
        have HB4 : Hid (Below w.heap.size w W4) := by rw [← hW4]; exact HB3.out.setCell (Nat.le_refl _) _
        go_wp2_with fail
        go_region
        all_goals go_wp2_with fail
        go_roundw
        case rel =>
          refine ⟨k + 1, by omega, by go_num, HV.out, ?_⟩
          exact (HB4.out.setCell (Nat.le_refl _) _).drew
        case measure => simp [intOf]; omega
      · obtain rfl : k = kk := by omega
        obtain ⟨cx, HCx⟩ : ∃ cx, Hid (c = cx + 1 ∧ evC n (L.take k) ⟨s, d, p⟩ = cx + 1) := by
          rcases HF.out.2 with ⟨-, h⟩ | ⟨h, hc, he⟩
          · omega
          · rw [HS.out] at he
            exact ⟨c - 1, by omega, by rw [he]; omega⟩
        have HFa := hid (jfault_any A ⟨s, d, p⟩ n (L.take k) (cx + 1) W2 ((HE.out.later HB.out).later HB2.out) H7.out HK.out HCx.out.2)
        unfold verV at HFa
        rw [show ev A (cx + 1) = .iface 276 (.pointer (some (A cx))) from rfl] at HFa
        go_wp2_with fail
        refine HFa.out.mono ?_
        rintro e w3 ⟨rfl, hb3⟩
        have HB3 := hid (below_trans (below_trans HB.out HB2.out) hb3)
        clear hb3
        go_wp2_with fail
        go_ret
        refine ⟨_, rfl, .inr ⟨cx, w3.heap.size, HCx.out.1, HB3.out.size, rfl, ?_, ?_⟩, HB3.out.alloc HB3.out.size _⟩
        · rw [cell_of_row _ _ _ _ _ _ (heap_alloc_new w3 _)]; rfl
        · rw [cell_of_row _ _ _ _ _ _ (heap_alloc_new w3 _)]; rfl
    · have HC0 : Hid (c = 0 ∧ k = L.length) := by
        rcases HF.out.2 with ⟨h1, h2⟩ | ⟨h1, h2, h3⟩
        · exact ⟨h1, by omega⟩
        · omega
      have hk2 : ¬ ((k : Int) < (L.length : Int)) := by omega
      go_wp2_with fail
      go_ret
      exact ⟨_, rfl, .inl ⟨HC0.out.1, rfl⟩, HB.out⟩
theorem FltV.nil {w : World} {A : Nat → Addr} {k base : Nat} {v : Value} (h : FltV w A 0 k v base) : v = .nilIface := by
  rcases h with ⟨-, h⟩ | ⟨x, _, h, -⟩
  · exact h
  · cases h
end Go.Proofs.YtadhpkopkkjmfaaGreatDoor
