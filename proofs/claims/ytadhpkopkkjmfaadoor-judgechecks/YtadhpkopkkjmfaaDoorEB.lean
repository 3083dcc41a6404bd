/-
  WALKS of package judge: below, isEnd, fault.
-/
import Derived.Test.YtadhpkopkkjmfaaDoorEA
import Derived.Test.YtadhpkopkkjmfaaDoorCode
import Derived.Deep.RegionHeld3
import Derived.Deep.Slices
namespace Go.Proofs.YtadhpkopkkjmfaaDoor
open Go.RowKit

theorem jbelow_is (x n : Int) (b : Bool) (w : World) (hb : decide (0 ≤ x ∧ x < n) = b) : Calls Tryd.prog 20 #[.int .i64 x, .int .i64 n] w fun e w' => e = .returned (.bool b) ∧ w' = w := by
  subst hb
  by_cases h0 : 0 ≤ x
  · by_cases h1 : x < n
    · rw [decide_eq_true (show 0 ≤ x ∧ x < n from ⟨h0, h1⟩)]
      go_enter Tryd.func20, Tryd.ntmps20
      go_wp2_with fail
      go_ret
      exact ⟨rfl, rfl⟩
    · rw [decide_eq_false (show ¬ (0 ≤ x ∧ x < n) from fun h => h1 h.2)]
      have e1 : decide (x < n) = false := decide_eq_false h1
      go_enter Tryd.func20, Tryd.ntmps20
      go_wp2_with fail
      go_ret
      exact ⟨rfl, rfl⟩
  · rw [decide_eq_false (show ¬ (0 ≤ x ∧ x < n) from fun h => h0 h.1)]
    have e1 : decide (0 ≤ x) = false := decide_eq_false h0
    go_enter Tryd.func20, Tryd.ntmps20
    go_wp2_with fail
    go_ret
    exact ⟨rfl, rfl⟩
theorem jisEnd_is (p : Int) (b : Bool) (w : World) (hb : decide (p = 2 ∨ p = 3) = b) : Calls Tryd.prog 17 #[.int .i64 p] w fun e w' => e = .returned (.bool b) ∧ w' = w := by
  subst hb
  by_cases h2 : p = 2
  · subst h2
    go_enter Tryd.func17, Tryd.ntmps17
    go_wp2_with fail
    go_ret
    exact ⟨rfl, rfl⟩
  · by_cases h3 : p = 3
    · subst h3
      go_enter Tryd.func17, Tryd.ntmps17
      go_wp2_with fail
      go_ret
      exact ⟨rfl, rfl⟩
    · rw [decide_eq_false (show ¬ (p = 2 ∨ p = 3) by omega)]
      have b2 : (p == 2) = false := beq_eq_false_iff_ne.2 h2
      have b3 : (p == 3) = false := beq_eq_false_iff_ne.2 h3
      go_enter Tryd.func17, Tryd.ntmps17
      go_wp2_with fail
      go_ret
      exact ⟨rfl, rfl⟩
theorem threeE {w : World} {b : Nat} {a c e : Value} {t : TypeId} {f : Nat × Nat} (h : w.heap[b]? = some (.cells #[a, c, e] t f)) : w.cell? ⟨b, 0, none⟩ = some a ∧ w.cell? ⟨b, 1, none⟩ = some c ∧ w.cell? ⟨b, 2, none⟩ = some e :=
  ⟨by rw [cell_of_row _ _ _ _ _ _ h]; rfl, by rw [cell_of_row _ _ _ _ _ _ h]; rfl, by rw [cell_of_row _ _ _ _ _ _ h]; rfl⟩
/-- What is kept of the six deals. -/
def verL (E S : Nat → Int) : List Value := [.int .i64 (E 0), .int .i64 (S 0), .int .i64 (E 1), .int .i64 (S 1), .int .i64 (E 2), .int .i64 (S 2), .int .i64 (E 3), .int .i64 (S 3), .int .i64 (E 4), .int .i64 (S 4), .int .i64 (E 5), .int .i64 (S 5)]
def verV (E S : Nat → Int) : Value := .agg #[.int .i64 (E 0), .int .i64 (S 0), .int .i64 (E 1), .int .i64 (S 1), .int .i64 (E 2), .int .i64 (S 2), .int .i64 (E 3), .int .i64 (S 3), .int .i64 (E 4), .int .i64 (S 4), .int .i64 (E 5), .int .i64 (S 5)]
theorem verL_get (E S : Nat → Int) {d : Nat} (hd : d < 6) : (verL E S)[d * 2]? = some (.int .i64 (E d)) ∧ (verL E S)[d * 2 + 1]? = some (.int .i64 (S d)) := by
  have h : d = 0 ∨ d = 1 ∨ d = 2 ∨ d = 3 ∨ d = 4 ∨ d = 5 := by omega
  rcases h with rfl | rfl | rfl | rfl | rfl | rfl <;> exact ⟨rfl, rfl⟩
theorem ver_cells {w : World} {b : Nat} {E S : Nat → Int} {t : TypeId} (h : w.heap[b]? = some (.cells (verL E S).toArray t (0, 0))) {d : Nat} (hd : d < 6) : w.cell? ⟨b, d * 2, none⟩ = some (.int .i64 (E d)) ∧ w.cell? ⟨b, d * 2 + 1, none⟩ = some (.int .i64 (S d)) := by
  obtain ⟨h1, h2⟩ := verL_get E S hd
  exact ⟨by rw [cell_of_row _ _ _ _ _ _ h, List.getElem?_toArray]; exact h1, by rw [cell_of_row _ _ _ _ _ _ h, List.getElem?_toArray]; exact h2⟩
set_option maxHeartbeats 2000000 in
set_option maxRecDepth 100000 in
theorem jfault_bad (A : Nat → Addr) (s d p n : Int) (E S : Nat → Int) (w : World) (hE : Held9 w A) (hb : bdB n ⟨s, d, p⟩ = false) :
    Calls Tryd.prog 15 #[.agg #[.int .i64 s, .int .i64 d, .int .i64 p], .int .i64 n, verV E S] w fun e w' => e = .returned (ev A 2) ∧ Below w.heap.size w w' := by
  obtain ⟨x1, H1⟩ : ∃ x, Hid (decide (0 ≤ s ∧ s < n) = x) := ⟨_, rfl⟩
  obtain ⟨x2, H2⟩ : ∃ x, Hid (decide (0 ≤ d ∧ d < 6) = x) := ⟨_, rfl⟩
  obtain ⟨x3, H3⟩ : ∃ x, Hid (decide (p = 2 ∨ p = 3) = x) := ⟨_, rfl⟩
  have HX : Hid (x1 = true → x2 = true → x3 = false) := fun e1 e2 => by
    have h1 := of_decide_eq_true (H1.out.trans e1)
    have h2 := of_decide_eq_true (H2.out.trans e2)
    rw [← H3.out]
    refine decide_eq_false fun h3 => ?_
    exact of_decide_eq_false hb ⟨h1, h2, h3⟩
  obtain ⟨W, HW⟩ : ∃ W, Hid ((w.alloc (.cells #[.int .i64 s, .int .i64 d, .int .i64 p] 28)).alloc (.cells #[.int .i64 (E 0), .int .i64 (S 0), .int .i64 (E 1), .int .i64 (S 1), .int .i64 (E 2), .int .i64 (S 2), .int .i64 (E 3), .int .i64 (S 3), .int .i64 (E 4), .int .i64 (S 4), .int .i64 (E 5), .int .i64 (S 5)] 49) = W) := ⟨_, rfl⟩
  have HB : Hid (Below w.heap.size w W) := by rw [← HW.out]; exact ((Below.refl _ _).alloc (Nat.le_refl _) _).alloc (by simp) _
  have HR : Hid (W.heap[w.heap.size]? = some (.cells #[.int .i64 s, .int .i64 d, .int .i64 p] 28 (0, 0))) := by
    rw [← HW.out]
    exact (heap_alloc_old _ _ (by simp)).trans (heap_alloc_new w _)
  obtain ⟨b0, b1, b2⟩ := threeE HR.out
  have hW := HW.out
  have c1 := (hE.later HB.out).cells.2.1
  unfold verV
  clear hE hb
  cases x1 with
  | false =>
    go_enter Tryd.func15, Tryd.ntmps15
    go_wp2_with fail
    refine (jbelow_is s n false _ H1.out).mono ?_
    rintro e w1 ⟨rfl, hx⟩
    subst w1
    go_wp2_with fail
    go_ret
    exact ⟨rfl, HB.out⟩
  | true =>
    cases x2 with
    | false =>
      go_enter Tryd.func15, Tryd.ntmps15
      go_wp2_with fail
      refine (jbelow_is s n true _ H1.out).mono ?_
      rintro e w1 ⟨rfl, hx⟩
      subst w1
      go_wp2_with fail
      refine (jbelow_is d 6 false _ H2.out).mono ?_
      rintro e w1 ⟨rfl, hx⟩
      subst w1
      go_wp2_with fail
      go_ret
      exact ⟨rfl, HB.out⟩
    | true =>
      obtain rfl := HX.out rfl rfl
      go_enter Tryd.func15, Tryd.ntmps15
      go_wp2_with fail
      refine (jbelow_is s n true _ H1.out).mono ?_
      rintro e w1 ⟨rfl, hx⟩
      subst w1
      go_wp2_with fail
      refine (jbelow_is d 6 true _ H2.out).mono ?_
      rintro e w1 ⟨rfl, hx⟩
      subst w1
      go_wp2_with fail
      refine (jisEnd_is p false _ H3.out).mono ?_
      rintro e w1 ⟨rfl, hx⟩
      subst w1
      go_wp2_with fail
      go_ret
      exact ⟨rfl, HB.out⟩
theorem bit_and1 {s : Int} (k : Nat) (h0 : 0 ≤ s) (h1 : s < 9223372036854775808) : (bits BinOp.and IntKind.i64 (s / 2 ^ k) 1 == 1) = bit s k := by
  obtain ⟨m, rfl⟩ := Int.eq_ofNat_of_zero_le h0
  have e : ((m : Int) / 2 ^ k) = ((m / 2 ^ k : Nat) : Int) := by simp
  have hlt : m / 2 ^ k < 9223372036854775808 := Nat.lt_of_le_of_lt (Nat.div_le_self _ _) (by omega)
  rw [e, show (1 : Int) = ((1 : Nat) : Int) from rfl, bits_and_nat _ 1 hlt (by decide), Nat.and_one_is_mod]
  unfold bit
  rw [Int.toNat_natCast, Nat.testBit_eq_decide_div_mod_eq, Bool.eq_iff_iff]
  simp; omega
set_option maxHeartbeats 2000000 in
set_option maxRecDepth 100000 in
theorem jfault_ok (A : Nat → Addr) (s d : Nat) (p n : Int) (E S : Nat → Int) (x y : Bool) (w : World) (hE : Held9 w A) (hs : (s : Int) < n) (hn : n ≤ 7) (hd : d < 6) (hp : p = 2 ∨ p = 3) (hx : (E d != 0 && E d != p) = x) (h0 : 0 ≤ S d) (h1 : S d < 128) (hy : bit (S d) s = y) :
    Calls Tryd.prog 15 #[.agg #[.int .i64 (s : Int), .int .i64 (d : Int), .int .i64 p], .int .i64 n, verV E S] w fun e w' => e = .returned (ev A (if x = true then 9 else if y = true then 8 else 0)) ∧ Below w.heap.size w w' := by
  have H1 : Hid (decide (0 ≤ (s : Int) ∧ (s : Int) < n) = true) := hid (decide_eq_true ⟨by omega, hs⟩)
  have H2 : Hid (decide (0 ≤ (d : Int) ∧ (d : Int) < 6) = true) := hid (decide_eq_true ⟨by omega, by omega⟩)
  have H3 : Hid (decide (p = 2 ∨ p = 3) = true) := hid (decide_eq_true hp)
  obtain ⟨W, HW⟩ : ∃ W, Hid ((w.alloc (.cells #[.int .i64 (s : Int), .int .i64 (d : Int), .int .i64 p] 28)).alloc (.cells #[.int .i64 (E 0), .int .i64 (S 0), .int .i64 (E 1), .int .i64 (S 1), .int .i64 (E 2), .int .i64 (S 2), .int .i64 (E 3), .int .i64 (S 3), .int .i64 (E 4), .int .i64 (S 4), .int .i64 (E 5), .int .i64 (S 5)] 49) = W) := ⟨_, rfl⟩
  have HB : Hid (Below w.heap.size w W) := by rw [← HW.out]; exact ((Below.refl _ _).alloc (Nat.le_refl _) _).alloc (by simp) _
  have HR : Hid (W.heap[w.heap.size]? = some (.cells #[.int .i64 (s : Int), .int .i64 (d : Int), .int .i64 p] 28 (0, 0))) := by
    rw [← HW.out]
    exact (heap_alloc_old _ _ (by simp)).trans (heap_alloc_new w _)
  have HV : Hid (W.heap[w.heap.size + 1]? = some (.cells (verL E S).toArray 49 (0, 0))) := by
    rw [← HW.out]
    have := heap_alloc_new (w.alloc (.cells #[.int .i64 (s : Int), .int .i64 (d : Int), .int .i64 p] 28)) (.cells (verL E S).toArray 49)
    rw [World.size_alloc] at this
    exact this
  obtain ⟨b0, b1, b2⟩ := threeE HR.out
  obtain ⟨v0, v1⟩ := ver_cells HV.out hd
  have hW := HW.out
  obtain ⟨-, c1, -, -, -, -, -, c7, c8⟩ := (hE.later HB.out).cells
  have hbit : Hid ((bits BinOp.and IntKind.i64 (S d / 2 ^ s) 1 == 1) = y) := by rw [← hy]; exact bit_and1 s h0 (by omega)
  obtain ⟨ed, HED⟩ : ∃ z, Hid (E d = z) := ⟨_, rfl⟩
  obtain ⟨sd, HSD⟩ : ∃ z, Hid (S d = z) := ⟨_, rfl⟩
  rw [HED.out] at v0 hx
  rw [HSD.out] at v1 hbit h0 h1
  unfold verV
  clear hE hp HR HV
  cases x with
  | true =>
    rw [Bool.and_eq_true, bne_iff_ne, bne_iff_ne] at hx
    have e1 : (ed != 0) = true := bne_iff_ne.2 hx.1
    have e2 : (ed != p) = true := bne_iff_ne.2 hx.2
    rw [if_pos rfl]
    go_enter Tryd.func15, Tryd.ntmps15
    go_wp2_with fail
    refine (jbelow_is s n true _ H1.out).mono ?_
    rintro e w1 ⟨rfl, hx⟩
    subst w1
    go_wp2_with fail
    refine (jbelow_is d 6 true _ H2.out).mono ?_
    rintro e w1 ⟨rfl, hx⟩
    subst w1
    go_wp2_with fail
    refine (jisEnd_is p true _ H3.out).mono ?_
    rintro e w1 ⟨rfl, hx⟩
    subst w1
    go_wp2_with fail
    go_quiet (fail)
    go_wp2
    go_ret
    exact ⟨rfl, below_drewN HB.out _⟩
  | false =>
    rw [if_neg (by decide)]
    have key : ∀ f1 f2 : Bool, (ed != 0) = f1 → (f1 = true → (ed != p) = f2 ∧ f2 = false) → Calls Tryd.prog 15 #[.agg #[.int .i64 (s : Int), .int .i64 (d : Int), .int .i64 p], .int .i64 n, .agg #[.int .i64 (E 0), .int .i64 (S 0), .int .i64 (E 1), .int .i64 (S 1), .int .i64 (E 2), .int .i64 (S 2), .int .i64 (E 3), .int .i64 (S 3), .int .i64 (E 4), .int .i64 (S 4), .int .i64 (E 5), .int .i64 (S 5)]] w fun e w' => e = .returned (ev A (if y = true then 8 else 0)) ∧ Below w.heap.size w w' := by
      intro f1 f2 e1 e2
      have e3 : f1 = true → (ed != p) = false := fun h => by obtain ⟨a1, a2⟩ := e2 h; rw [a1, a2]
      clear e2
      cases f1 with
      | true =>
        have e4 := e3 rfl
        clear e3 hx
        go_enter Tryd.func15, Tryd.ntmps15
        go_wp2_with fail
        refine (jbelow_is s n true _ H1.out).mono ?_
        rintro e w1 ⟨rfl, hx⟩
        subst w1
        go_wp2_with fail
        refine (jbelow_is d 6 true _ H2.out).mono ?_
        rintro e w1 ⟨rfl, hx⟩
        subst w1
        go_wp2_with fail
        refine (jisEnd_is p true _ H3.out).mono ?_
        rintro e w1 ⟨rfl, hx⟩
        subst w1
        go_wp2_with fail
        go_quiet (fail)
        go_wp2
        go_quiet (fail)
        rw [hbit.out]
        cases y with
        | true =>
          go_wp2
          go_ret
          exact ⟨rfl, below_drewN HB.out _⟩
        | false =>
          go_wp2
          go_ret
          exact ⟨rfl, below_drewN HB.out _⟩
      | false =>
        clear e3 hx
        go_enter Tryd.func15, Tryd.ntmps15
        go_wp2_with fail
        refine (jbelow_is s n true _ H1.out).mono ?_
        rintro e w1 ⟨rfl, hx⟩
        subst w1
        go_wp2_with fail
        refine (jbelow_is d 6 true _ H2.out).mono ?_
        rintro e w1 ⟨rfl, hx⟩
        subst w1
        go_wp2_with fail
        refine (jisEnd_is p true _ H3.out).mono ?_
        rintro e w1 ⟨rfl, hx⟩
        subst w1
        go_wp2_with fail
        go_quiet (fail)
        go_wp2
        go_quiet (fail)
        rw [hbit.out]
        cases y with
        | true =>
          go_wp2
          go_ret
          exact ⟨rfl, below_drewN HB.out _⟩
        | false =>
          go_wp2
          go_ret
          exact ⟨rfl, below_drewN HB.out _⟩
    refine key _ (ed != p) rfl fun h => ⟨rfl, ?_⟩
    rw [h, Bool.true_and] at hx
    exact hx
/-- A fault of an event, behind others that are well. -/
theorem jfault_any (A : Nat → Addr) (e : E3) (n : Int) (P : List E3) (c : Nat) (w : World) (hE : Held9 w A) (hn : n ≤ 7) (hk : EvK n P) (hc : evC n P e = c) :
    Calls Tryd.prog 15 #[.agg #[.int .i64 e.s, .int .i64 e.d, .int .i64 e.p], .int .i64 n, verV (endL P) (sitL P)] w fun r w' => r = .returned (ev A c) ∧ Below w.heap.size w w' := by
  subst hc
  unfold evC
  cases hb : bdB n e with
  | false =>
    rw [if_pos rfl]
    exact jfault_bad A e.s e.d e.p n _ _ w hE hb
  | true =>
    rw [if_neg (by decide)]
    obtain ⟨⟨s0, s1⟩, ⟨d0, d1⟩, hp⟩ := of_decide_eq_true hb
    obtain ⟨s, hs⟩ := Int.eq_ofNat_of_zero_le s0
    obtain ⟨d, hd⟩ := Int.eq_ofNat_of_zero_le d0
    have h := jfault_ok A s d e.p n (endL P) (sitL P) _ _ w hE (by omega) hn (by omega) hp rfl (hk.s0 d).1 (hk.s0 d).2 rfl
    rw [← hk.split hd, ← hk.held hd hs (by omega)] at h
    rw [hs, hd]
    exact h
end Go.Proofs.YtadhpkopkkjmfaaDoor
