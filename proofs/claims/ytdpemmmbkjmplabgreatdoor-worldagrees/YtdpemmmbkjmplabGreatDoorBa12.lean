/-
  WALKS of package judge: below, isEnd, fault.
  WALKS of package judge: Check.
  WALKS of package judge: Agree.
  WALKS of package judge: Outcome, Agree.
  WALKS: errors.As at an api.Fault; plain.Code of an api.Fault round one of package api's errors.
  THE CONTRACT of plain.Code at an api.Fault round an error of errors.New's make: its number, and its place.
  THE DOCUMENT's EventsFault; a fault as a value; the law's 'faulted'.
  WALKS of the laws' states, backEvents.
  WALKS of package world: Flying, Events.
-/
import Derived.Test.YtdpemmmbkjmplabGreatDoorBa11
import Derived.Test.YtdpemmmbkjmplabGreatDoorBa2
import Derived.Test.YtdpemmmbkjmplabGreatDoorBa8
import Derived.Deep.RegionHeld3
import Derived.Deep.Slices
import Derived.Deep.RegionLaw
namespace Go.Proofs.YtdpemmmbkjmplabGreatDoor
open Go.RowKit

theorem jbelow_is (x n : Int) (b : Bool) (w : World) (hb : decide (0 ≤ x ∧ x < n) = b) : Calls Tryz.prog 88 #[.int .i64 x, .int .i64 n] w fun e w' => e = .returned (.bool b) ∧ w' = w := by
  subst hb
  by_cases h0 : 0 ≤ x
  · by_cases h1 : x < n
    · rw [decide_eq_true (show 0 ≤ x ∧ x < n from ⟨h0, h1⟩)]
      go_enter Tryz.func88, Tryz.ntmps88
      go_wp2_with fail
      go_ret
      exact ⟨rfl, rfl⟩
    · rw [decide_eq_false (show ¬ (0 ≤ x ∧ x < n) from fun h => h1 h.2)]
      have e1 : decide (x < n) = false := decide_eq_false h1
      go_enter Tryz.func88, Tryz.ntmps88
      go_wp2_with fail
      go_ret
      exact ⟨rfl, rfl⟩
  · rw [decide_eq_false (show ¬ (0 ≤ x ∧ x < n) from fun h => h0 h.1)]
    have e1 : decide (0 ≤ x) = false := decide_eq_false h0
    go_enter Tryz.func88, Tryz.ntmps88
    go_wp2_with fail
    go_ret
    exact ⟨rfl, rfl⟩
theorem jisEnd_is (p : Int) (b : Bool) (w : World) (hb : decide (p = 2 ∨ p = 3) = b) : Calls Tryz.prog 58 #[.int .i64 p] w fun e w' => e = .returned (.bool b) ∧ w' = w := by
  subst hb
  by_cases h2 : p = 2
  · subst h2
    go_enter Tryz.func58, Tryz.ntmps58
    go_wp2_with fail
    go_ret
    exact ⟨rfl, rfl⟩
  · by_cases h3 : p = 3
    · subst h3
      go_enter Tryz.func58, Tryz.ntmps58
      go_wp2_with fail
      go_ret
      exact ⟨rfl, rfl⟩
    · rw [decide_eq_false (show ¬ (p = 2 ∨ p = 3) by omega)]
      have b2 : (p == 2) = false := beq_eq_false_iff_ne.2 h2
      have b3 : (p == 3) = false := beq_eq_false_iff_ne.2 h3
      go_enter Tryz.func58, Tryz.ntmps58
      go_wp2_with fail
      go_ret
      exact ⟨rfl, rfl⟩
theorem threeE {w : World} {b : Nat} {a c e : Value} {t : TypeId} {f : Nat × Nat} (h : w.heap[b]? = some (.cells #[a, c, e] t f)) : w.cell? ⟨b, 0, none⟩ = some a ∧ w.cell? ⟨b, 1, none⟩ = some c ∧ w.cell? ⟨b, 2, none⟩ = some e :=
  ⟨by rw [cell_of_row _ _ _ _ _ _ h]; rfl, by rw [cell_of_row _ _ _ _ _ _ h]; rfl, by rw [cell_of_row _ _ _ _ _ _ h]; rfl⟩
/-- What is kept of the six deals. -/
def verL (E S : Nat → Int) : List Value := [.int .i64 (E 0), .int .i64 (S 0), .int .i64 (E 1), .int .i64 (S 1), .int .i64 (E 2), .int .i64 (S 2), .int .i64 (E 3), .int .i64 (S 3), .int .i64 (E 4), .int .i64 (S 4), .int .i64 (E 5), .int .i64 (S 5)]
def verV (E S : Nat → Int) : Value := .agg #[.int .i64 (E 0), .int .i64 (S 0), .int .i64 (E 1), .int .i64 (S 1), .int .i64 (E 2), .int .i64 (S 2), .int .i64 (E 3), .int .i64 (S 3), .int .i64 (E 4), .int .i64 (S 4), .int .i64 (E 5), .int .i64 (S 5)]
theorem verL_get (E S : Nat → Int) {d : Nat} (hd : d < 6) : (verL E S)[d * 2]? = some (.int .i64 (E d)) ∧ (verL E S)[d * 2 + 1]? = some (.int .i64 (S d)) := by
  have h : d = 0 ∨ d = 1 ∨ d = 2 ∨ d = 3 ∨ d = 4 ∨ d = 5 := by omega
  rcases h with rfl | rfl | rfl | rfl | rfl | rfl <;> exact ⟨rfl, rfl⟩
theorem ver_cells {w : World} {b : Nat} {E S : Nat → Int} {t : TypeId} (h : w.heap[b]? = some (.cells (verL E S).toArray t (0, 0))) {d : Nat} (hd : d < 6) : w.cell? ⟨b, d * 2, none⟩ = some (.int .i64 (E d)) ∧ w.cell? ⟨b, d * 2 + 1, none⟩ = some (.int .i64 (S d)) := by
  obtain ⟨h1, h2⟩ := verL_get E S hd
  exact ⟨by rw [cell_of_row _ _ _ _ _ _ h, List.getElem?_toArray]; exact h1, by rw [cell_of_row _ _ _ _ _ _ h, List.getElem?_toArray]; exact h2⟩
set_option maxHeartbeats 2000000 in
set_option maxRecDepth 100000 in
theorem jfault_bad (A : Nat → Addr) (s d p n : Int) (E S : Nat → Int) (w : World) (hE : Held9 w A) (hb : bdB n ⟨s, d, p⟩ = false) :
    Calls Tryz.prog 59 #[.agg #[.int .i64 s, .int .i64 d, .int .i64 p], .int .i64 n, verV E S] w fun e w' => e = .returned (ev A 2) ∧ Below w.heap.size w w' := by
  obtain ⟨x1, H1⟩ : ∃ x, Hid (decide (0 ≤ s ∧ s < n) = x) := ⟨_, rfl⟩
  obtain ⟨x2, H2⟩ : ∃ x, Hid (decide (0 ≤ d ∧ d < 6) = x) := ⟨_, rfl⟩
  obtain ⟨x3, H3⟩ : ∃ x, Hid (decide (p = 2 ∨ p = 3) = x) := ⟨_, rfl⟩
  have HX : Hid (x1 = true → x2 = true → x3 = false) := fun e1 e2 => by
    have h1 := of_decide_eq_true (H1.out.trans e1)
    have h2 := of_decide_eq_true (H2.out.trans e2)
    rw [← H3.out]
    refine decide_eq_false fun h3 => ?_
    exact of_decide_eq_false hb ⟨h1, h2, h3⟩
  obtain ⟨W, HW⟩ : ∃ W, Hid ((w.alloc (.cells #[.int .i64 s, .int .i64 d, .int .i64 p] 101)).alloc (.cells #[.int .i64 (E 0), .int .i64 (S 0), .int .i64 (E 1), .int .i64 (S 1), .int .i64 (E 2), .int .i64 (S 2), .int .i64 (E 3), .int .i64 (S 3), .int .i64 (E 4), .int .i64 (S 4), .int .i64 (E 5), .int .i64 (S 5)] 108) = W) := ⟨_, rfl⟩
  have HB : Hid (Below w.heap.size w W) := by rw [← HW.out]; exact ((Below.refl _ _).alloc (Nat.le_refl _) _).alloc (by simp) _
  have HR : Hid (W.heap[w.heap.size]? = some (.cells #[.int .i64 s, .int .i64 d, .int .i64 p] 101 (0, 0))) := by
    rw [← HW.out]
    exact (heap_alloc_old _ _ (by simp)).trans (heap_alloc_new w _)
  obtain ⟨b0, b1, b2⟩ := threeE HR.out
  have hW := HW.out
  have c1 := (hE.later HB.out).cells.2.1
  unfold verV
  clear hE hb
  cases x1 with
  | false =>
    go_enter Tryz.func59, Tryz.ntmps59
    go_wp2_with fail
    refine (jbelow_is s n false _ H1.out).mono ?_
    rintro e w1 ⟨rfl, hx⟩
    subst w1
    go_wp2_with fail
    go_ret
    exact ⟨rfl, HB.out⟩
  | true =>
    cases x2 with
    | false =>
      go_enter Tryz.func59, Tryz.ntmps59
      go_wp2_with fail
      refine (jbelow_is s n true _ H1.out).mono ?_
      rintro e w1 ⟨rfl, hx⟩
      subst w1
      go_wp2_with fail
      refine (jbelow_is d 6 false _ H2.out).mono ?_
      rintro e w1 ⟨rfl, hx⟩
      subst w1
      go_wp2_with fail
      go_ret
      exact ⟨rfl, HB.out⟩
    | true =>
      obtain rfl := HX.out rfl rfl
      go_enter Tryz.func59, Tryz.ntmps59
      go_wp2_with fail
      refine (jbelow_is s n true _ H1.out).mono ?_
      rintro e w1 ⟨rfl, hx⟩
      subst w1
      go_wp2_with fail
      refine (jbelow_is d 6 true _ H2.out).mono ?_
      rintro e w1 ⟨rfl, hx⟩
      subst w1
      go_wp2_with fail
      refine (jisEnd_is p false _ H3.out).mono ?_
      rintro e w1 ⟨rfl, hx⟩
      subst w1
      go_wp2_with fail
      go_ret
      exact ⟨rfl, HB.out⟩
theorem bit_and1 {s : Int} (k : Nat) (h0 : 0 ≤ s) (h1 : s < 9223372036854775808) : (bits BinOp.and IntKind.i64 (s / 2 ^ k) 1 == 1) = bit s k := by
  obtain ⟨m, rfl⟩ := Int.eq_ofNat_of_zero_le h0
  have e : ((m : Int) / 2 ^ k) = ((m / 2 ^ k : Nat) : Int) := by simp
  have hlt : m / 2 ^ k < 9223372036854775808 := Nat.lt_of_le_of_lt (Nat.div_le_self _ _) (by omega)
  rw [e, show (1 : Int) = ((1 : Nat) : Int) from rfl, bits_and_nat _ 1 hlt (by decide), Nat.and_one_is_mod]
  unfold bit
  rw [Int.toNat_natCast, Nat.testBit_eq_decide_div_mod_eq, Bool.eq_iff_iff]
  simp; omega
set_option maxHeartbeats 2000000 in
set_option maxRecDepth 100000 in
theorem jfault_ok (A : Nat → Addr) (s d : Nat) (p n : Int) (E S : Nat → Int) (x y : Bool) (w : World) (hE : Held9 w A) (hs : (s : Int) < n) (hn : n ≤ 7) (hd : d < 6) (hp : p = 2 ∨ p = 3) (hx : (E d != 0 && E d != p) = x) (h0 : 0 ≤ S d) (h1 : S d < 128) (hy : bit (S d) s = y) :
    Calls Tryz.prog 59 #[.agg #[.int .i64 (s : Int), .int .i64 (d : Int), .int .i64 p], .int .i64 n, verV E S] w fun e w' => e = .returned (ev A (if x = true then 9 else if y = true then 8 else 0)) ∧ Below w.heap.size w w' := by
  have H1 : Hid (decide (0 ≤ (s : Int) ∧ (s : Int) < n) = true) := hid (decide_eq_true ⟨by omega, hs⟩)
  have H2 : Hid (decide (0 ≤ (d : Int) ∧ (d : Int) < 6) = true) := hid (decide_eq_true ⟨by omega, by omega⟩)
  have H3 : Hid (decide (p = 2 ∨ p = 3) = true) := hid (decide_eq_true hp)
  obtain ⟨W, HW⟩ : ∃ W, Hid ((w.alloc (.cells #[.int .i64 (s : Int), .int .i64 (d : Int), .int .i64 p] 101)).alloc (.cells #[.int .i64 (E 0), .int .i64 (S 0), .int .i64 (E 1), .int .i64 (S 1), .int .i64 (E 2), .int .i64 (S 2), .int .i64 (E 3), .int .i64 (S 3), .int .i64 (E 4), .int .i64 (S 4), .int .i64 (E 5), .int .i64 (S 5)] 108) = W) := ⟨_, rfl⟩
  have HB : Hid (Below w.heap.size w W) := by rw [← HW.out]; exact ((Below.refl _ _).alloc (Nat.le_refl _) _).alloc (by simp) _
  have HR : Hid (W.heap[w.heap.size]? = some (.cells #[.int .i64 (s : Int), .int .i64 (d : Int), .int .i64 p] 101 (0, 0))) := by
    rw [← HW.out]
    exact (heap_alloc_old _ _ (by simp)).trans (heap_alloc_new w _)
  have HV : Hid (W.heap[w.heap.size + 1]? = some (.cells (verL E S).toArray 108 (0, 0))) := by
    rw [← HW.out]
    have := heap_alloc_new (w.alloc (.cells #[.int .i64 (s : Int), .int .i64 (d : Int), .int .i64 p] 101)) (.cells (verL E S).toArray 108)
    rw [World.size_alloc] at this
    exact this
  obtain ⟨b0, b1, b2⟩ := threeE HR.out
  obtain ⟨v0, v1⟩ := ver_cells HV.out hd
  have hW := HW.out
  obtain ⟨-, c1, -, -, -, -, -, c7, c8⟩ := (hE.later HB.out).cells
  have hbit : Hid ((bits BinOp.and IntKind.i64 (S d / 2 ^ s) 1 == 1) = y) := by rw [← hy]; exact bit_and1 s h0 (by omega)
  obtain ⟨ed, HED⟩ : ∃ z, Hid (E d = z) := ⟨_, rfl⟩
  obtain ⟨sd, HSD⟩ : ∃ z, Hid (S d = z) := ⟨_, rfl⟩
  rw [HED.out] at v0 hx
  rw [HSD.out] at v1 hbit h0 h1
  unfold verV
  clear hE hp HR HV
  cases x with
  | true =>
    rw [Bool.and_eq_true, bne_iff_ne, bne_iff_ne] at hx
    have e1 : (ed != 0) = true := bne_iff_ne.2 hx.1
    have e2 : (ed != p) = true := bne_iff_ne.2 hx.2
    rw [if_pos rfl]
    go_enter Tryz.func59, Tryz.ntmps59
    go_wp2_with fail
    refine (jbelow_is s n true _ H1.out).mono ?_
    rintro e w1 ⟨rfl, hx⟩
    subst w1
    go_wp2_with fail
    refine (jbelow_is d 6 true _ H2.out).mono ?_
    rintro e w1 ⟨rfl, hx⟩
    subst w1
    go_wp2_with fail
    refine (jisEnd_is p true _ H3.out).mono ?_
    rintro e w1 ⟨rfl, hx⟩
    subst w1
    go_wp2_with fail
    go_quiet (fail)
    go_wp2
    go_ret
    exact ⟨rfl, below_drewN HB.out _⟩
  | false =>
    rw [if_neg (by decide)]
    have key : ∀ f1 f2 : Bool, (ed != 0) = f1 → (f1 = true → (ed != p) = f2 ∧ f2 = false) → Calls Tryz.prog 59 #[.agg #[.int .i64 (s : Int), .int .i64 (d : Int), .int .i64 p], .int .i64 n, .agg #[.int .i64 (E 0), .int .i64 (S 0), .int .i64 (E 1), .int .i64 (S 1), .int .i64 (E 2), .int .i64 (S 2), .int .i64 (E 3), .int .i64 (S 3), .int .i64 (E 4), .int .i64 (S 4), .int .i64 (E 5), .int .i64 (S 5)]] w fun e w' => e = .returned (ev A (if y = true then 8 else 0)) ∧ Below w.heap.size w w' := by
      intro f1 f2 e1 e2
      have e3 : f1 = true → (ed != p) = false := fun h => by obtain ⟨a1, a2⟩ := e2 h; rw [a1, a2]
      clear e2
      cases f1 with
      | true =>
        have e4 := e3 rfl
        clear e3 hx
        go_enter Tryz.func59, Tryz.ntmps59
        go_wp2_with fail
        refine (jbelow_is s n true _ H1.out).mono ?_
        rintro e w1 ⟨rfl, hx⟩
        subst w1
        go_wp2_with fail
        refine (jbelow_is d 6 true _ H2.out).mono ?_
        rintro e w1 ⟨rfl, hx⟩
        subst w1
        go_wp2_with fail
        refine (jisEnd_is p true _ H3.out).mono ?_
        rintro e w1 ⟨rfl, hx⟩
        subst w1
        go_wp2_with fail
        go_quiet (fail)
        go_wp2
        go_quiet (fail)
        rw [hbit.out]
        cases y with
        | true =>
          go_wp2
          go_ret
          exact ⟨rfl, below_drewN HB.out _⟩
        | false =>
          go_wp2
          go_ret
          exact ⟨rfl, below_drewN HB.out _⟩
      | false =>
        clear e3 hx
        go_enter Tryz.func59, Tryz.ntmps59
        go_wp2_with fail
        refine (jbelow_is s n true _ H1.out).mono ?_
        rintro e w1 ⟨rfl, hx⟩
        subst w1
        go_wp2_with fail
        refine (jbelow_is d 6 true _ H2.out).mono ?_
        rintro e w1 ⟨rfl, hx⟩
        subst w1
        go_wp2_with fail
        refine (jisEnd_is p true _ H3.out).mono ?_
        rintro e w1 ⟨rfl, hx⟩
        subst w1
        go_wp2_with fail
        go_quiet (fail)
        go_wp2
        go_quiet (fail)
        rw [hbit.out]
        cases y with
        | true =>
          go_wp2
          go_ret
          exact ⟨rfl, below_drewN HB.out _⟩
        | false =>
          go_wp2
          go_ret
          exact ⟨rfl, below_drewN HB.out _⟩
    refine key _ (ed != p) rfl fun h => ⟨rfl, ?_⟩
    rw [h, Bool.true_and] at hx
    exact hx
/-- A fault of an event, behind others that are well. -/
theorem jfault_any (A : Nat → Addr) (e : E3) (n : Int) (P : List E3) (c : Nat) (w : World) (hE : Held9 w A) (hn : n ≤ 7) (hk : EvK n P) (hc : evC n P e = c) :
    Calls Tryz.prog 59 #[.agg #[.int .i64 e.s, .int .i64 e.d, .int .i64 e.p], .int .i64 n, verV (endL P) (sitL P)] w fun r w' => r = .returned (ev A c) ∧ Below w.heap.size w w' := by
  subst hc
  unfold evC
  cases hb : bdB n e with
  | false =>
    rw [if_pos rfl]
    exact jfault_bad A e.s e.d e.p n _ _ w hE hb
  | true =>
    rw [if_neg (by decide)]
    obtain ⟨⟨s0, s1⟩, ⟨d0, d1⟩, hp⟩ := of_decide_eq_true hb
    obtain ⟨s, hs⟩ := Int.eq_ofNat_of_zero_le s0
    obtain ⟨d, hd⟩ := Int.eq_ofNat_of_zero_le d0
    have h := jfault_ok A s d e.p n (endL P) (sitL P) _ _ w hE (by omega) hn (by omega) hp rfl (hk.s0 d).1 (hk.s0 d).2 rfl
    rw [← hk.split hd, ← hk.held hd hs (by omega)] at h
    rw [hs, hd]
    exact h
end Go.Proofs.YtdpemmmbkjmplabGreatDoor
namespace Go.Proofs.YtdpemmmbkjmplabGreatDoor
open Go.RowKit

/-- One deal's entry is written. -/
theorem ver_set {w : World} {b : Nat} {E S : Nat → Int} {t : TypeId} (h : w.heap[b]? = some (.cells (verL E S).toArray t (0, 0))) {d : Nat} (hd : d < 6) (p q : Int) :
    ((w.setCell ⟨b, d * 2, none⟩ (.int .i64 p)).setCell ⟨b, d * 2 + 1, none⟩ (.int .i64 q)).heap[b]? = some (.cells (verL (fun x => if x = d then p else E x) (fun x => if x = d then q else S x)).toArray t (0, 0)) := by
  have e1 := heap_setCell_same w b (d * 2) _ _ (.int .i64 p) h
  rw [heap_setCell_same _ b (d * 2 + 1) _ _ _ e1, List.setIfInBounds_toArray, List.setIfInBounds_toArray]
  have hd6 : d = 0 ∨ d = 1 ∨ d = 2 ∨ d = 3 ∨ d = 4 ∨ d = 5 := by omega
  rcases hd6 with rfl | rfl | rfl | rfl | rfl | rfl <;> rfl
theorem verL_snoc (P : List E3) (e : E3) {d s : Nat} (hd : e.d = (d : Int)) (hs : e.s = (s : Int)) : (fun x => if x = d then e.p else endL P x) = endL (P ++ [e]) ∧ (fun x => if x = d then bits .or .i64 (sitL P d) (2 ^ s) else sitL P x) = sitL (P ++ [e]) := by
  constructor
  · funext x
    rw [endL_snoc]
    by_cases c : x = d
    · rw [if_pos c, if_pos (by omega)]
    · rw [if_neg c, if_neg (by omega)]
  · funext x
    rw [sitL_snoc]
    by_cases c : x = d
    · rw [if_pos c, if_pos (by omega), c, hs, Int.toNat_natCast]
    · rw [if_neg c, if_neg (by omega)]
theorem ver_twelve {w : World} {b : Nat} {E S : Nat → Int} {t : TypeId} (h : w.heap[b]? = some (.cells (verL E S).toArray t (0, 0))) :
    w.cell? ⟨b, 0, none⟩ = some (.int .i64 (E 0)) ∧ w.cell? ⟨b, 1, none⟩ = some (.int .i64 (S 0)) ∧ w.cell? ⟨b, 2, none⟩ = some (.int .i64 (E 1)) ∧ w.cell? ⟨b, 3, none⟩ = some (.int .i64 (S 1)) ∧ w.cell? ⟨b, 4, none⟩ = some (.int .i64 (E 2)) ∧ w.cell? ⟨b, 5, none⟩ = some (.int .i64 (S 2)) ∧ w.cell? ⟨b, 6, none⟩ = some (.int .i64 (E 3)) ∧ w.cell? ⟨b, 7, none⟩ = some (.int .i64 (S 3)) ∧ w.cell? ⟨b, 8, none⟩ = some (.int .i64 (E 4)) ∧ w.cell? ⟨b, 9, none⟩ = some (.int .i64 (S 4)) ∧ w.cell? ⟨b, 10, none⟩ = some (.int .i64 (E 5)) ∧ w.cell? ⟨b, 11, none⟩ = some (.int .i64 (S 5)) := by
  refine ⟨?_, ?_, ?_, ?_, ?_, ?_, ?_, ?_, ?_, ?_, ?_, ?_⟩ <;> rw [cell_of_row _ _ _ _ _ _ h] <;> rfl
/-- What Check answers: nothing, or a fault in a block of its own. -/
def FltV (w : World) (A : Nat → Addr) (c k : Nat) (v : Value) (base : Nat) : Prop := (c = 0 ∧ v = .nilIface) ∨ (∃ x fb, c = x + 1 ∧ base ≤ fb ∧ v = .iface 103 (.pointer (some ⟨fb, 0, none⟩)) ∧ w.cell? ⟨fb, 0, none⟩ = some (.int .i64 (k : Int)) ∧ w.cell? ⟨fb, 1, none⟩ = some (.iface 222 (.pointer (some (A x)))))
theorem jcheck_no (A : Nat → Addr) (v : Value) (n : Int) (w : World) (hE : Held9 w A) (hn : ¬ (1 ≤ n ∧ n ≤ 7)) :
    Calls Tryz.prog 24 #[v, .int .i64 n] w fun e w' => e = .returned (ev A 2) ∧ w' = w := by
  have c1 := hE.cells.2.1
  clear hE
  by_cases h1 : n < 1
  · go_enter Tryz.func24, Tryz.ntmps24
    go_wp2_with fail
    go_ret
    exact ⟨rfl, rfl⟩
  · have h2 : 7 < n := by omega
    go_enter Tryz.func24, Tryz.ntmps24
    go_wp2_with fail
    go_ret
    exact ⟨rfl, rfl⟩
set_option maxHeartbeats 2000000 in
set_option maxRecDepth 100000 in
theorem jcheck_ok (A : Nat → Addr) (ad : Option Addr) (cap : Nat) (L : List E3) (n : Int) (c kk : Nat) (w : World) (hE : Held9 w A) (h1 : 1 ≤ n) (h7 : n ≤ 7) (hL : EL w ad L) (hl : L.length ≤ 100000) (hF : EvF n L c kk) :
    Calls Tryz.prog 24 #[.slice ad L.length cap, .int .i64 n] w fun e w' => ∃ v, e = .returned v ∧ FltV w' A c kk v w.heap.size ∧ Below w.heap.size w w' := by
  have HE := hid hE
  have HL := hid hL
  have HF := hid hF
  have H7 := hid h7
  clear hE hL hF
  go_enter Tryz.func24, Tryz.ntmps24
  go_wp2_with fail
  go_loopw [19] (fun v wr => ∃ k : Nat, k ≤ kk ∧ v = .int .i64 (k : Int) ∧ wr.heap[w.heap.size]? = some (.cells (verL (endL (L.take k)) (sitL (L.take k))).toArray 108 (0, 0)) ∧ Below w.heap.size w wr) (fun v _ => L.length - (intOf v).toNat)
  case atStart =>
    refine ⟨0, Nat.zero_le _, rfl, ?_, (Below.refl _ _).alloc (Nat.le_refl _) _⟩
    exact heap_alloc_new w _
  case round =>
    obtain ⟨k, hk, rfl, hrow, hb⟩ := hrel
    have HB := hid hb
    by_cases hlt : k < L.length
    · obtain ⟨b, o, rfl, y0, y1, y2⟩ := HL.out k hlt
      obtain ⟨⟨s, d, p⟩, HS⟩ : ∃ e, Hid (L[k]'hlt = e) := ⟨_, rfl⟩
      rw [HS.out] at y0 y1 y2
      replace y0 := cell_later hb y0
      replace y1 := cell_later hb y1
      replace y2 := cell_later hb y2
      obtain ⟨W2, HW2⟩ : ∃ W2, Hid (wr.alloc (.cells #[.int .i64 s, .int .i64 d, .int .i64 p] 101) = W2) := ⟨_, rfl⟩
      have hW2 := HW2.out
      have HB2 : Hid (Below wr.heap.size wr W2) := by rw [← HW2.out]; exact (Below.refl _ _).alloc (Nat.le_refl _) _
      have HR2 : Hid (W2.heap[w.heap.size]? = some (.cells (verL (endL (L.take k)) (sitL (L.take k))).toArray 108 (0, 0))) := row_later HB2.out hrow
      obtain ⟨z0, z1, z2, z3, z4, z5, z6, z7, z8, z9, z10, z11⟩ := ver_twelve HR2.out
      have HRe : Hid (W2.heap[wr.heap.size]? = some (.cells #[.int .i64 s, .int .i64 d, .int .i64 p] 101 (0, 0))) := by rw [← HW2.out]; exact heap_alloc_new wr _
      obtain ⟨r0, r1, r2⟩ := threeE HRe.out
      have hwb := row_ltJ hrow
      have HK : Hid (EvK n (L.take k)) := (show EvW n L k from fun j hj hjk => HF.out.1 j hj (by omega)).kept H7.out (by omega)
      clear hb
      by_cases hkk : k < kk
      · have HC : Hid (evC n (L.take k) ⟨s, d, p⟩ = 0) := by have := HF.out.1 k hlt hkk; rw [HS.out] at this; exact this
        have HFa := hid (jfault_any A ⟨s, d, p⟩ n (L.take k) 0 W2 ((HE.out.later HB.out).later HB2.out) H7.out HK.out HC.out)
        unfold verV at HFa
        rw [show ev A 0 = .nilIface from rfl] at HFa
        obtain ⟨⟨s0, s1⟩, ⟨d0, d1⟩, -⟩ := of_decide_eq_true (evC_zero HC.out).1
        simp only at s0 s1 d0 d1
        obtain ⟨sn, rfl⟩ := Int.eq_ofNat_of_zero_le s0
        obtain ⟨dn, rfl⟩ := Int.eq_ofNat_of_zero_le d0
        have hs7 : sn < 7 := by omega
        have hd6 : dn < 6 := by omega
        have HSn : Hid (L.take (k + 1) = L.take k ++ [⟨sn, dn, p⟩]) := by show _ = _; rw [take_snoc L k hlt, HS.out]
        go_wp2_with fail
        refine HFa.out.mono ?_
        rintro e w3 ⟨rfl, hb3⟩
        have HR3 := hid (row_later hb3 HR2.out)
        have HRe3 := hid (row_later hb3 HRe.out)
        have HB3 := hid (below_trans (below_trans HB.out HB2.out) hb3)
        clear hb3 r0 r1 r2 z0 z1 z2 z3 z4 z5 z6 z7 z8 z9 z10 z11
        obtain ⟨r0, r1, r2⟩ := threeE HRe3.out
        obtain ⟨v0, v1⟩ := ver_cells HR3.out hd6
        have f0 := frozen_of_row _ _ (dn * 2) _ _ HR3.out
        have f1 := frozen_of_row _ _ (dn * 2 + 1) _ _ HR3.out
        have HV := hid (ver_set HR3.out hd6 p (bits .or .i64 (sitL (L.take k) dn) (2 ^ sn)))
        rw [(verL_snoc (L.take k) ⟨sn, dn, p⟩ rfl rfl).1, (verL_snoc (L.take k) ⟨sn, dn, p⟩ rfl rfl).2, ← HSn.out] at HV
        have hp := (pow_le7 (n := sn) (by omega)).1
        have hp2 := (pow_le7 (n := sn) (by omega)).2
        obtain ⟨W4, HW4⟩ : ∃ W4, Hid (w3.setCell ⟨w.heap.size, dn * 2, none⟩ (.int .i64 p) = W4) := ⟨_, rfl⟩
        have hW4 := HW4.out
        rw [hW4] at HV
        have HR4 := hid (heap_setCell_same w3 w.heap.size (dn * 2) _ _ (.int .i64 p) HR3.out)
        have HRe4 := hid ((heap_setCell_other w3 ⟨w.heap.size, dn * 2, none⟩ wr.heap.size (.int .i64 p) (by show wr.heap.size ≠ w.heap.size; omega)).trans HRe3.out)
        rw [hW4] at HR4 HRe4
        have q1 : W4.cell? ⟨w.heap.size, dn * 2 + 1, none⟩ = some (.int .i64 (sitL (L.take k) dn)) := by rw [cell_of_row _ _ _ _ _ _ HR4.out, List.setIfInBounds_toArray, List.getElem?_toArray, List.getElem?_set_ne (by omega)]; exact (verL_get _ _ hd6).2
        obtain ⟨q2, q3, q4⟩ := threeE HRe4.out
        have f4 := frozen_of_row _ _ (dn * 2 + 1) _ _ HR4.out
        have HB4 : Hid (Below w.heap.size w W4) := by rw [← hW4]; exact HB3.out.setCell (Nat.le_refl _) _
        go_wp2_with fail
        go_region
        all_goals go_wp2_with fail
        go_roundw
        case rel =>
          refine ⟨k + 1, by omega, by go_num, HV.out, ?_⟩
          exact (HB4.out.setCell (Nat.le_refl _) _).drew
        case measure => simp [intOf]; omega
      · obtain rfl : k = kk := by omega
        obtain ⟨cx, HCx⟩ : ∃ cx, Hid (c = cx + 1 ∧ evC n (L.take k) ⟨s, d, p⟩ = cx + 1) := by
          rcases HF.out.2 with ⟨-, h⟩ | ⟨h, hc, he⟩
          · omega
          · rw [HS.out] at he
            exact ⟨c - 1, by omega, by rw [he]; omega⟩
        have HFa := hid (jfault_any A ⟨s, d, p⟩ n (L.take k) (cx + 1) W2 ((HE.out.later HB.out).later HB2.out) H7.out HK.out HCx.out.2)
        unfold verV at HFa
        rw [show ev A (cx + 1) = .iface 222 (.pointer (some (A cx))) from rfl] at HFa
        go_wp2_with fail
        refine HFa.out.mono ?_
        rintro e w3 ⟨rfl, hb3⟩
        have HB3 := hid (below_trans (below_trans HB.out HB2.out) hb3)
        clear hb3
        go_wp2_with fail
        go_ret
        refine ⟨_, rfl, .inr ⟨cx, w3.heap.size, HCx.out.1, HB3.out.size, rfl, ?_, ?_⟩, HB3.out.alloc HB3.out.size _⟩
        · rw [cell_of_row _ _ _ _ _ _ (heap_alloc_new w3 _)]; rfl
        · rw [cell_of_row _ _ _ _ _ _ (heap_alloc_new w3 _)]; rfl
    · have HC0 : Hid (c = 0 ∧ k = L.length) := by
        rcases HF.out.2 with ⟨h1, h2⟩ | ⟨h1, h2, h3⟩
        · exact ⟨h1, by omega⟩
        · omega
      have hk2 : ¬ ((k : Int) < (L.length : Int)) := by omega
      go_wp2_with fail
      go_ret
      exact ⟨_, rfl, .inl ⟨HC0.out.1, rfl⟩, HB.out⟩
theorem FltV.nil {w : World} {A : Nat → Addr} {k base : Nat} {v : Value} (h : FltV w A 0 k v base) : v = .nilIface := by
  rcases h with ⟨-, h⟩ | ⟨x, _, h, -⟩
  · exact h
  · cases h
end Go.Proofs.YtdpemmmbkjmplabGreatDoor
namespace Go.Proofs.YtdpemmmbkjmplabGreatDoor
open Go.RowKit

/-- Is a state final? -/
def finS (s : S3) : Bool := decide (s.p = 2 ∨ s.p = 3)
/-- The end that the first k states tell. -/
def endS (L : List S3) : Int := L.foldl (fun x s => if x = 0 ∧ finS s = true then s.p else x) 0
theorem endS_snoc (L : List S3) (s : S3) : endS (L ++ [s]) = if endS L = 0 ∧ finS s = true then s.p else endS L := by unfold endS; rw [List.foldl_append]; rfl
/-- Does a state disagree with those ahead of it? -/
def disB (P : List S3) (s : S3) : Bool := finS s && P.any fun q => finS q && decide (q.p ≠ s.p)
/-- The first state that disagrees; the list's length: none. -/
def AgF (L : List S3) (c k : Nat) : Prop := (∀ j (h : j < L.length), j < k → disB (L.take j) (L[j]'h) = false) ∧ ((c = 0 ∧ k = L.length) ∨ ∃ h : k < L.length, c = 9 ∧ disB (L.take k) (L[k]'h) = true)
theorem agF_ex (L : List S3) : ∃ c k, AgF L c k := by
  have gen : ∀ r k, k + r = L.length → (∀ j (h : j < L.length), j < k → disB (L.take j) (L[j]'h) = false) → ∃ c k, AgF L c k := by
    intro r
    induction r with
    | zero => intro k hk hw; exact ⟨0, k, hw, .inl ⟨rfl, hk⟩⟩
    | succ r ih =>
      intro k hk hw
      have hlt : k < L.length := by omega
      cases hc : disB (L.take k) (L[k]'hlt) with
      | false =>
        refine ih (k + 1) (by omega) fun j hj h => ?_
        rcases Nat.lt_succ_iff_lt_or_eq.1 h with x | rfl
        · exact hw j hj x
        · exact hc
      | true => exact ⟨9, k, hw, .inr ⟨hlt, rfl, hc⟩⟩
  exact gen L.length 0 (by omega) (fun j _ h => absurd h (Nat.not_lt_zero _))
/-- What stands of states that agree. -/
structure AgK (P : List S3) : Prop where
  i0 : endS P = 0 → ∀ q, q ∈ P → finS q = false
  i1 : endS P ≠ 0 → (∃ q, q ∈ P ∧ finS q = true) ∧ ∀ q, q ∈ P → finS q = true → q.p = endS P
theorem AgK.nil : AgK [] := ⟨fun _ _ h => (by cases h), fun h => absurd rfl h⟩
theorem AgK.dis {P : List S3} (h : AgK P) (s : S3) : disB P s = (finS s && (endS P != 0 && s.p != endS P)) := by
  unfold disB
  cases hs : finS s with
  | false => rfl
  | true =>
    rw [Bool.true_and, Bool.true_and, Bool.eq_iff_iff, List.any_eq_true, Bool.and_eq_true, bne_iff_ne, bne_iff_ne]
    constructor
    · rintro ⟨q, hq, hx⟩
      rw [Bool.and_eq_true, decide_eq_true_eq] at hx
      by_cases e : endS P = 0
      · have := h.i0 e q hq; rw [hx.1] at this; cases this
      · have := (h.i1 e).2 q hq hx.1
        exact ⟨e, by omega⟩
    · rintro ⟨h1, h2⟩
      obtain ⟨⟨q, hq, hf⟩, h3⟩ := h.i1 h1
      refine ⟨q, hq, ?_⟩
      rw [Bool.and_eq_true, decide_eq_true_eq]
      exact ⟨hf, by have := h3 q hq hf; omega⟩
theorem AgK.snoc {P : List S3} {s : S3} (h : AgK P) (hd : disB P s = false) : AgK (P ++ [s]) := by
  rw [h.dis] at hd
  have hfs : finS s = true → s.p = 2 ∨ s.p = 3 := fun x => of_decide_eq_true x
  refine ⟨fun e q hq => ?_, fun e => ?_⟩
  · rw [endS_snoc] at e
    split at e
    · rename_i hc; have := hfs hc.2; omega
    · rename_i hc
      rcases List.mem_append.1 hq with x | x
      · exact h.i0 e q x
      · rw [List.mem_singleton] at x
        subst x
        cases hq2 : finS q with
        | false => rfl
        | true => exact absurd ⟨e, hq2⟩ hc
  · rw [endS_snoc] at e ⊢
    split
    · rename_i hc
      refine ⟨⟨s, by simp, hc.2⟩, fun q hq hf => ?_⟩
      rcases List.mem_append.1 hq with x | x
      · have := h.i0 hc.1 q x; rw [hf] at this; cases this
      · rw [List.mem_singleton] at x; rw [x]
    · rename_i hc
      rw [if_neg hc] at e
      obtain ⟨⟨q, hq, hf⟩, h3⟩ := h.i1 e
      refine ⟨⟨q, by simp [hq], hf⟩, fun r hr hrf => ?_⟩
      rcases List.mem_append.1 hr with x | x
      · exact h3 r x hrf
      · rw [List.mem_singleton] at x
        subst x
        rw [hrf, Bool.true_and, Bool.and_eq_false_iff, bne_eq_false_iff_eq, bne_eq_false_iff_eq] at hd
        rcases hd with x | x
        · exact absurd x e
        · exact x
theorem AgF.kept {L : List S3} : ∀ {k : Nat}, k ≤ L.length → (∀ j (h : j < L.length), j < k → disB (L.take j) (L[j]'h) = false) → AgK (L.take k)
  | 0, _, _ => by rw [List.take_zero]; exact AgK.nil
  | k + 1, hk, h => by
    rw [take_snoc L k hk]
    exact (AgF.kept (Nat.le_of_succ_le hk) (fun j hj hlt => h j hj (Nat.lt_succ_of_lt hlt))).snoc (h k hk (Nat.lt_succ_self _))
set_option maxHeartbeats 2000000 in
set_option maxRecDepth 100000 in
theorem jagree_any (A : Nat → Addr) (ad : Option Addr) (cap : Nat) (L : List S3) (c kk : Nat) (w : World) (hE : Held9 w A) (hL : SL w ad L) (hl : L.length ≤ 100000) (hF : AgF L c kk) :
    Calls Tryz.prog 22 #[.slice ad L.length cap] w fun e w' => ∃ v, e = .returned v ∧ FltV w' A c kk v w.heap.size ∧ Below w.heap.size w w' := by
  have HE := hid hE
  have HL := hid hL
  have HF := hid hF
  clear hE hL hF
  go_enter Tryz.func22, Tryz.ntmps22
  go_wp2_with fail
  go_loopw [3, 8] (fun u v wr => ∃ k : Nat, k ≤ kk ∧ u = .int .i64 (endS (L.take k)) ∧ v = .int .i64 (k : Int) ∧ Below w.heap.size w wr) (fun _ v _ => L.length - (intOf v).toNat)
  case atStart => exact ⟨0, Nat.zero_le _, rfl, rfl, Below.refl _ _⟩
  case round =>
    obtain ⟨k, hk, rfl, rfl, hb⟩ := hrel
    have HB := hid hb
    by_cases hlt : k < L.length
    · obtain ⟨b, o, rfl, y0, y1, y2⟩ := HL.out k hlt
      obtain ⟨⟨p, r, a⟩, HS⟩ : ∃ e, Hid (L[k]'hlt = e) := ⟨_, rfl⟩
      rw [HS.out] at y0 y1 y2
      replace y0 := cell_later hb y0
      replace y1 := cell_later hb y1
      replace y2 := cell_later hb y2
      obtain ⟨W2, HW2⟩ : ∃ W2, Hid (wr.alloc (.cells #[.int .i64 p, .int .i64 r, .int .i64 a] 43) = W2) := ⟨_, rfl⟩
      have hW2 := HW2.out
      have HB2 : Hid (Below w.heap.size w W2) := by rw [← HW2.out]; exact HB.out.alloc HB.out.size _
      have HRe : Hid (W2.heap[wr.heap.size]? = some (.cells #[.int .i64 p, .int .i64 r, .int .i64 a] 43 (0, 0))) := by rw [← HW2.out]; exact heap_alloc_new wr _
      obtain ⟨r0, r1, r2⟩ := threeE HRe.out
      have HK : Hid (AgK (L.take k)) := AgF.kept (by omega) (fun j hj hjk => HF.out.1 j hj (by omega))
      have HSn : Hid (L.take (k + 1) = L.take k ++ [⟨p, r, a⟩]) := by show _ = _; rw [take_snoc L k hlt, HS.out]
      have HD := hid (HK.out.dis ⟨p, r, a⟩)
      have HEs := hid (endS_snoc (L.take k) ⟨p, r, a⟩)
      rw [← HSn.out] at HEs
      obtain ⟨eN, HEn⟩ : ∃ x, Hid (endS (L.take (k + 1)) = x) := ⟨_, rfl⟩
      rw [HEn.out] at HEs
      obtain ⟨en, HEo⟩ : ∃ x, Hid (endS (L.take k) = x) := ⟨_, rfl⟩
      rw [HEo.out] at HEs HD ⊢
      have c8 := (HE.out.later HB2.out).cells.2.2.2.2.2.2.2.2
      clear hb
      cases hfin : finS ⟨p, r, a⟩ with
      | false =>
        have HP : Hid (decide (p = 2 ∨ p = 3) = false) := hfin
        have HX : Hid (eN = en) := HEs.out.trans (if_neg fun x => by have y := x.2; rw [hfin] at y; cases y)
        have hkk : k < kk := by
          rcases Nat.lt_or_ge k kk with x | x
          · exact x
          · obtain rfl : k = kk := by omega
            rcases HF.out.2 with ⟨-, h⟩ | ⟨h1, -, h3⟩
            · omega
            · rw [HS.out, HD.out, hfin] at h3; cases h3
        go_wp2_with fail
        refine (jisEnd_is p false _ HP.out).mono ?_
        rintro e w3 ⟨rfl, hx⟩
        subst w3
        go_wp2_with fail
        go_roundw
        case rel => exact ⟨k + 1, by omega, by rw [HEn.out, HX.out], by go_num, HB2.out⟩
        case measure => simp [intOf]; omega
      | true =>
        have HP : Hid (decide (p = 2 ∨ p = 3) = true) := hfin
        by_cases he : en = 0
        · subst he
          have HX : Hid (eN = p) := HEs.out.trans (if_pos ⟨rfl, hfin⟩)
          have hkk : k < kk := by
            rcases Nat.lt_or_ge k kk with x | x
            · exact x
            · obtain rfl : k = kk := by omega
              rcases HF.out.2 with ⟨-, h⟩ | ⟨h1, -, h3⟩
              · omega
              · rw [HS.out, HD.out, hfin] at h3; cases h3
          go_wp2_with fail
          refine (jisEnd_is p true _ HP.out).mono ?_
          rintro e w3 ⟨rfl, hx⟩
          subst w3
          go_wp2_with fail
          go_roundw
          case rel => exact ⟨k + 1, by omega, by rw [HEn.out, HX.out], by go_num, HB2.out⟩
          case measure => simp [intOf]; omega
        · have he2 : (en == 0) = false := beq_eq_false_iff_ne.2 he
          have HX : Hid (eN = en) := HEs.out.trans (if_neg fun x => he x.1)
          by_cases hp : p = en
          · have HP2 : Hid ((p != en) = false) := by show (p != en) = false; rw [hp]; simp
            have hkk : k < kk := by
              rcases Nat.lt_or_ge k kk with x | x
              · exact x
              · obtain rfl : k = kk := by omega
                rcases HF.out.2 with ⟨-, h⟩ | ⟨h1, -, h3⟩
                · omega
                · rw [HS.out, HD.out, hfin, HP2.out, Bool.and_false, Bool.and_false] at h3; cases h3
            subst hp
            clear HP2
            go_wp2_with fail
            refine (jisEnd_is p true _ HP.out).mono ?_
            rintro e w3 ⟨rfl, hx⟩
            subst w3
            go_wp2_with fail
            go_roundw
            case rel => exact ⟨k + 1, by omega, by rw [HEn.out, HX.out], by go_num, HB2.out⟩
            case measure => simp [intOf]; omega
          · have hp2 : (p != en) = true := bne_iff_ne.2 hp
            have HKK : Hid (k = kk ∧ c = 9) := by
              have hd : disB (L.take k) (L[k]'hlt) = true := by rw [HS.out, HD.out, hfin, hp2, bne_iff_ne.2 he]; rfl
              rcases Nat.lt_or_ge k kk with x | x
              · have := HF.out.1 k hlt x; rw [hd] at this; cases this
              · obtain rfl : k = kk := by omega
                rcases HF.out.2 with ⟨-, h⟩ | ⟨h1, h2, h3⟩
                · omega
                · exact ⟨rfl, h2⟩
            go_wp2_with fail
            refine (jisEnd_is p true _ HP.out).mono ?_
            rintro e w3 ⟨rfl, hx⟩
            subst w3
            go_wp2_with fail
            go_ret
            refine ⟨_, rfl, .inr ⟨8, W2.heap.size, HKK.out.2, HB2.out.size, rfl, ?_, ?_⟩, HB2.out.alloc HB2.out.size _⟩
            · rw [cell_of_row _ _ _ _ _ _ (heap_alloc_new W2 _), ← HKK.out.1]; rfl
            · rw [cell_of_row _ _ _ _ _ _ (heap_alloc_new W2 _)]; rfl
    · have HC0 : Hid (c = 0) := by
        rcases HF.out.2 with ⟨h1, -⟩ | ⟨h1, -⟩
        · exact h1
        · omega
      have hk2 : ¬ ((k : Int) < (L.length : Int)) := by omega
      go_wp2_with fail
      go_ret
      exact ⟨_, rfl, .inl ⟨HC0.out, rfl⟩, HB.out⟩
end Go.Proofs.YtdpemmmbkjmplabGreatDoor
namespace Go.Proofs.YtdpemmmbkjmplabGreatDoor
open Go.RowKit


/-- The phase of a deal's first event. -/
def outE (d : Int) : List E3 → Int
  | [] => 0
  | e :: r => if e.d = d then e.p else outE d r
theorem outE_at (d : Int) : ∀ (L : List E3) (k : Nat) (h : k < L.length), (∀ j (hj : j < L.length), j < k → (L[j]'hj).d ≠ d) → (L[k]'h).d = d → outE d L = (L[k]'h).p
  | [], _, h, _, _ => absurd h (Nat.not_lt_zero _)
  | e :: r, 0, _, _, hd => if_pos hd
  | e :: r, k + 1, h, hn, hd => by
    have h0 : e.d ≠ d := hn 0 (Nat.succ_pos _) (Nat.succ_pos _)
    rw [outE, if_neg h0]
    exact outE_at d r k (by simpa using h) (fun j hj hlt => hn (j + 1) (by simpa using hj) (by omega)) hd
theorem outE_none (d : Int) : ∀ (L : List E3), (∀ j (hj : j < L.length), (L[j]'hj).d ≠ d) → outE d L = 0
  | [], _ => rfl
  | e :: r, hn => by
    have h0 : e.d ≠ d := hn 0 (Nat.succ_pos _)
    rw [outE, if_neg h0]
    exact outE_none d r (fun j hj => hn (j + 1) (by simpa using hj))
set_option maxHeartbeats 1000000 in
set_option maxRecDepth 100000 in
theorem joutcome_any (ad : Option Addr) (cap : Nat) (L : List E3) (d : Int) (w : World) (hL : EL w ad L) (hl : L.length ≤ 100000) :
    Calls Tryz.prog 19 #[.slice ad L.length cap, .int .i64 d] w fun e w' => e = .returned (.int .i64 (outE d L)) ∧ Below w.heap.size w w' := by
  have HL := hid hL
  clear hL
  go_enter Tryz.func19, Tryz.ntmps19
  go_wp2_with fail
  go_loopw [9] (fun v wr => ∃ k : Nat, k ≤ L.length ∧ v = .int .i64 (k : Int) ∧ Hid (∀ j (hj : j < L.length), j < k → (L[j]'hj).d ≠ d) ∧ Below w.heap.size w wr) (fun v _ => L.length - (intOf v).toNat)
  case atStart => exact ⟨0, Nat.zero_le _, rfl, fun j _ h => absurd h (Nat.not_lt_zero _), Below.refl _ _⟩
  case round =>
    obtain ⟨k, hk, rfl, HN, hb⟩ := hrel
    have HB := hid hb
    by_cases hlt : k < L.length
    · obtain ⟨b, o, rfl, y0, y1, y2⟩ := HL.out k hlt
      obtain ⟨⟨s, dd, p⟩, HS⟩ : ∃ e, Hid (L[k]'hlt = e) := ⟨_, rfl⟩
      rw [HS.out] at y0 y1 y2
      replace y0 := cell_later hb y0
      replace y1 := cell_later hb y1
      replace y2 := cell_later hb y2
      have HBn : ∀ o, Hid (Below w.heap.size w (wr.alloc o)) := fun o => hid (HB.out.alloc HB.out.size o)
      clear hb
      by_cases hd : dd = d
      · subst hd
        have HO : Hid (outE dd L = p) := by have := outE_at dd L k hlt HN.out (by rw [HS.out]); rw [HS.out] at this; exact this
        go_wp2_with fail
        go_ret
        exact ⟨ret_int HO.out.symm, (HBn _).out⟩
      · have HN2 : Hid (∀ j (hj : j < L.length), j < k + 1 → (L[j]'hj).d ≠ d) := fun j hj h => by
          rcases Nat.lt_succ_iff_lt_or_eq.1 h with x | rfl
          · exact HN.out j hj x
          · rw [HS.out]; exact hd
        go_wp2_with fail
        go_roundw
        case rel => exact ⟨k + 1, by omega, by go_num, HN2.out, (HBn _).out⟩
        case measure => simp [intOf]; omega
    · have HO : Hid (outE d L = 0) := outE_none d L (fun j hj => HN.out j hj (by omega))
      have hk2 : ¬ ((k : Int) < (L.length : Int)) := by omega
      go_wp2_with fail
      go_ret
      exact ⟨ret_int HO.out.symm, HB.out⟩
end Go.Proofs.YtdpemmmbkjmplabGreatDoor
namespace Go.Proofs.YtdpemmmbkjmplabGreatDoor
open Go.RowKit Go.Extern.Stop Go.Stop Go.Extern

theorem partsFa (a : Addr) (w : World) : (ReflectliteValue.parts (.agg #[.pointer (some ⟨10, 103, none⟩), .pointer (some a), .int .u64 406])).run Tryz.prog w = .ok (some (103, a, 406)) w := by kernel_rfl
theorem partsF (a : Addr) (w : World) : (ReflectliteValue.parts (.agg #[.pointer (some ⟨10, 103, none⟩), .pointer (some a), .int .u64 150])).run Tryz.prog w = .ok (some (103, a, 150)) w := by kernel_rfl
theorem directF (w : World) : (Rtype.directlyAssignable 103 103).run Tryz.prog w = .ok true w := by kernel_rfl
/-- (Value).Set: the *api.Fault variable at ta gets what the Value's own variable b holds. -/
theorem callSetF (ta b e : Addr) (old : Value) (W : World) (hb : W.cell? b = some (.pointer (some e))) (ht : W.cell? ta = some old) (hf : W.frozen? ta = false) :
    (callFunc 129 #[.agg #[.pointer (some ⟨10, 103, none⟩), .pointer (some ta), .int .u64 406], .agg #[.pointer (some ⟨10, 103, none⟩), .pointer (some b), .int .u64 150]]).run Tryz.prog W
      = .ok (.value (.tuple #[])) (W.setCell ta (.pointer (some e))) := by
  rw [@run_callFunc_extern Tryz.prog 129 _ ReflectliteValue.set Tryz.func129 (by kernel_rfl) (by kernel_rfl) (by kernel_rfl) (by kernel_rfl)]
  change Result.andThen (Sem.run Tryz.prog (Bind.bind (ReflectliteValue.parts (.agg #[.pointer (some ⟨10, 103, none⟩), .pointer (some ta), .int .u64 406])) fun _ => Bind.bind (ReflectliteValue.parts (.agg #[.pointer (some ⟨10, 103, none⟩), .pointer (some b), .int .u64 150])) _) W) _ = _
  simp only [Sem.run_bind, partsFa, partsF, Result.andThen]
  simp [ReflectliteValue.flagAddr, loadVar, isAgg, underlying, Tryz.underlying103, hb, Result.andThen, directF, storeVar, Value.cells, storeCells, Addr.add]
  rw [run_store Tryz.prog W ta _ _ (by rfl)]
  simp [ht, hf]

/-- errors.As(f, &t), f an api.Fault: yes, and t is set. -/
theorem as_hit (e t : Addr) (old : Value) (B : Nat) (w : World) (hB : B ≤ t.block) (hg : w.cell? ⟨9, 0, none⟩ = some (.iface 191 (.agg #[.pointer (some ⟨10, 28, none⟩)]))) (ht0 : w.cell? t = some old) (hf0 : w.frozen? t = false) :
    Calls Tryz.prog 90 #[.iface 103 (.pointer (some e)), .iface 152 (.pointer (some t))] w fun ev w' => ev = .returned (.bool true) ∧ w'.cell? t = some (.pointer (some e)) ∧ Below B w w' := by
  have c1 := callValueOfT
  have c2 := callTypeT
  have c3 := methodKind
  have c4 := callKindT
  have c5 := callKindF
  have c6 := methodElem
  have c7 := callElemT
  have c8 := methodImplements
  have c9 := callImplementsF
  have d1 := methodAssignableTo
  have d2 := callAssignableF
  have d3 := callTypeOfF
  have d4 := callValueOfF
  have n8 := callIsNilT ⟨w.heap.size, 0, none⟩ t ((w.alloc (.cells #[.pointer (some t)] 152)).alloc (.cells #[.pointer (some ⟨10, 152, none⟩), .pointer (some ⟨w.heap.size, 0, none⟩), .int .u64 150] 169)) (by simp)
  have hlt : 9 < w.heap.size := cell_lt hg
  have htl : t.block < w.heap.size := cell_lt ht0
  have hg2 : ((w.alloc (.cells #[.pointer (some t)] 152)).alloc (.cells #[.pointer (some ⟨10, 152, none⟩), .pointer (some ⟨w.heap.size, 0, none⟩), .int .u64 150] 169)).cell? ⟨9, 0, none⟩ = some (.iface 191 (.agg #[.pointer (some ⟨10, 28, none⟩)])) := cell_alloc _ (cell_alloc _ hg)
  have el := callElemV ⟨w.heap.size, 0, none⟩ t (((w.alloc (.cells #[.pointer (some t)] 152)).alloc (.cells #[.pointer (some ⟨10, 152, none⟩), .pointer (some ⟨w.heap.size, 0, none⟩), .int .u64 150] 169)).alloc (.cells #[.pointer (some ⟨10, 152, none⟩), .pointer (some ⟨w.heap.size, 0, none⟩), .int .u64 150] 169)) (cell_alloc _ (by simp))
  have st := callSetF t ⟨w.heap.size + 1 + 1 + 1, 0, none⟩ e old ((((w.alloc (.cells #[.pointer (some t)] 152)).alloc (.cells #[.pointer (some ⟨10, 152, none⟩), .pointer (some ⟨w.heap.size, 0, none⟩), .int .u64 150] 169)).alloc (.cells #[.pointer (some ⟨10, 152, none⟩), .pointer (some ⟨w.heap.size, 0, none⟩), .int .u64 150] 169)).alloc (.cells #[.pointer (some e)] 103))
    (by rw [World.cell?_alloc_at _ _ _ _ (by simp)]; rfl)
    (cell_alloc _ (cell_alloc _ (cell_alloc _ (cell_alloc _ ht0))))
    (by rw [World.frozen?_alloc_old _ _ t (by simp; omega), World.frozen?_alloc_old _ _ t (by simp; omega), World.frozen?_alloc_old _ _ t (by simp; omega), World.frozen?_alloc_old _ _ t (Nat.ne_of_lt htl)]; exact hf0)
  go_enter Tryz.func90, Tryz.ntmps90
  go_wp2
  refine wp_loop_rounds 1 ?_
  rw [rounds_succ]
  go_wp2
  go_ret
  have hBs : B ≤ w.heap.size := Nat.le_trans hB (Nat.le_of_lt htl)
  refine ⟨rfl, World.cell?_setCell_same _ _ _ (cell_alloc _ (cell_alloc _ (cell_alloc _ (cell_alloc _ ht0)))), ?_⟩
  refine Below.setCell ?_ hB _
  repeat (first | exact Below.refl _ _ | refine Below.drew ?_ | refine Below.alloc ?_ (by first | omega | (simp; omega)) _)
end Go.Proofs.YtdpemmmbkjmplabGreatDoor
namespace Go.Proofs.YtdpemmmbkjmplabGreatDoor
open Go.RowKit

set_option maxRecDepth 100000 in
set_option maxHeartbeats 2000000 in
theorem code_f (A : Nat → Addr) (pb po : Nat) (at0 : Int) (x : Addr) (c : Nat) (r : Int) (w : World) (hE : Held9 w A) (hf1 : w.cell? ⟨pb, po, none⟩ = some (.int .i64 at0)) (hf2 : w.cell? ⟨pb, po + 1, none⟩ = some (.iface 222 (.pointer (some x)))) (hrow : ∃ cs t, w.heap[x.block]? = some (.cells cs t (0, 0)))
    (hc : c ≤ 9) (hlo : ∀ k, k < c → x ≠ A k) (hat : c < 9 → x = A c) (hr1 : c < 9 → r = c + 1) (hr2 : c = 9 → r = -1) :
    Calls Tryz.prog 74 #[.iface 103 (.pointer (some ⟨pb, po, none⟩))] w fun e w' => e = .returned (.tuple #[.int .i64 r, .int .i64 at0]) ∧ Below w.heap.size w w' := by
  have H := hid hE
  have F1 := hid hf1
  have F2 := hid hf2
  have HR := hid hrow
  have HLO := hid hlo
  have HAT := hid hat
  have HR1 := hid hr1
  have HR2 := hid hr2
  clear hE hf1 hf2 hrow hlo hat hr1 hr2
  have hb0 : Below w.heap.size w (w.alloc (.cells #[.pointer none] 103)) := (Below.refl _ _).alloc (Nat.le_refl _) _
  go_enter Tryz.func74, Tryz.ntmps74
  go_wp2_with (go_at_call 90; refine (as_hit ⟨pb, po, none⟩ _ (.pointer none) w.heap.size _ (Nat.le_refl _) (by exact (H.out.later hb0).hnd) (by simp) (by simp)).mono ?_; rintro e w1 ⟨rfl, ht1, hb1⟩; obtain ⟨g0, g1, g2, g3, g4, g5, g6, g7, g8⟩ := (H.out.later (hb0.trans hb1)).cells; have f1 := cell_later (hb0.trans hb1) F1.out)
  have hB : Below w.heap.size w (w1.alloc (.cells #[.iface 222 (.pointer (some (A 0))), .iface 222 (.pointer (some (A 1))), .iface 222 (.pointer (some (A 2))), .iface 222 (.pointer (some (A 3))), .iface 222 (.pointer (some (A 4))), .iface 222 (.pointer (some (A 5))), .iface 222 (.pointer (some (A 6))), .iface 222 (.pointer (some (A 7))), .iface 222 (.pointer (some (A 8)))] 28)) := (hb0.trans hb1).alloc (Nat.le_trans hb0.size hb1.size) _
  have hcell : ∀ k, k < 9 → (w1.alloc (.cells #[.iface 222 (.pointer (some (A 0))), .iface 222 (.pointer (some (A 1))), .iface 222 (.pointer (some (A 2))), .iface 222 (.pointer (some (A 3))), .iface 222 (.pointer (some (A 4))), .iface 222 (.pointer (some (A 5))), .iface 222 (.pointer (some (A 6))), .iface 222 (.pointer (some (A 7))), .iface 222 (.pointer (some (A 8)))] 28)).cell? ⟨w1.heap.size, k, none⟩ = some (.iface 222 (.pointer (some (A k)))) := fun k hk => errArr_at A k hk w1 28
  have HC := hid hcell
  have F2' := hid (cell_later hB F2.out)
  clear g0 g1 g2 g3 g4 g5 g6 g7 g8 hcell f1 ht1
  go_loop [3, 27] (fun a i => ∃ k : Nat, k ≤ c ∧ i = .int .i64 k ∧ a = .int .i64 at0) (fun _ i => 9 - (intOf i).toNat)
  case atStart => exact ⟨0, Nat.zero_le _, rfl, rfl⟩
  case round =>
    obtain ⟨k, hk, rfl, rfl⟩ := hrel
    by_cases hlt : k < 9
    · have hck := HC.out k hlt
      by_cases hkc : k = c
      · subst hkc
        have hx := HAT.out hlt
        subst hx
        have hR := HR1.out hlt
        subst hR
        go_wp2_with (go_at_call 91; refine (is_f_same pb po _ _ F2'.out).mono ?_; rintro e w' ⟨rfl, rfl⟩)
        go_ret2
        exact ⟨rfl, hB⟩
      · obtain ⟨cs, t, hr⟩ := HR.out
        obtain ⟨cs', t', hr'⟩ := H.out.row k hlt
        have hr2 := hid (row_later hB hr)
        have hr2' := hid (row_later hB hr')
        clear hr hr'
        go_wp2_with (go_at_call 91; refine (is_f_other pb po _ _ cs cs' t t' _ F2'.out (HLO.out k (by omega)) hr2.out hr2'.out).mono ?_; rintro e w' ⟨rfl, rfl⟩)
        go_round
        case rel => exact ⟨k + 1, by omega, by go_num, rfl⟩
        case measure => simp [intOf]; omega
    · have hc9 : c = 9 := by omega
      have hR := HR2.out hc9
      subst hR
      go_wp2
      go_ret2
      exact ⟨rfl, hB⟩

/-- Code of a Fault round the error number c + 1. -/
theorem codeF_at (A : Nat → Addr) (pb po : Nat) (at0 : Int) (c : Nat) (w : World) (hE : Held9 w A) (hc : c < 9) (hf1 : w.cell? ⟨pb, po, none⟩ = some (.int .i64 at0)) (hf2 : w.cell? ⟨pb, po + 1, none⟩ = some (.iface 222 (.pointer (some (A c))))) :
    Calls Tryz.prog 74 #[.iface 103 (.pointer (some ⟨pb, po, none⟩))] w fun e w' => e = .returned (.tuple #[.int .i64 ((c : Int) + 1), .int .i64 at0]) ∧ Below w.heap.size w w' :=
  code_f A pb po at0 (A c) c _ w hE hf1 hf2 (hE.row c hc) (by omega) (fun k hk => hE.ne c k hc (by omega) (by omega)) (fun _ => rfl) (fun _ => rfl) (fun h => by omega)
end Go.Proofs.YtdpemmmbkjmplabGreatDoor
namespace Go.Proofs.YtdpemmmbkjmplabGreatDoor
open Go.RowKit

theorem sizeFt : (Tryz.prog.info? 55).map (·.size) = some 2 := by kernel_rfl
def fltV (c a : Int) : Value := .agg #[.int .i64 c, .int .i64 a]
set_option maxRecDepth 100000 in
theorem rfine_any (w : World) : Calls Tryz.prog 61 #[] w fun e w' => e = .returned (fltV 0 (-1)) ∧ Below w.heap.size w w' := by
  go_enter Tryz.func61, Tryz.ntmps61
  go_wp2_with fail
  refine bodyPost_ret (results_cell_row rfl _ _ w.heap.size 55 #[.int .i64 0, .int .i64 (-1)] (0, 0) _ rfl (heap_alloc_new w _) Tryz.underlying55 rfl sizeFt) rfl ?_
  exact ⟨rfl, (Below.refl _ _).alloc (Nat.le_refl _) _⟩
set_option maxRecDepth 100000 in
theorem rbare_any (c : Int) (w : World) : Calls Tryz.prog 60 #[.int .i64 c] w fun e w' => e = .returned (fltV c (-1)) ∧ Below w.heap.size w w' := by
  go_enter Tryz.func60, Tryz.ntmps60
  go_wp2_with fail
  refine bodyPost_ret (results_cell_row rfl _ _ w.heap.size 55 #[.int .i64 c, .int .i64 (-1)] (0, 0) _ rfl (heap_alloc_new w _) Tryz.underlying55 rfl sizeFt) rfl ?_
  exact ⟨rfl, (Below.refl _ _).alloc (Nat.le_refl _) _⟩
theorem rfin_is (p : Int) (b : Bool) (w : World) (hb : decide (p = 2 ∨ p = 3) = b) : Calls Tryz.prog 33 #[.int .i64 p] w fun e w' => e = .returned (.bool b) ∧ w' = w := by
  subst hb
  by_cases h2 : p = 2
  · subst h2
    go_enter Tryz.func33, Tryz.ntmps33
    go_wp2_with fail
    go_ret
    exact ⟨rfl, rfl⟩
  · by_cases h3 : p = 3
    · subst h3
      go_enter Tryz.func33, Tryz.ntmps33
      go_wp2_with fail
      go_ret
      exact ⟨rfl, rfl⟩
    · rw [decide_eq_false (show ¬ (p = 2 ∨ p = 3) by omega)]
      have b2 : (p == 2) = false := beq_eq_false_iff_ne.2 h2
      have b3 : (p == 3) = false := beq_eq_false_iff_ne.2 h3
      go_enter Tryz.func33, Tryz.ntmps33
      go_wp2_with fail
      go_ret
      exact ⟨rfl, rfl⟩
theorem row2_set {w : World} {b : Nat} {x y : Value} {t : TypeId} (h : w.heap[b]? = some (.cells #[x, y] t (0, 0))) (u v : Value) : ((w.setCell ⟨b, 0, none⟩ u).setCell ⟨b, 1, none⟩ v).heap[b]? = some (.cells #[u, v] t (0, 0)) := by
  have e1 := heap_setCell_same w b 0 _ _ u h
  rw [heap_setCell_same _ b 1 _ _ v e1]
  rfl
theorem two_cells {w : World} {b : Nat} {a c : Value} {t : TypeId} {f : Nat × Nat} (h : w.heap[b]? = some (.cells #[a, c] t f)) : w.cell? ⟨b, 0, none⟩ = some a ∧ w.cell? ⟨b, 1, none⟩ = some c :=
  ⟨by rw [cell_of_row _ _ _ _ _ _ h]; rfl, by rw [cell_of_row _ _ _ _ _ _ h]; rfl⟩
set_option maxRecDepth 100000 in
theorem revf_no (v : Value) (n : Int) (w : World) (hn : ¬ (1 ≤ n ∧ n ≤ 7)) : Calls Tryz.prog 25 #[v, .int .i64 n] w fun e w' => e = .returned (fltV 2 (-1)) ∧ Below w.heap.size w w' := by
  have HR0 := hid (heap_alloc_new w (.cells #[.int .i64 0, .int .i64 0] 55))
  obtain ⟨W, HW⟩ : ∃ W, Hid (w.alloc (.cells #[.int .i64 0, .int .i64 0] 55) = W) := ⟨_, rfl⟩
  rw [HW.out] at HR0
  have hW := HW.out
  have HB0 : Hid (Below w.heap.size w W) := by rw [← HW.out]; exact (Below.refl _ _).alloc (Nat.le_refl _) _
  have HBa := hid (rbare_any 2 W)
  have fin : ∀ w1, Below W.heap.size W w1 → Below w.heap.size w ((w1.setCell ⟨w.heap.size, 0, none⟩ (.int .i64 2)).setCell ⟨w.heap.size, 1, none⟩ (.int .i64 (-1))) := fun w1 hb => ((below_trans HB0.out hb).setCell (Nat.le_refl _) _).setCell (Nat.le_refl _) _
  have HFin := hid fin
  clear fin
  unfold fltV at HBa ⊢
  by_cases h1 : n < 1
  · go_enter Tryz.func25, Tryz.ntmps25
    go_wp2_with fail
    refine HBa.out.mono ?_
    rintro e w1 ⟨rfl, hb⟩
    have HR1 := hid (row_later hb HR0.out)
    have HB1 := hid hb
    obtain ⟨c0, c1⟩ := two_cells HR1.out
    have f0 := frozen_of_row _ _ 0 _ _ HR1.out
    have f1 := frozen_of_row _ _ 1 _ _ HR1.out
    clear hb
    go_wp2_with fail
    refine bodyPost_ret (results_cell_row rfl _ _ w.heap.size 55 _ (0, 0) _ rfl (row2_set HR1.out _ _) Tryz.underlying55 rfl sizeFt) rfl ?_
    exact ⟨rfl, HFin.out _ HB1.out⟩
  · have h2 : 7 < n := by omega
    go_enter Tryz.func25, Tryz.ntmps25
    go_wp2_with fail
    refine HBa.out.mono ?_
    rintro e w1 ⟨rfl, hb⟩
    have HR1 := hid (row_later hb HR0.out)
    have HB1 := hid hb
    obtain ⟨c0, c1⟩ := two_cells HR1.out
    have f0 := frozen_of_row _ _ 0 _ _ HR1.out
    have f1 := frozen_of_row _ _ 1 _ _ HR1.out
    clear hb
    go_wp2_with fail
    refine bodyPost_ret (results_cell_row rfl _ _ w.heap.size 55 _ (0, 0) _ rfl (row2_set HR1.out _ _) Tryz.underlying55 rfl sizeFt) rfl ?_
    exact ⟨rfl, HFin.out _ HB1.out⟩
/-- The document's loop over those ahead: nobody has another end. -/
theorem any_take_false {L : List E3} {k : Nat} {f : E3 → Bool} (h : ∀ j (hj : j < L.length), j < k → f (L[j]'hj) = false) (hk : k ≤ L.length) : (L.take k).any f = false := by
  rw [List.any_eq_false]
  intro x hx
  obtain ⟨j, hj, rfl⟩ := List.getElem_of_mem hx
  rw [List.length_take] at hj
  rw [List.getElem_take, h j (by omega) (by omega)]
  decide
theorem any_take_true {L : List E3} {k j : Nat} {f : E3 → Bool} (hj : j < L.length) (hk : j < k) (h : f (L[j]'hj) = true) : (L.take k).any f = true := by
  rw [List.any_eq_true]
  refine ⟨L[j]'hj, ?_, h⟩
  exact List.mem_iff_getElem.2 ⟨j, by rw [List.length_take]; omega, by rw [List.getElem_take]⟩
theorem evC_9 {n : Int} {L : List E3} {k j : Nat} {s d p : Int} (hok : bdB n ⟨s, d, p⟩ = true) (hj : j < L.length) (hjk : j < k) (h : decide ((L[j]'hj).d = d ∧ (L[j]'hj).p ≠ p) = true) : evC n (L.take k) ⟨s, d, p⟩ = 9 := by
  have h2 : spB (L.take k) ⟨s, d, p⟩ = true := any_take_true hj hjk h
  unfold evC
  rw [if_neg (by rw [hok]; decide), if_pos h2]
theorem evC_8 {n : Int} {L : List E3} {k j : Nat} {s d p : Int} (hok : bdB n ⟨s, d, p⟩ = true) (hk : k ≤ L.length) (hn : ∀ q (hq : q < L.length), q < k → decide ((L[q]'hq).d = d ∧ (L[q]'hq).p ≠ p) = false) (hj : j < L.length) (hjk : j < k) (h : decide ((L[j]'hj).d = d ∧ (L[j]'hj).s = s) = true) : evC n (L.take k) ⟨s, d, p⟩ = 8 := by
  have h1 : spB (L.take k) ⟨s, d, p⟩ = false := any_take_false hn hk
  have h2 : heB (L.take k) ⟨s, d, p⟩ = true := any_take_true hj hjk h
  unfold evC
  rw [if_neg (by rw [hok]; decide), if_neg (by rw [h1]; decide), if_pos h2]
theorem evC_0 {n : Int} {L : List E3} {k : Nat} {s d p : Int} (hok : bdB n ⟨s, d, p⟩ = true) (hk : k ≤ L.length) (hn : ∀ q (hq : q < L.length), q < k → decide ((L[q]'hq).d = d ∧ (L[q]'hq).p ≠ p) = false) (hm : ∀ q (hq : q < L.length), q < k → decide ((L[q]'hq).d = d ∧ (L[q]'hq).s = s) = false) : evC n (L.take k) ⟨s, d, p⟩ = 0 := by
  have h1 : spB (L.take k) ⟨s, d, p⟩ = false := any_take_false hn hk
  have h2 : heB (L.take k) ⟨s, d, p⟩ = false := any_take_false hm hk
  unfold evC
  rw [if_neg (by rw [hok]; decide), if_neg (by rw [h1]; decide), if_neg (by rw [h2]; decide)]
set_option maxHeartbeats 4000000 in
set_option maxRecDepth 100000 in
theorem revf_ok (ad : Option Addr) (cap : Nat) (L : List E3) (n : Int) (c kk : Nat) (r1 r2 : Int) (w : World) (h1 : 1 ≤ n) (h7 : n ≤ 7) (hL : EL w ad L) (hl : L.length ≤ 100000) (hF : EvF n L c kk) (hr1 : r1 = c) (hr2 : r2 = if c = 0 then -1 else (kk : Int)) :
    Calls Tryz.prog 25 #[.slice ad L.length cap, .int .i64 n] w fun e w' => e = .returned (fltV r1 r2) ∧ Below w.heap.size w w' := by
  have HR0 := hid (heap_alloc_new w (.cells #[.int .i64 0, .int .i64 0] 55))
  obtain ⟨W, HW⟩ : ∃ W, Hid (w.alloc (.cells #[.int .i64 0, .int .i64 0] 55) = W) := ⟨_, rfl⟩
  rw [HW.out] at HR0
  have hW := HW.out
  have HB0 : Hid (Below w.heap.size w W) := by rw [← HW.out]; exact (Below.refl _ _).alloc (Nat.le_refl _) _
  have HL := hid (hL.later HB0.out)
  have HF := hid hF
  have HR := hid (And.intro hr1 hr2)
  have H7 := hid h7
  -- what a store into the result comes to
  have HSt : Hid (∀ wr, Below W.heap.size W wr → wr.cell? ⟨w.heap.size, 0, none⟩ = some (.int .i64 0) ∧ wr.cell? ⟨w.heap.size, 1, none⟩ = some (.int .i64 0) ∧ wr.frozen? ⟨w.heap.size, 0, none⟩ = false ∧ wr.frozen? ⟨w.heap.size, 1, none⟩ = false ∧
      ∀ x y : Int, ((wr.setCell ⟨w.heap.size, 0, none⟩ (.int .i64 x)).setCell ⟨w.heap.size, 1, none⟩ (.int .i64 y)).heap[w.heap.size]? = some (.cells #[.int .i64 x, .int .i64 y] 55 (0, 0)) ∧ Below w.heap.size w ((wr.setCell ⟨w.heap.size, 0, none⟩ (.int .i64 x)).setCell ⟨w.heap.size, 1, none⟩ (.int .i64 y))) := fun wr hb => by
    have hr := row_later hb HR0.out
    exact ⟨(two_cells hr).1, (two_cells hr).2, frozen_of_row _ _ 0 _ _ hr, frozen_of_row _ _ 1 _ _ hr, fun x y => ⟨row2_set hr _ _, ((below_trans HB0.out hb).setCell (Nat.le_refl _) _).setCell (Nat.le_refl _) _⟩⟩
  unfold fltV
  clear hL hF hr1 hr2
  go_enter Tryz.func25, Tryz.ntmps25
  go_wp2_with fail
  go_loopw [5] (fun v wr => ∃ k : Nat, k ≤ kk ∧ v = .int .i64 (k : Int) ∧ Below W.heap.size W wr) (fun v _ => L.length - (intOf v).toNat)
  case atStart => exact ⟨0, Nat.zero_le _, rfl, Below.refl _ _⟩
  case round =>
    obtain ⟨k, hk, rfl, hb⟩ := hrel
    have HB := hid hb
    by_cases hlt : k < L.length
    · obtain ⟨b, o, rfl, y0, y1, y2⟩ := HL.out k hlt
      obtain ⟨⟨s, d, p⟩, HS⟩ : ∃ e, Hid (L[k]'hlt = e) := ⟨_, rfl⟩
      rw [HS.out] at y0 y1 y2
      replace y0 := cell_later hb y0
      replace y1 := cell_later hb y1
      replace y2 := cell_later hb y2
      obtain ⟨W2, HW2⟩ : ∃ W2, Hid (wr.alloc (.cells #[.int .i64 s, .int .i64 d, .int .i64 p] 112) = W2) := ⟨_, rfl⟩
      have hW2 := HW2.out
      have HB2 : Hid (Below W.heap.size W W2) := by rw [← HW2.out]; exact HB.out.alloc HB.out.size _
      have HRe : Hid (W2.heap[wr.heap.size]? = some (.cells #[.int .i64 s, .int .i64 d, .int .i64 p] 112 (0, 0))) := by rw [← HW2.out]; exact heap_alloc_new wr _
      obtain ⟨z0, z1, z2⟩ := threeE HRe.out
      obtain ⟨x3, H3⟩ : ∃ x, Hid (decide (p = 2 ∨ p = 3) = x) := ⟨_, rfl⟩
      obtain ⟨g0, g1, g2, g3, g4⟩ := HSt.out W2 HB2.out
      have HBd : Hid (bdB n ⟨s, d, p⟩ = false → r1 = 2 ∧ r2 = (k : Int)) := fun hbd => by
        have hc : evC n (L.take k) ⟨s, d, p⟩ = 2 := by unfold evC; rw [if_pos hbd]
        rcases Nat.lt_or_ge k kk with x | x
        · have := HF.out.1 k hlt x; rw [HS.out, hc] at this; cases this
        · obtain rfl : k = kk := by omega
          rcases HF.out.2 with ⟨-, h⟩ | ⟨h, h2, h3⟩
          · omega
          · rw [HS.out, hc] at h3
            subst h3
            exact ⟨HR.out.1, HR.out.2⟩
      clear hb
      by_cases k1 : s < 0
      · have HBad := hid (HBd.out (decide_eq_false (by simp only; omega)))
        go_wp2_with fail
        refine (rfin_is p x3 _ H3.out).mono ?_
        rintro e w3 ⟨rfl, hx⟩
        subst w3
        go_wp2_with fail
        refine bodyPost_ret (results_cell_row rfl _ _ w.heap.size 55 _ (0, 0) _ rfl (g4 _ _).1 Tryz.underlying55 rfl sizeFt) rfl ?_
        exact ⟨by rw [HBad.out.1, HBad.out.2], (g4 _ _).2⟩
      · have k1' : 0 ≤ s := by omega
        by_cases k2 : n ≤ s
        · have HBad := hid (HBd.out (decide_eq_false (by simp only; omega)))
          go_wp2_with fail
          refine (rfin_is p x3 _ H3.out).mono ?_
          rintro e w3 ⟨rfl, hx⟩
          subst w3
          go_wp2_with fail
          refine bodyPost_ret (results_cell_row rfl _ _ w.heap.size 55 _ (0, 0) _ rfl (g4 _ _).1 Tryz.underlying55 rfl sizeFt) rfl ?_
          exact ⟨by rw [HBad.out.1, HBad.out.2], (g4 _ _).2⟩
        · have k2' : s < n := by omega
          by_cases k3 : d < 0
          · have HBad := hid (HBd.out (decide_eq_false (by simp only; omega)))
            go_wp2_with fail
            refine (rfin_is p x3 _ H3.out).mono ?_
            rintro e w3 ⟨rfl, hx⟩
            subst w3
            go_wp2_with fail
            refine bodyPost_ret (results_cell_row rfl _ _ w.heap.size 55 _ (0, 0) _ rfl (g4 _ _).1 Tryz.underlying55 rfl sizeFt) rfl ?_
            exact ⟨by rw [HBad.out.1, HBad.out.2], (g4 _ _).2⟩
          · have k3' : 0 ≤ d := by omega
            by_cases k4 : 6 ≤ d
            · have HBad := hid (HBd.out (decide_eq_false (by simp only; omega)))
              go_wp2_with fail
              refine (rfin_is p x3 _ H3.out).mono ?_
              rintro e w3 ⟨rfl, hx⟩
              subst w3
              go_wp2_with fail
              refine bodyPost_ret (results_cell_row rfl _ _ w.heap.size 55 _ (0, 0) _ rfl (g4 _ _).1 Tryz.underlying55 rfl sizeFt) rfl ?_
              exact ⟨by rw [HBad.out.1, HBad.out.2], (g4 _ _).2⟩
            · have k4' : d < 6 := by omega
              cases x3 with
              | false =>
                have HBad := hid (HBd.out (decide_eq_false (by have := of_decide_eq_false H3.out; simp only; omega)))
                go_wp2_with fail
                refine (rfin_is p false _ H3.out).mono ?_
                rintro e w3 ⟨rfl, hx⟩
                subst w3
                go_wp2_with fail
                refine bodyPost_ret (results_cell_row rfl _ _ w.heap.size 55 _ (0, 0) _ rfl (g4 _ _).1 Tryz.underlying55 rfl sizeFt) rfl ?_
                exact ⟨by rw [HBad.out.1, HBad.out.2], (g4 _ _).2⟩
              | true =>
                have HOk : Hid (bdB n ⟨s, d, p⟩ = true) := decide_eq_true ⟨⟨k1', k2'⟩, ⟨k3', k4'⟩, of_decide_eq_true H3.out⟩
                have HCC : Hid (∀ cc, evC n (L.take k) ⟨s, d, p⟩ = cc → cc ≠ 0 → r1 = (cc : Int) ∧ r2 = (k : Int)) := fun cc hc h0 => by
                  rcases Nat.lt_or_ge k kk with x | x
                  · have := HF.out.1 k hlt x; rw [HS.out, hc] at this; exact absurd this h0
                  · obtain rfl : k = kk := by omega
                    rcases HF.out.2 with ⟨-, h⟩ | ⟨h, h2, h3⟩
                    · omega
                    · rw [HS.out, hc] at h3
                      subst h3
                      refine ⟨HR.out.1, ?_⟩
                      rw [HR.out.2, if_neg h0]
                have HX8 : Hid (∀ j (hj : j < L.length), j < k → decide ((L[j]'hj).d = d ∧ (L[j]'hj).p ≠ p) = true → r1 = 9 ∧ r2 = (k : Int)) := fun j hj hjk h => HCC.out 9 (evC_9 HOk.out hj hjk h) (by decide)
                have HX9 : Hid ((∀ q (hq : q < L.length), q < k → decide ((L[q]'hq).d = d ∧ (L[q]'hq).p ≠ p) = false) → ∀ j (hj : j < L.length), j < k → decide ((L[j]'hj).d = d ∧ (L[j]'hj).s = s) = true → r1 = 8 ∧ r2 = (k : Int)) := fun hn j hj hjk h => HCC.out 8 (evC_8 HOk.out (by omega) hn hj hjk h) (by decide)
                have HXl : Hid ((∀ q (hq : q < L.length), q < k → decide ((L[q]'hq).d = d ∧ (L[q]'hq).p ≠ p) = false) → (∀ q (hq : q < L.length), q < k → decide ((L[q]'hq).d = d ∧ (L[q]'hq).s = s) = false) → k < kk) := fun hn hm => by
                  have hc : evC n (L.take k) ⟨s, d, p⟩ = 0 := evC_0 HOk.out (by omega) hn hm
                  rcases Nat.lt_or_ge k kk with x | x
                  · exact x
                  · obtain rfl : k = kk := by omega
                    rcases HF.out.2 with ⟨-, h⟩ | ⟨h, h2, h3⟩
                    · omega
                    · rw [HS.out, hc] at h3; exact absurd h3.symm h2
                go_wp2_with fail
                refine (rfin_is p true _ H3.out).mono ?_
                rintro e w3 ⟨rfl, hx⟩
                subst w3
                go_wp2_with fail
                clear g0 g1 g2 g3 g4
                go_loopw [8] (fun v wr2 => ∃ j : Nat, j ≤ k ∧ v = .int .i64 (j : Int) ∧ Hid (∀ q (hq : q < L.length), q < j → decide ((L[q]'hq).d = d ∧ (L[q]'hq).p ≠ p) = false) ∧ Below W2.heap.size W2 wr2) (fun v _ => k - (intOf v).toNat)
                case atStart => exact ⟨0, Nat.zero_le _, rfl, fun q _ h => absurd h (Nat.not_lt_zero _), Below.refl _ _⟩
                case round =>
                  obtain ⟨j, hj, rfl, HJ, hbj⟩ := hrel
                  have HBj := hid hbj
                  by_cases hjk : j < k
                  · have hjl : j < L.length := by omega
                    obtain ⟨b', o', eb, x0, x1, x2⟩ := HL.out j hjl
                    obtain ⟨rfl, rfl⟩ : b = b' ∧ o = o' := by cases eb; exact ⟨rfl, rfl⟩
                    obtain ⟨⟨s', d', p'⟩, HSj⟩ : ∃ e, Hid (L[j]'hjl = e) := ⟨_, rfl⟩
                    rw [HSj.out] at x0 x1 x2
                    have HBw := hid (below_trans HB2.out hbj)
                    replace x0 := cell_later HBw.out x0
                    replace x1 := cell_later HBw.out x1
                    replace x2 := cell_later HBw.out x2
                    obtain ⟨z0, z1, z2⟩ := threeE (row_later hbj HRe.out)
                    obtain ⟨q0, q1, q2, q3, q4⟩ := HSt.out _ (below_drewN HBw.out 0)
                    clear hbj eb q0 q1 q2 q3 q4
                    have hStep : ∀ t : Bool, decide (d' = d ∧ p' ≠ p) = t → t = false → Hid (∀ q (hq : q < L.length), q < j + 1 → decide ((L[q]'hq).d = d ∧ (L[q]'hq).p ≠ p) = false) := fun t ht hf q hq h => by
                      rcases Nat.lt_succ_iff_lt_or_eq.1 h with x | rfl
                      · exact HJ.out q hq x
                      · rw [HSj.out]; exact ht.trans hf
                    by_cases e1 : d' = d
                    · by_cases e2 : p' ≠ p
                      · have HBad : Hid (r1 = 9 ∧ r2 = (k : Int)) := HX8.out j hjl hjk (by rw [HSj.out]; exact decide_eq_true ⟨e1, e2⟩)
                        clear hStep
                        subst e1
                        have e4 : (p' != p) = true := bne_iff_ne.2 e2
                        go_wp2_with fail
                        go_quiet (fail)
                        obtain ⟨g0, g1, g2, g3, g4⟩ := HSt.out _ (below_drewN HBw.out nq)
                        go_wp2_with fail
                        refine bodyPost_ret (results_cell_row rfl _ _ w.heap.size 55 _ (0, 0) _ rfl (g4 _ _).1 Tryz.underlying55 rfl sizeFt) rfl ?_
                        exact ⟨by rw [HBad.out.1, HBad.out.2], (g4 _ _).2⟩
                      · have HJ2 := hStep _ rfl (decide_eq_false fun h => e2 h.2)
                        clear hStep
                        subst e1
                        obtain rfl : p' = p := Classical.not_not.1 e2
                        clear e2
                        go_wp2_with fail
                        go_quiet (fail)
                        go_wp2_with fail
                        go_roundw
                        case rel => exact ⟨j + 1, by omega, by go_num, HJ2.out, below_drewN HBj.out _⟩
                        case measure => simp [intOf]; omega
                    · have HJ2 := hStep _ rfl (decide_eq_false fun h => e1 h.1)
                      clear hStep
                      have e3 : (d' == d) = false := beq_eq_false_iff_ne.2 e1
                      go_wp2_with fail
                      go_quiet (fail)
                      go_wp2_with fail
                      go_roundw
                      case rel => exact ⟨j + 1, by omega, by go_num, HJ2.out, below_drewN HBj.out _⟩
                      case measure => simp [intOf]; omega
                  · have hjk2 : ¬ ((j : Int) < (k : Int)) := by omega
                    have HN8 : Hid (∀ q (hq : q < L.length), q < k → decide ((L[q]'hq).d = d ∧ (L[q]'hq).p ≠ p) = false) := fun q hq h => HJ.out q hq (by omega)
                    replace HX9 := hid (HX9.out HN8.out)
                    have HBp := HBj
                    clear hbj
                    go_wp2_with fail
                    go_loopw [9] (fun v wr2 => ∃ j : Nat, j ≤ k ∧ v = .int .i64 (j : Int) ∧ Hid (∀ q (hq : q < L.length), q < j → decide ((L[q]'hq).d = d ∧ (L[q]'hq).s = s) = false) ∧ Below W2.heap.size W2 wr2) (fun v _ => k - (intOf v).toNat)
                    case atStart => exact ⟨0, Nat.zero_le _, rfl, fun q _ h => absurd h (Nat.not_lt_zero _), HBp.out⟩
                    case round =>
                      obtain ⟨j, hj, rfl, HJ, hbj⟩ := hrel
                      have HBj := hid hbj
                      by_cases hjk : j < k
                      · have hjl : j < L.length := by omega
                        obtain ⟨b', o', eb, x0, x1, x2⟩ := HL.out j hjl
                        obtain ⟨rfl, rfl⟩ : b = b' ∧ o = o' := by cases eb; exact ⟨rfl, rfl⟩
                        obtain ⟨⟨s', d', p'⟩, HSj⟩ : ∃ e, Hid (L[j]'hjl = e) := ⟨_, rfl⟩
                        rw [HSj.out] at x0 x1 x2
                        have HBw := hid (below_trans HB2.out hbj)
                        replace x0 := cell_later HBw.out x0
                        replace x1 := cell_later HBw.out x1
                        replace x2 := cell_later HBw.out x2
                        obtain ⟨z0, z1, z2⟩ := threeE (row_later hbj HRe.out)
                        obtain ⟨q0, q1, q2, q3, q4⟩ := HSt.out _ (below_drewN HBw.out 0)
                        clear hbj eb q0 q1 q2 q3 q4
                        have hStep : ∀ t : Bool, decide (d' = d ∧ s' = s) = t → t = false → Hid (∀ q (hq : q < L.length), q < j + 1 → decide ((L[q]'hq).d = d ∧ (L[q]'hq).s = s) = false) := fun t ht hf q hq h => by
                          rcases Nat.lt_succ_iff_lt_or_eq.1 h with x | rfl
                          · exact HJ.out q hq x
                          · rw [HSj.out]; exact ht.trans hf
                        by_cases e1 : d' = d
                        · by_cases e2 : s' = s
                          · have HBad : Hid (r1 = 8 ∧ r2 = (k : Int)) := HX9.out j hjl hjk (by rw [HSj.out]; exact decide_eq_true ⟨e1, e2⟩)
                            clear hStep
                            subst e1
                            subst e2
                            go_wp2_with fail
                            go_quiet (fail)
                            obtain ⟨g0, g1, g2, g3, g4⟩ := HSt.out _ (below_drewN HBw.out nq)
                            go_wp2_with fail
                            refine bodyPost_ret (results_cell_row rfl _ _ w.heap.size 55 _ (0, 0) _ rfl (g4 _ _).1 Tryz.underlying55 rfl sizeFt) rfl ?_
                            exact ⟨by rw [HBad.out.1, HBad.out.2], (g4 _ _).2⟩
                          · have HJ2 := hStep _ rfl (decide_eq_false fun h => e2 h.2)
                            clear hStep
                            subst e1
                            have e4 : (s' == s) = false := beq_eq_false_iff_ne.2 e2
                            go_wp2_with fail
                            go_quiet (fail)
                            go_wp2_with fail
                            go_roundw
                            case rel => exact ⟨j + 1, by omega, by go_num, HJ2.out, below_drewN HBj.out _⟩
                            case measure => simp [intOf]; omega
                        · have HJ2 := hStep _ rfl (decide_eq_false fun h => e1 h.1)
                          clear hStep
                          have e3 : (d' == d) = false := beq_eq_false_iff_ne.2 e1
                          go_wp2_with fail
                          go_quiet (fail)
                          go_wp2_with fail
                          go_roundw
                          case rel => exact ⟨j + 1, by omega, by go_num, HJ2.out, below_drewN HBj.out _⟩
                          case measure => simp [intOf]; omega
                      · have hjk2 : ¬ ((j : Int) < (k : Int)) := by omega
                        have HN9 : Hid (∀ q (hq : q < L.length), q < k → decide ((L[q]'hq).d = d ∧ (L[q]'hq).s = s) = false) := fun q hq h => HJ.out q hq (by omega)
                        have hkk := HXl.out HN8.out HN9.out
                        have HBe := hid (below_trans HB2.out HBj.out)
                        clear hbj
                        go_wp2_with fail
                        go_roundw
                        case rel => exact ⟨k + 1, by omega, by go_num, HBe.out⟩
                        case measure => simp [intOf]; omega
    · have HC0 : Hid (r1 = 0 ∧ r2 = -1) := by
        rcases HF.out.2 with ⟨h1, h2⟩ | ⟨h1, -⟩
        · subst h1; exact ⟨HR.out.1, HR.out.2⟩
        · omega
      have hk2 : ¬ ((k : Int) < (L.length : Int)) := by omega
      have HFn := hid (rfine_any wr)
      unfold fltV at HFn
      go_wp2_with fail
      refine HFn.out.mono ?_
      rintro e w3 ⟨rfl, hb3⟩
      obtain ⟨g0, g1, g2, g3, g4⟩ := HSt.out w3 (below_trans hb hb3)
      clear hb hb3
      go_wp2_with fail
      refine bodyPost_ret (results_cell_row rfl _ _ w.heap.size 55 _ (0, 0) _ rfl (g4 _ _).1 Tryz.underlying55 rfl sizeFt) rfl ?_
      exact ⟨by rw [HC0.out.1, HC0.out.2], (g4 _ _).2⟩
end Go.Proofs.YtdpemmmbkjmplabGreatDoor
namespace Go.Proofs.YtdpemmmbkjmplabGreatDoor
open Go.RowKit

/-- The states of a deal at the first k sites. -/
def stsL (V : PX) (d k : Nat) : List S3 := (List.range k).map fun i => ⟨(stN (V.nd i) d).ph, (stN (V.nd i) d).pr, (stN (V.nd i) d).at_⟩
theorem stsL_length (V : PX) (d k : Nat) : (stsL V d k).length = k := by simp [stsL]
theorem stsL_succ (V : PX) (d k : Nat) : stsL V d (k + 1) = stsL V d k ++ [⟨(stN (V.nd k) d).ph, (stN (V.nd k) d).pr, (stN (V.nd k) d).at_⟩] := by simp [stsL, List.range_succ]
theorem stsL_get (V : PX) (d k i : Nat) (h : i < (stsL V d k).length) : (stsL V d k)[i]'h = ⟨(stN (V.nd i) d).ph, (stN (V.nd i) d).pr, (stN (V.nd i) d).at_⟩ := by simp [stsL]
theorem own_low {w : World} {base : Nat} {e : TypeId} {size n cap : Nat} {ad : Option Addr} {ys : List Value} (h : w.ownsRow base e size (.slice ad n cap) n ys) : ∀ p, ad = some p → base ≤ p.block := by
  intro p hp
  subst hp
  rcases h.2 with ⟨hx, -⟩ | ⟨g, c, cur, hx, hb, -⟩
  · cases hx
  · cases hx
    exact hb
theorem SL.kept {S : Nat → Prop} {w w' : World} {a : Option Addr} {L : List S3} (h : SL w a L) (k : Kept S w w') (hs : ∀ p, a = some p → ¬ S p.block) : SL w' a L := fun i hi => by
  obtain ⟨b, off, ha, h0, h1, h2⟩ := h i hi
  have hb := hs _ ha
  exact ⟨b, off, ha, cell_kept h0 k hb, cell_kept h1 k hb, cell_kept h2 k hb⟩
section
variable {w0 w : World} {C : Nat → Nat} {X : XB} {m : Nat} {zs : List Int} {V : PX} {A : Nat → Addr}
set_option maxHeartbeats 2000000 in
set_option maxRecDepth 100000 in
theorem states_any (d n : Nat) (h : WD w0 w C X zs V m) (hE : Held9 w0 A) (hd : d < 6) (hn : zs.length = n) :
    Calls Tryz.prog 17 #[.pointer (some ⟨X.xb, 0, none⟩), .int .i64 (n : Int), .int .i64 (d : Int)] w fun e w' => ∃ ad cap, e = .returned (.tuple #[.slice ad n cap, .bool true]) ∧ SL w' ad (stsL V d n) ∧ Below w.heap.size w w' ∧ ∀ p, ad = some p → w.heap.size ≤ p.block := by
  have H := hid h
  have HE := hid hE
  have HN := hid hn
  have n7 := h.n7
  rw [hn] at n7
  clear h hE hn
  go_enter Tryz.func17, Tryz.ntmps17
  go_wp2_with fail
  go_loopw [8, 9] (fun v i wr => ∃ k : Nat, k ≤ n ∧ i = .int .i64 (k : Int) ∧ wr.ownsRow w.heap.size 43 3 v (stsL V d k).length (stCells (stsL V d k)) ∧ Below w.heap.size w wr) (fun _ i _ => n - (intOf i).toNat)
  case atStart => exact ⟨0, Nat.zero_le _, rfl, World.ownsRow_nil _ _ _ _, Below.refl _ _⟩
  case round =>
    obtain ⟨k, hk, rfl, hown, hb⟩ := hrel
    have HB := hid hb
    have HO := hid hown
    by_cases hlt : k < n
    · obtain ⟨⟨h1, h2, h3⟩, HST⟩ : ∃ x, Hid (stN (V.nd k) d = x) := ⟨_, rfl⟩
      have HS := hid (wstate_ok k d h1 h2 h3 (H.out.later hb) HE.out (by rw [HN.out]; exact hlt) hd HST.out)
      unfold agS at HS
      have HSu := hid (stsL_succ V d k)
      rw [HST.out] at HSu
      clear hb hown
      go_wp2_with fail
      refine HS.out.mono ?_
      rintro e w1 ⟨rfl, hb1⟩
      have HB1 := hid (below_trans HB.out hb1)
      have HO1 := hid (own_later HO.out hb1 (Nat.le_refl _))
      obtain ⟨W2, HW2⟩ : ∃ W2, Hid ((w1.alloc (.cells #[.int .i64 (h1 : Int), .int .i64 (h2 : Int), .int .i64 (h3 : Int)] 43)).alloc (.cells #[.int .i64 (h1 : Int), .int .i64 (h2 : Int), .int .i64 (h3 : Int)] 43) = W2) := ⟨_, rfl⟩
      have HB2 : Hid (Below w1.heap.size w1 W2) := by rw [← HW2.out]; exact ((Below.refl _ _).alloc (Nat.le_refl _) _).alloc (by simp) _
      have HR2 : Hid (W2.heap[w1.heap.size + 1]? = some (.cells #[.int .i64 (h1 : Int), .int .i64 (h2 : Int), .int .i64 (h3 : Int)] 43 (0, 0))) := by
        rw [← HW2.out]
        have := heap_alloc_new (w1.alloc (.cells #[.int .i64 (h1 : Int), .int .i64 (h2 : Int), .int .i64 (h3 : Int)] 43)) (.cells #[.int .i64 (h1 : Int), .int .i64 (h2 : Int), .int .i64 (h3 : Int)] 43)
        rw [World.size_alloc] at this
        exact this
      have HSL : Hid (SL W2 (some ⟨w1.heap.size + 1, 0, none⟩) [⟨h1, h2, h3⟩]) := fun i hi => by
        obtain rfl : i = 0 := by simp at hi; omega
        obtain ⟨q0, q1, q2⟩ := threeE HR2.out
        exact ⟨_, _, rfl, q0, q1, q2⟩
      have HO2 := hid (own_later HO1.out HB2.out (Nat.le_refl _))
      have HB3 := hid (below_trans HB1.out HB2.out)
      have hbs := HB3.out.size
      have hW2 := HW2.out
      clear hb1
      go_wp2_with (at_builtin; refine wp_append_states rfl _ _ rfl w.heap.size _ (stsL V d k) rfl HO2.out (some ⟨w1.heap.size + 1, 0, none⟩) 1 1 [⟨h1, h2, h3⟩] rfl rfl (fun x => by cases x) HSL.out (by rw [stsL_length]; omega) (by simp) hbs ?_)
      intro v' w3 hown hb3
      have HO3 : Hid (w3.ownsRow w.heap.size 43 3 v' (stsL V d (k + 1)).length (stCells (stsL V d (k + 1)))) := by rw [HSu.out, List.length_append]; exact hown
      have HB4 := hid (HB3.out.trans hb3)
      clear hown hb3
      go_wp2_with fail
      go_roundw
      case rel => exact ⟨k + 1, by omega, by go_num, HO3.out, HB4.out⟩
      case measure => simp [intOf]; omega
    · obtain rfl : k = n := by omega
      obtain ⟨ad, cap, rfl, -, hs⟩ := SL.owned hown
      have HS := hid hs
      have HLow := hid (own_low hown)
      have hk2 : ¬ ((k : Int) < (k : Int)) := by omega
      have HLn := hid (stsL_length V d k)
      clear hown hs hb HO
      rw [HLn.out]
      go_wp2_with fail
      go_ret2
      exact ⟨ad, ⟨cap, rfl⟩, HS.out, HB.out, HLow.out⟩
end
end Go.Proofs.YtdpemmmbkjmplabGreatDoor
namespace Go.Proofs.YtdpemmmbkjmplabGreatDoor
open Go.RowKit

set_option maxRecDepth 100000 in
theorem sl_nilF (b off n cap : Nat) (w : World) : (binOp .eql 34 (.slice (some ⟨b, off, none⟩) n cap) (.slice none 0 0)).run Tryz.prog w = .ok (.bool false) w := by
  rfl
set_option maxRecDepth 100000 in
theorem sl_nilF0 (w : World) : (binOp .eql 34 (.slice none 0 0) (.slice none 0 0)).run Tryz.prog w = .ok (.bool true) w := by
  rfl
set_option maxRecDepth 100000 in
theorem sl_nilE0 (w : World) : (binOp .eql 45 (.slice none 0 0) (.slice none 0 0)).run Tryz.prog w = .ok (.bool true) w := by
  rfl
set_option maxRecDepth 100000 in
theorem sl_nilE (b off n cap : Nat) (w : World) : (binOp .eql 45 (.slice (some ⟨b, off, none⟩) n cap) (.slice none 0 0)).run Tryz.prog w = .ok (.bool false) w := by
  rfl
set_option maxHeartbeats 1000000 in
set_option maxRecDepth 100000 in
theorem cloneFrs_any (base : Nat) (v : Value) (L : List F9) (w : World) (hv : OwnF w base v L) (hl : L.length ≤ 1000000000000) :
    Calls Tryz.prog 47 #[v] w fun e w' => ∃ v', e = .returned v' ∧ w'.ownsRow w.heap.size 93 9 v' L.length (frCells L) ∧ Below w.heap.size w w' := by
  have hf := hv.isFr
  rcases hv with ⟨e, h0⟩ | ⟨g, o, cap, cur, e, -⟩
  · subst e
    subst h0
    clear hf
    have hnil := sl_nilF0
    go_enter Tryz.func47, Tryz.ntmps47
    go_wp2_with fail
    go_ret
    exact ⟨_, rfl, World.ownsRow_nil _ _ _ _, Below.refl _ _⟩
  · subst e
    have hnil := sl_nilF g o L.length cap
    have HF := hid (hf.later ((Below.refl w.heap.size w).alloc (Nat.le_refl _) (.cells #[] 93)))
    have HOw : Hid ((w.alloc (.cells #[] 93)).ownsRow w.heap.size 93 9 (.slice (some ⟨w.heap.size, 0, none⟩) 0 0) 0 []) := World.ownsRow_lit w #[] 0 (Nat.le_refl _) (by unfold maxLen; omega) rfl
    clear hf
    go_enter Tryz.func47, Tryz.ntmps47
    go_wp2_with (at_builtin; refine wpList_append_frs rfl _ _ rfl w.heap.size 0 (.slice (some ⟨w.heap.size, 0, none⟩) 0 0) (.slice (some ⟨g, o, none⟩) L.length cap) [] L rfl rfl HOw.out HF.out (by omega) (by simp) ?_; intro ad' cap' w1 hown hg ho; have HS := hid (And.intro hown hg); clear hown hg ho)
    go_ret
    refine ⟨_, rfl, ?_, ((Below.refl w.heap.size w).alloc (Nat.le_refl _) (.cells #[] 93)).grown HS.out.2 (by simp) (fun j hj => (HOw.out.lt j hj).1)⟩
    have := HS.out.1
    simpa using this
theorem wpList_append_evs {w : World} {ops : Array Oper} {rest : List Oper} {o : Oper} {a : Act} {Q : Exit → Act → World → Prop} (hgd : o.guard = none) (s x : Operand)
    (ho : o.op = .call { callee := .builtin .append, args := #[s, x], argTypes := #[45, 45] })
    (base n : Nat) (v : Value) (ad : Addr) (c : Nat) (xs : List Value) (L : List E3) (hs : a.eval s = v) (hx : a.eval x = .slice (some ad) L.length c) (hown : w.ownsRow base 101 3 v n xs) (hu : ∀ j u, (evCells L)[j]? = some u → w.cell? (ad.add j) = some u) (hn : n + L.length ≤ 1000000000000) (hb : base ≤ w.heap.size)
    (h : ∀ ad' cap' w', w'.ownsRow base 101 3 (.slice ad' (n + L.length) cap') (n + L.length) (xs ++ evCells L) → w.grownBy w' v.ownBlock → wpList Tryz.prog ops Q rest (a.put o.dst (.slice ad' (n + L.length) cap')) w') :
    wpList Tryz.prog ops Q (o :: rest) a w := by
  obtain ⟨i0, hi0, hz0, hz1, hz2⟩ := info_parts Tryz.infoEv
  refine wpList_append_own_at w hgd s x 45 ho base 101 i0 _ 3 24 Tryz.underlying45 hi0 hz0 hz1 hz2 rfl (by decide) v n xs hs hown ad L.length c (evCells L) hx (evCells_length L) hu (fun u hu => ?_) (by unfold maxLen; omega) (by omega) hb ?_
  · unfold evCells at hu
    obtain ⟨y, -, hy⟩ := List.mem_flatMap.1 hu
    exact e3_one y u hy
  · intro v' w' h2 h3 _ h5
    obtain ⟨ad', cap', rfl⟩ : ∃ ad' cap', v' = .slice ad' (n + L.length) cap' := by
      rcases h2.2 with ⟨e, h0⟩ | ⟨g, cap, cur, e, -⟩
      · exact ⟨none, 0, by rw [e, h0]⟩
      · exact ⟨_, _, e⟩
    exact h ad' cap' w' h2 h3
set_option maxHeartbeats 1000000 in
set_option maxRecDepth 100000 in
theorem cloneEvs_any (base : Nat) (v : Value) (L : List E3) (w : World) (hv : w.ownsRow base 101 3 v L.length (evCells L)) (hl : L.length ≤ 1000000000000) :
    Calls Tryz.prog 54 #[v] w fun e w' => ∃ v', e = .returned v' ∧ w'.ownsRow w.heap.size 101 3 v' L.length (evCells L) ∧ Below w.heap.size w w' := by
  rcases hv.2 with ⟨e, h0⟩ | ⟨g, cap, cur, e, -⟩
  · subst e
    obtain rfl : L = [] := List.length_eq_zero_iff.1 h0
    clear hv h0
    have hnil := sl_nilE0
    go_enter Tryz.func54, Tryz.ntmps54
    go_wp2_with fail
    go_ret
    exact ⟨_, rfl, World.ownsRow_nil _ _ _ _, Below.refl _ _⟩
  · subst e
    have hnil := sl_nilE g 0 L.length cap
    have HF : Hid (∀ j u, (evCells L)[j]? = some u → (w.alloc (.cells #[] 101)).cell? ((⟨g, 0, none⟩ : Addr).add j) = some u) := fun j u hu => cell_alloc _ (hv.cells rfl j u hu)
    have HOw : Hid ((w.alloc (.cells #[] 101)).ownsRow w.heap.size 101 3 (.slice (some ⟨w.heap.size, 0, none⟩) 0 0) 0 []) := World.ownsRow_lit w #[] 0 (Nat.le_refl _) (by unfold maxLen; omega) rfl
    clear hv
    go_enter Tryz.func54, Tryz.ntmps54
    go_wp2_with (at_builtin; refine wpList_append_evs rfl _ _ rfl w.heap.size 0 (.slice (some ⟨w.heap.size, 0, none⟩) 0 0) ⟨g, 0, none⟩ cap [] L rfl rfl HOw.out HF.out (by omega) (by simp) ?_; intro ad' cap' w1 hown hg; have HS := hid (And.intro hown hg); clear hown hg)
    go_ret
    refine ⟨_, rfl, ?_, ((Below.refl w.heap.size w).alloc (Nat.le_refl _) (.cells #[] 101)).grown HS.out.2 (by simp) (fun j hj => (HOw.out.lt j hj).1)⟩
    have := HS.out.1
    simpa using this
section
variable {w0 w w' : World} {C C' : Nat → Nat} {K : NB} {X : XB} {i m m' : Nat} {zs : List Int} {N : PN} {V V' : PX} {A : Nat → Addr}
set_option maxRecDepth 100000 in
theorem flying_any (h : WD w0 w C X zs V m) (hm : m ≤ 100000000) :
    Calls Tryz.prog 15 #[.pointer (some ⟨X.xb, 0, none⟩)] w fun e w' => ∃ v', e = .returned v' ∧ w'.ownsRow w.heap.size 93 9 v' V.fly.length (frCells V.fly) ∧ Below w.heap.size w w' := by
  obtain ⟨-, -, -, c3, -⟩ := h.cells
  have HC := hid (cloneFrs_any w0.heap.size X.fv V.fly w h.fly (by have := h.inv.fl; omega))
  generalize X.fv = fv at c3 HC
  clear h
  go_enter Tryz.func15, Tryz.ntmps15
  go_wp2_with fail
  refine HC.out.mono ?_
  rintro e w1 ⟨v', rfl, h1, h2⟩
  have HH := hid (And.intro h1 h2)
  clear h1 h2
  go_wp2_with fail
  go_ret
  exact ⟨_, rfl, HH.out⟩
set_option maxRecDepth 100000 in
theorem events_any (h : WD w0 w C X zs V m) :
    Calls Tryz.prog 20 #[.pointer (some ⟨X.xb, 0, none⟩)] w fun e w' => ∃ v', e = .returned v' ∧ w'.ownsRow w.heap.size 101 3 v' V.evs.length (evCells V.evs) ∧ Below w.heap.size w w' := by
  obtain ⟨-, -, -, -, c4⟩ := h.cells
  have HC := hid (cloneEvs_any w0.heap.size X.ev V.evs w h.evs (by have := h.inv.ev; omega))
  generalize X.ev = fv at c4 HC
  clear h
  go_enter Tryz.func20, Tryz.ntmps20
  go_wp2_with fail
  refine HC.out.mono ?_
  rintro e w1 ⟨v', rfl, h1, h2⟩
  have HH := hid (And.intro h1 h2)
  clear h1 h2
  go_wp2_with fail
  go_ret
  exact ⟨_, rfl, HH.out⟩
end
end Go.Proofs.YtdpemmmbkjmplabGreatDoor
