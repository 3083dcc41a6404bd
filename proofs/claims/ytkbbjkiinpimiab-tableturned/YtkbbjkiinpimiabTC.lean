/-
  WALKS of package table: Choose, After, May.
-/
import Derived.Test.YtkbbjkiinpimiabTB
namespace Go.Proofs.Ytkbbjkiinpimiab
open Go.RowKit

theorem known_any (a : Int) (w : World) :
    Calls Try.prog 15 #[.int .i64 a] w fun e w' => e = .returned (.bool (decide (0 ≤ a ∧ a ≤ 5))) ∧ w' = w := by
  by_cases h0 : 0 ≤ a
  · by_cases h1 : a ≤ 5
    · rw [decide_eq_true (⟨h0, h1⟩ : 0 ≤ a ∧ a ≤ 5)]
      go_enter Try.func15, Try.ntmps15
      go_wp2
      go_ret
      exact ⟨by simp, rfl⟩
    · rw [decide_eq_false (fun h : 0 ≤ a ∧ a ≤ 5 => h1 h.2)]
      go_enter Try.func15, Try.ntmps15
      go_wp2
      go_ret
      exact ⟨by simp, rfl⟩
  · rw [decide_eq_false (fun h : 0 ≤ a ∧ a ≤ 5 => h0 h.1)]
    go_enter Try.func15, Try.ntmps15
    go_wp2
    go_ret
    exact ⟨rfl, rfl⟩

theorem ret_bool {a b : Bool} (h : a = b) : Ending.returned (.bool a) = .returned (.bool b) := by rw [h]
theorem known_is (a : Int) (r : Bool) (w : World) (h : decide (0 ≤ a ∧ a ≤ 5) = r) : Calls Try.prog 15 #[.int .i64 a] w fun e w' => e = .returned (.bool r) ∧ w' = w := by subst h; exact known_any a w
theorem phase_ways (a : Int) : a = 0 ∨ a = 1 ∨ a = 2 ∨ a = 3 ∨ a = 4 ∨ a = 5 ∨ (a < 0) ∨ 5 < a := by omega

set_option maxRecDepth 100000 in
theorem may_0 (b : Int) (r : Bool) (w : World) (hr : decide (0 ≤ b ∧ b ≤ 5) = r) : Calls Try.prog 11 #[.int .i64 0, .int .i64 b] w fun e w' => e = .returned (.bool (r && true)) ∧ w' = w := by
  have Hr := hid hr
  clear hr
  cases r with
  | false =>
    go_enter Try.func11, Try.ntmps11
    go_wp2_with (go_at_call 15; (with_reducible refine (known_is _ false _ Hr.out).mono ?_); rintro e wx ⟨rfl, rfl⟩)
    go_ret
    exact ⟨ret_bool (by simp [*]), rfl⟩
  | true =>
    go_enter Try.func11, Try.ntmps11
    go_wp2_with (go_at_call 15; (with_reducible refine (known_is _ true _ Hr.out).mono ?_); rintro e wx ⟨rfl, rfl⟩)
    go_ret
    exact ⟨ret_bool (by simp [*]), rfl⟩
set_option maxRecDepth 100000 in
theorem may_1 (b : Int) (r : Bool) (w : World) (hr : decide (0 ≤ b ∧ b ≤ 5) = r) : Calls Try.prog 11 #[.int .i64 1, .int .i64 b] w fun e w' => e = .returned (.bool (r && decide (b ≠ 0))) ∧ w' = w := by
  have Hr := hid hr
  clear hr
  cases r with
  | false =>
    go_enter Try.func11, Try.ntmps11
    go_wp2_with (go_at_call 15; (with_reducible refine (known_is _ false _ Hr.out).mono ?_); rintro e wx ⟨rfl, rfl⟩)
    go_ret
    exact ⟨ret_bool (by simp [*]), rfl⟩
  | true =>
    by_cases b0 : b = 0
    · subst b0
      go_enter Try.func11, Try.ntmps11
      go_wp2_with (go_at_call 15; (with_reducible refine (known_is _ true _ Hr.out).mono ?_); rintro e wx ⟨rfl, rfl⟩)
      go_ret
      exact ⟨ret_bool (by simp [*]), rfl⟩
    · go_enter Try.func11, Try.ntmps11
      go_wp2_with (go_at_call 15; (with_reducible refine (known_is _ true _ Hr.out).mono ?_); rintro e wx ⟨rfl, rfl⟩)
      go_ret
      exact ⟨ret_bool (by simp [*]), rfl⟩
set_option maxRecDepth 100000 in
theorem may_4 (b : Int) (r : Bool) (w : World) (hr : decide (0 ≤ b ∧ b ≤ 5) = r) : Calls Try.prog 11 #[.int .i64 4, .int .i64 b] w fun e w' => e = .returned (.bool (r && decide (b ≠ 0 ∧ b ≠ 1))) ∧ w' = w := by
  have Hr := hid hr
  clear hr
  cases r with
  | false =>
    go_enter Try.func11, Try.ntmps11
    go_wp2_with (go_at_call 15; (with_reducible refine (known_is _ false _ Hr.out).mono ?_); rintro e wx ⟨rfl, rfl⟩)
    go_ret
    exact ⟨ret_bool (by simp [*]), rfl⟩
  | true =>
    by_cases b0 : b = 0
    · subst b0
      go_enter Try.func11, Try.ntmps11
      go_wp2_with (go_at_call 15; (with_reducible refine (known_is _ true _ Hr.out).mono ?_); rintro e wx ⟨rfl, rfl⟩)
      go_ret
      exact ⟨ret_bool (by simp [*]), rfl⟩
    · by_cases b1 : b = 1
      · subst b1
        go_enter Try.func11, Try.ntmps11
        go_wp2_with (go_at_call 15; (with_reducible refine (known_is _ true _ Hr.out).mono ?_); rintro e wx ⟨rfl, rfl⟩)
        go_ret
        exact ⟨ret_bool (by simp [*]), rfl⟩
      · go_enter Try.func11, Try.ntmps11
        go_wp2_with (go_at_call 15; (with_reducible refine (known_is _ true _ Hr.out).mono ?_); rintro e wx ⟨rfl, rfl⟩)
        go_ret
        exact ⟨ret_bool (by simp [*]), rfl⟩
set_option maxRecDepth 100000 in
theorem may_5 (b : Int) (r : Bool) (w : World) (hr : decide (0 ≤ b ∧ b ≤ 5) = r) : Calls Try.prog 11 #[.int .i64 5, .int .i64 b] w fun e w' => e = .returned (.bool (r && decide (b ≠ 0 ∧ b ≠ 1))) ∧ w' = w := by
  have Hr := hid hr
  clear hr
  cases r with
  | false =>
    go_enter Try.func11, Try.ntmps11
    go_wp2_with (go_at_call 15; (with_reducible refine (known_is _ false _ Hr.out).mono ?_); rintro e wx ⟨rfl, rfl⟩)
    go_ret
    exact ⟨ret_bool (by simp [*]), rfl⟩
  | true =>
    by_cases b0 : b = 0
    · subst b0
      go_enter Try.func11, Try.ntmps11
      go_wp2_with (go_at_call 15; (with_reducible refine (known_is _ true _ Hr.out).mono ?_); rintro e wx ⟨rfl, rfl⟩)
      go_ret
      exact ⟨ret_bool (by simp [*]), rfl⟩
    · by_cases b1 : b = 1
      · subst b1
        go_enter Try.func11, Try.ntmps11
        go_wp2_with (go_at_call 15; (with_reducible refine (known_is _ true _ Hr.out).mono ?_); rintro e wx ⟨rfl, rfl⟩)
        go_ret
        exact ⟨ret_bool (by simp [*]), rfl⟩
      · go_enter Try.func11, Try.ntmps11
        go_wp2_with (go_at_call 15; (with_reducible refine (known_is _ true _ Hr.out).mono ?_); rintro e wx ⟨rfl, rfl⟩)
        go_ret
        exact ⟨ret_bool (by simp [*]), rfl⟩
theorem may_2 (b : Int) (w : World) : Calls Try.prog 11 #[.int .i64 2, .int .i64 b] w fun e w' => e = .returned (.bool (decide (b = 2))) ∧ w' = w := by
  by_cases h : b = 2
  · subst h
    go_enter Try.func11, Try.ntmps11
    go_wp2_with fail
    go_ret
    exact ⟨ret_bool (by simp), rfl⟩
  · go_enter Try.func11, Try.ntmps11
    go_wp2_with fail
    go_ret
    exact ⟨ret_bool (by simp [h]), rfl⟩
theorem may_3 (b : Int) (w : World) : Calls Try.prog 11 #[.int .i64 3, .int .i64 b] w fun e w' => e = .returned (.bool (decide (b = 3))) ∧ w' = w := by
  by_cases h : b = 3
  · subst h
    go_enter Try.func11, Try.ntmps11
    go_wp2_with fail
    go_ret
    exact ⟨ret_bool (by simp), rfl⟩
  · go_enter Try.func11, Try.ntmps11
    go_wp2_with fail
    go_ret
    exact ⟨ret_bool (by simp [h]), rfl⟩
theorem may_no (a b : Int) (w : World) (h : a < 0 ∨ 5 < a) : Calls Try.prog 11 #[.int .i64 a, .int .i64 b] w fun e w' => e = .returned (.bool false) ∧ w' = w := by
  have h0 : a ≠ 0 := by omega
  have h1 : a ≠ 1 := by omega
  have h2 : a ≠ 2 := by omega
  have h3 : a ≠ 3 := by omega
  have h4 : a ≠ 4 := by omega
  have h5 : a ≠ 5 := by omega
  clear h
  go_enter Try.func11, Try.ntmps11
  go_wp2_with fail
  go_ret
  exact ⟨rfl, rfl⟩
theorem bool_iff {a b : Bool} (h : a = true ↔ b = true) : a = b := by cases a <;> cases b <;> simp_all
theorem may_any (a b : Int) (w : World) : Calls Try.prog 11 #[.int .i64 a, .int .i64 b] w fun e w' => e = .returned (.bool (mayB a b)) ∧ w' = w := by
  have key : ∀ m : Bool, (m = mayB a b) → (Calls Try.prog 11 #[.int .i64 a, .int .i64 b] w fun e w' => e = .returned (.bool m) ∧ w' = w) → Calls Try.prog 11 #[.int .i64 a, .int .i64 b] w fun e w' => e = .returned (.bool (mayB a b)) ∧ w' = w := fun m h g => h ▸ g
  rcases phase_ways a with rfl | rfl | rfl | rfl | rfl | rfl | h | h
  · exact key _ (bool_iff (by simp [mayB])) (may_0 b _ w rfl)
  · exact key _ (bool_iff (by simp [mayB]; omega)) (may_1 b _ w rfl)
  · exact key _ (bool_iff (by simp [mayB]; omega)) (may_2 b w)
  · exact key _ (bool_iff (by simp [mayB]; omega)) (may_3 b w)
  · exact key _ (bool_iff (by simp [mayB]; omega)) (may_4 b _ w rfl)
  · exact key _ (bool_iff (by simp [mayB]; omega)) (may_5 b _ w rfl)
  · exact key _ (bool_iff (by simp [mayB]; omega)) (may_no a b w (.inl h))
  · exact key _ (bool_iff (by simp [mayB]; omega)) (may_no a b w (.inr h))
theorem after_any (a : Int) (w : World) : Calls Try.prog 9 #[.int .i64 a] w fun e w' => e = .returned (.int .i64 (afterI a)) ∧ w' = w := by
  unfold afterI
  by_cases h4 : a = 4
  · subst h4
    go_enter Try.func9, Try.ntmps9
    go_wp2
    go_ret
    exact ⟨rfl, rfl⟩
  · rw [if_neg h4]
    by_cases h5 : a = 5
    · subst h5
      go_enter Try.func9, Try.ntmps9
      go_wp2
      go_ret
      exact ⟨rfl, rfl⟩
    · rw [if_neg h5]
      go_enter Try.func9, Try.ntmps9
      go_wp2
      go_ret
      exact ⟨rfl, rfl⟩
end Go.Proofs.Ytkbbjkiinpimiab
