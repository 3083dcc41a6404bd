/-
  WALKS of the document's answer (threefoldref1): AfterOf, MayOf, told, ChooseOf.
-/
import Derived.Test.YtkbbjkiinpimiabTC
import Derived.Test.YtkbbjkiinpimiabTK
namespace Go.Proofs.Ytkbbjkiinpimiab
open Go.RowKit

set_option maxRecDepth 100000 in
theorem rmay_no (a b : Int) (w : World) (h : a < 0 ∨ 5 < a ∨ b < 0 ∨ 5 < b) : Calls Try.prog 12 #[.int .i64 a, .int .i64 b] w fun e w' => e = .returned (.bool false) ∧ w' = w := by
  by_cases a0 : a < 0
  · clear h
    go_enter Try.func12, Try.ntmps12
    go_wp2_with fail
    go_ret
    exact ⟨ret_bool (by rfl), rfl⟩
  · by_cases a5 : 5 < a
    · clear h
      go_enter Try.func12, Try.ntmps12
      go_wp2_with fail
      go_ret
      exact ⟨ret_bool (by rfl), rfl⟩
    · by_cases b0 : b < 0
      · clear h
        go_enter Try.func12, Try.ntmps12
        go_wp2_with fail
        go_ret
        exact ⟨ret_bool (by rfl), rfl⟩
      · have b5 : 5 < b := by omega
        clear h
        go_enter Try.func12, Try.ntmps12
        go_wp2_with fail
        go_ret
        exact ⟨ret_bool (by rfl), rfl⟩
set_option maxRecDepth 100000 in
theorem rmay_same (a : Int) (w : World) (h0 : 0 ≤ a) (h5 : a ≤ 5) : Calls Try.prog 12 #[.int .i64 a, .int .i64 a] w fun e w' => e = .returned (.bool true) ∧ w' = w := by
  go_enter Try.func12, Try.ntmps12
  go_wp2_with fail
  go_ret
  exact ⟨ret_bool (by rfl), rfl⟩
set_option maxRecDepth 100000 in
theorem rmay_0 (b : Int) (w : World) (h0 : 0 ≤ b) (h5 : b ≤ 5) (hn : ¬ (0 : Int) = b) : Calls Try.prog 12 #[.int .i64 0, .int .i64 b] w fun e w' => e = .returned (.bool (true)) ∧ w' = w := by
  go_enter Try.func12, Try.ntmps12
  go_wp2_with fail
  go_ret
  exact ⟨ret_bool (by rfl), rfl⟩
set_option maxRecDepth 100000 in
theorem rmay_1 (b : Int) (w : World) (h0 : 0 ≤ b) (h5 : b ≤ 5) (hn : ¬ (1 : Int) = b) : Calls Try.prog 12 #[.int .i64 1, .int .i64 b] w fun e w' => e = .returned (.bool (decide (b ≠ 0))) ∧ w' = w := by
  by_cases b0 : b = 0
  · subst b0
    go_enter Try.func12, Try.ntmps12
    go_wp2_with fail
    go_ret
    exact ⟨ret_bool (by simp [*]), rfl⟩
  · go_enter Try.func12, Try.ntmps12
    go_wp2_with fail
    go_ret
    exact ⟨ret_bool (by simp [*]), rfl⟩
set_option maxRecDepth 100000 in
theorem rmay_2 (b : Int) (w : World) (h0 : 0 ≤ b) (h5 : b ≤ 5) (hn : ¬ (2 : Int) = b) : Calls Try.prog 12 #[.int .i64 2, .int .i64 b] w fun e w' => e = .returned (.bool (false)) ∧ w' = w := by
  go_enter Try.func12, Try.ntmps12
  go_wp2_with fail
  go_ret
  exact ⟨ret_bool (by rfl), rfl⟩
set_option maxRecDepth 100000 in
theorem rmay_3 (b : Int) (w : World) (h0 : 0 ≤ b) (h5 : b ≤ 5) (hn : ¬ (3 : Int) = b) : Calls Try.prog 12 #[.int .i64 3, .int .i64 b] w fun e w' => e = .returned (.bool (false)) ∧ w' = w := by
  go_enter Try.func12, Try.ntmps12
  go_wp2_with fail
  go_ret
  exact ⟨ret_bool (by rfl), rfl⟩
set_option maxRecDepth 100000 in
theorem rmay_4 (b : Int) (w : World) (h0 : 0 ≤ b) (h5 : b ≤ 5) (hn : ¬ (4 : Int) = b) : Calls Try.prog 12 #[.int .i64 4, .int .i64 b] w fun e w' => e = .returned (.bool (decide (b ≠ 0 ∧ b ≠ 1))) ∧ w' = w := by
  by_cases b0 : b = 0
  · subst b0
    go_enter Try.func12, Try.ntmps12
    go_wp2_with fail
    go_ret
    exact ⟨ret_bool (by simp [*]), rfl⟩
  · by_cases b1 : b = 1
    · subst b1
      go_enter Try.func12, Try.ntmps12
      go_wp2_with fail
      go_ret
      exact ⟨ret_bool (by simp [*]), rfl⟩
    · go_enter Try.func12, Try.ntmps12
      go_wp2_with fail
      go_ret
      exact ⟨ret_bool (by simp [*]), rfl⟩
set_option maxRecDepth 100000 in
theorem rmay_5 (b : Int) (w : World) (h0 : 0 ≤ b) (h5 : b ≤ 5) (hn : ¬ (5 : Int) = b) : Calls Try.prog 12 #[.int .i64 5, .int .i64 b] w fun e w' => e = .returned (.bool (decide (b ≠ 0 ∧ b ≠ 1))) ∧ w' = w := by
  by_cases b0 : b = 0
  · subst b0
    go_enter Try.func12, Try.ntmps12
    go_wp2_with fail
    go_ret
    exact ⟨ret_bool (by simp [*]), rfl⟩
  · by_cases b1 : b = 1
    · subst b1
      go_enter Try.func12, Try.ntmps12
      go_wp2_with fail
      go_ret
      exact ⟨ret_bool (by simp [*]), rfl⟩
    · go_enter Try.func12, Try.ntmps12
      go_wp2_with fail
      go_ret
      exact ⟨ret_bool (by simp [*]), rfl⟩
theorem rmay_any (a b : Int) (w : World) : Calls Try.prog 12 #[.int .i64 a, .int .i64 b] w fun e w' => e = .returned (.bool (mayB a b)) ∧ w' = w := by
  have key : ∀ m : Bool, (m = mayB a b) → (Calls Try.prog 12 #[.int .i64 a, .int .i64 b] w fun e w' => e = .returned (.bool m) ∧ w' = w) → Calls Try.prog 12 #[.int .i64 a, .int .i64 b] w fun e w' => e = .returned (.bool (mayB a b)) ∧ w' = w := fun m h g => h ▸ g
  by_cases hb : a < 0 ∨ 5 < a ∨ b < 0 ∨ 5 < b
  · exact key _ (bool_iff (by simp [mayB]; omega)) (rmay_no a b w hb)
  · by_cases e : a = b
    · subst e
      exact key _ (bool_iff (by simp [mayB]; omega)) (rmay_same a w (by omega) (by omega))
    · rcases phase_ways a with rfl | rfl | rfl | rfl | rfl | rfl | h | h
      · exact key _ (bool_iff (by simp [mayB]; omega)) (rmay_0 b w (by omega) (by omega) e)
      · exact key _ (bool_iff (by simp [mayB]; omega)) (rmay_1 b w (by omega) (by omega) e)
      · exact key _ (bool_iff (by simp [mayB]; omega)) (rmay_2 b w (by omega) (by omega) e)
      · exact key _ (bool_iff (by simp [mayB]; omega)) (rmay_3 b w (by omega) (by omega) e)
      · exact key _ (bool_iff (by simp [mayB]; omega)) (rmay_4 b w (by omega) (by omega) e)
      · exact key _ (bool_iff (by simp [mayB]; omega)) (rmay_5 b w (by omega) (by omega) e)
      · omega
      · omega
end Go.Proofs.Ytkbbjkiinpimiab
