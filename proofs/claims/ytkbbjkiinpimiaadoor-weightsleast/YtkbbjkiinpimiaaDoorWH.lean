/-
  THE WALK of the closed fact 'heavier': two of three are enough.
-/
import Derived.Test.YtkbbjkiinpimiaaDoorW5
namespace Go.Proofs.YtkbbjkiinpimiaaDoor
open Go.RowKit

theorem enough_three (A : Nat → Addr) (w : World) (hE : Held3 w A) :
    Calls Tryd.prog 22 #[.slice (some ⟨w.heap.size, 0, none⟩) 3 3, .int .i64 5] (w.alloc (.cells #[.int .i64 1, .int .i64 1, .int .i64 1] 3)) fun e w' => e = .returned (.tuple #[.bool true, .nilIface]) ∧ Below w.heap.size w w' := by
  have hb : Below w.heap.size w (w.alloc (.cells #[.int .i64 1, .int .i64 1, .int .i64 1] 3)) := (Below.refl _ _).alloc (Nat.le_refl _) _
  have h := enough_ok A _ [1, 1, 1] 5 _ (IsSl.lit w [1, 1, 1] (by simp [maxLen])) (hE.later hb) (by decide)
  rw [show enoughB [1, 1, 1] 5 = true by decide] at h
  refine h.mono ?_
  rintro e w' ⟨rfl, h2⟩
  exact ⟨rfl, below_trans hb h2⟩
theorem check_one (A : Nat → Addr) (w : World) (hE : Held3 w A) :
    Calls Tryd.prog 24 #[.slice (some ⟨w.heap.size, 0, none⟩) 1 1] (w.alloc (.cells #[.int .i64 1] 3)) fun e w' => e = .returned .nilIface ∧ Below w.heap.size w w' := by
  have hb : Below w.heap.size w (w.alloc (.cells #[.int .i64 1] 3)) := (Below.refl _ _).alloc (Nat.le_refl _) _
  have h := check_any A _ [1] _ (IsSl.lit w [1] (by simp [maxLen])) (hE.later hb)
  rw [show errW [1] = 0 by decide] at h
  refine h.mono ?_
  rintro e w' ⟨rfl, h2⟩
  rw [h2]
  exact ⟨rfl, hb⟩

set_option maxHeartbeats 1000000 in
/-- heavier: two of three are enough. -/
theorem heavier_any (A : Nat → Addr) (w : World) (hE : Held3 w A) :
    Calls Tryd.prog 19 #[] w fun e w' => e = .returned (.bool true) ∧ Below w.heap.size w w' := by
  have HE := hid hE
  clear hE
  go_enter Tryd.func19, Tryd.ntmps19
  go_wp2_with (first | (go_at_call 22; refine (enough_three A w HE.out).mono ?_; rintro e w1 ⟨rfl, hb1⟩) | (go_at_call 24; refine (check_one A _ (HE.out.later hb1)).mono ?_; rintro e w2 ⟨rfl, hb2⟩))
  go_ret
  exact ⟨rfl, below_trans hb1 hb2⟩
end Go.Proofs.YtkbbjkiinpimiaaDoor
