/-
  THE WALK of the document's SetError.
-/
import Derived.Test.YtkbbjkiinpimiaaDoorW6
namespace Go.Proofs.YtkbbjkiinpimiaaDoor
open Go.RowKit

theorem rSetErr_any (v : Value) (zs : List Int) (s : Int) (w : World) (hv : IsSl w v zs) :
    Calls Tryd.prog 26 #[v, .int .i64 s] w fun e w' => e = .returned (.int .i64 (errS zs s)) ∧ w' = w := by
  have H := hid (rErr_any v zs w hv)
  obtain ⟨a, cap, rfl, hm, -, -⟩ := hv
  unfold maxLen at hm
  unfold errS
  by_cases h : errW zs = 0
  · rw [h] at H
    rw [if_pos h]
    have hl := (errW_zero h).2.1
    have hp := pow_le7 hl
    clear h
    by_cases c1 : s < 0
    · rw [if_pos (Or.inl c1)]
      go_enter Tryd.func26, Tryd.ntmps26
      go_wp2_with (first | (go_at_call 25; refine H.out.mono ?_; rintro e w' ⟨rfl, rfl⟩) | (go_at_call 31; refine (two_any zs.length _ (by omega)).mono ?_; rintro e w' ⟨rfl, rfl⟩))
      go_ret
      exact ⟨rfl, rfl⟩
    · by_cases c2 : 2 ^ zs.length ≤ s
      · rw [if_pos (Or.inr c2)]
        go_enter Tryd.func26, Tryd.ntmps26
        go_wp2_with (first | (go_at_call 25; refine H.out.mono ?_; rintro e w' ⟨rfl, rfl⟩) | (go_at_call 31; refine (two_any zs.length _ (by omega)).mono ?_; rintro e w' ⟨rfl, rfl⟩))
        go_ret
        exact ⟨rfl, rfl⟩
      · rw [if_neg (by omega)]
        go_enter Tryd.func26, Tryd.ntmps26
        go_wp2_with (first | (go_at_call 25; refine H.out.mono ?_; rintro e w' ⟨rfl, rfl⟩) | (go_at_call 31; refine (two_any zs.length _ (by omega)).mono ?_; rintro e w' ⟨rfl, rfl⟩))
        go_ret
        exact ⟨rfl, rfl⟩
  · rw [if_neg h]
    obtain ⟨c, hc⟩ : ∃ c, errW zs = c + 1 := ⟨errW zs - 1, by omega⟩
    rw [hc] at H ⊢
    clear h hc
    have hc : (((c + 1 : Nat) : Int) == 0) = false := beq_eq_false_iff_ne.2 (by omega)
    go_enter Tryd.func26, Tryd.ntmps26
    go_wp2_with (go_at_call 25; refine H.out.mono ?_; rintro e w' ⟨rfl, rfl⟩)
    go_ret
    exact ⟨rfl, rfl⟩
end Go.Proofs.YtkbbjkiinpimiaaDoor
