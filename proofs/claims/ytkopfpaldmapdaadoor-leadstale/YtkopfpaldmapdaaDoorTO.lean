/-
  THE WALK of the program's After.
-/
import Derived.Test.YtkopfpaldmapdaaDoorTA
namespace Go.Proofs.YtkopfpaldmapdaaDoor
open Go.RowKit

theorem tafter_any (a : Int) (w : World) : Calls Tryd.prog 86 #[.int .i64 a] w fun e w' => e = .returned (.int .i64 (afterI a)) ∧ w' = w := by
  unfold afterI
  by_cases h4 : a = 4
  · subst h4
    go_enter Tryd.func86, Tryd.ntmps86
    go_wp2
    go_ret
    exact ⟨rfl, rfl⟩
  · rw [if_neg h4]
    by_cases h5 : a = 5
    · subst h5
      go_enter Tryd.func86, Tryd.ntmps86
      go_wp2
      go_ret
      exact ⟨rfl, rfl⟩
    · rw [if_neg h5]
      go_enter Tryd.func86, Tryd.ntmps86
      go_wp2
      go_ret
      exact ⟨rfl, rfl⟩
end Go.Proofs.YtkopfpaldmapdaaDoor
