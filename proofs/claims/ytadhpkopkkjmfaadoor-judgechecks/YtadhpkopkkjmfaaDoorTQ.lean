/-
  THE WALK of the law's OwnStates.
-/
import Derived.Test.YtadhpkopkkjmfaaDoorTG
namespace Go.Proofs.YtadhpkopkkjmfaaDoor
open Go.RowKit

theorem ownStates_any (a : Option Addr) (cap : Nat) (L : List S3) (w : World) (hl : L.length ≤ 100) (hn : a = none → cap = 0) (hL : SL w a L) :
    Calls Tryd.prog 12 #[.slice a L.length cap] w fun e w' => ∃ a' cap', e = .returned (.slice a' L.length cap') ∧ SL w' a' L ∧ Below w.heap.size w w' := by
  have HL := hid hL
  have HN := hid hn
  clear hL hn
  go_enter Tryd.func12, Tryd.ntmps12
  go_wp2_with (at_builtin; refine wp_append_states rfl _ _ rfl w.heap.size _ [] rfl (World.ownsRow_nil _ _ _ _) a L.length cap L rfl rfl HN.out HL.out (by simp) hl (Nat.le_refl _) ?_)
  intro v' w1 hown hb
  obtain ⟨a', cap', rfl, hn', hs'⟩ := SL.owned hown
  have HS := hid hs'
  clear hown hs' hn'
  go_wp2
  go_ret
  exact ⟨_, _, rfl, HS.out, hb⟩
end Go.Proofs.YtadhpkopkkjmfaaDoor
