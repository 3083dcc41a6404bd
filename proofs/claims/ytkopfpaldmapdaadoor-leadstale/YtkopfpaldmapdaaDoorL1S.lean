/-
  FRAMES IN MEMORY: the document's SameFrames of any two lists that are the same.
-/
import Derived.Test.YtkopfpaldmapdaaDoorL1
import Derived.BigRegion
import Derived.RegionTactic
import Derived.Laws.StructEq
namespace Go.Proofs.YtkopfpaldmapdaaDoor
open Go.RowKit

theorem fr_neq9 (f t d k a : Int) (y : Bool) (ph pr pa : Int) (w : World) : (binOp .neq 36 (frV f t d k a y ph pr pa) (frV f t d k a y ph pr pa)).run Tryd.prog w = .ok (.bool false) w := by
  go_simp
set_option maxHeartbeats 1000000 in
set_option maxRecDepth 100000 in
theorem same_list (v1 v2 : Value) (L : List F9) (w : World) (h1 : IsFr w v1 L) (h2 : IsFr w v2 L) (hl : L.length ≤ 1000) :
    Calls Tryd.prog 24 #[v1, v2] w fun e w' => e = .returned (.bool true) ∧ Below w.heap.size w w' := by
  obtain ⟨a1, c1, rfl, l1⟩ := h1
  obtain ⟨a2, c2, rfl, l2⟩ := h2
  have H1 := hid l1
  have H2 := hid l2
  clear l1 l2
  go_enter Tryd.func24, Tryd.ntmps24
  go_wp2_with fail
  go_loopw [5] (fun i wr => ∃ n : Nat, n ≤ L.length ∧ i = .int .i64 (n : Int) ∧ Below w.heap.size w wr) (fun i _ => L.length - (intOf i).toNat)
  case atStart => exact ⟨0, Nat.zero_le _, rfl, Below.refl _ _⟩
  case round =>
    obtain ⟨n, hn, rfl, hb⟩ := hrel
    have HB := hid hb
    by_cases hlt : n < L.length
    · obtain ⟨b1, o1, rfl, q1⟩ := (H1.out.later hb) n hlt
      obtain ⟨b2, o2, rfl, q2⟩ := (H2.out.later hb) n hlt
      generalize L[n]'hlt = x at q1 q2
      obtain ⟨xf, xt, xd, xk, xa, xy, xph, xpr, xpa⟩ := x
      obtain ⟨a0, a1, a2, a3, a4, a5, a6, a7, a8⟩ := nineO q1
      obtain ⟨b0, b1, b2, b3, b4, b5, b6, b7, b8⟩ := nineO q2
      simp only at a0 a1 a2 a3 a4 a5 a6 a7 a8 b0 b1 b2 b3 b4 b5 b6 b7 b8
      have hne := fr_neq9 xf xt xd xk xa xy xph xpr xpa
      clear hb q1 q2
      go_wp2_with fail
      go_region
      all_goals go_wp2_with fail
      all_goals go_roundw
      case rel => exact ⟨n + 1, by omega, by go_num, HB.out.drew⟩
      case measure => simp [intOf]; omega
    · obtain rfl : n = L.length := by omega
      go_wp2_with fail
      go_ret
      exact ⟨rfl, HB.out⟩
end Go.Proofs.YtkopfpaldmapdaaDoor
