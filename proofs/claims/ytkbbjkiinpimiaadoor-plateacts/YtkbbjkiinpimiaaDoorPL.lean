/-
  THE WALK of the law PlateActs.
-/
import Derived.Test.YtkbbjkiinpimiaaDoorP9
import Derived.Deep.CutRange
namespace Go.Proofs.YtkbbjkiinpimiaaDoor
open Go.RowKit

set_option maxRecDepth 100000 in
set_option maxHeartbeats 4000000 in
theorem acts_early (A : Nat → Addr) (s : ByteArray) (size : Int) (ad : Option Addr) (len cap : Nat) (w : World) (hE : Held9 w A) (hs : s.size ≤ 9223372036854775807) (hl : len ≤ 9223372036854775807) (h : (100 < s.size ∧ s.size ≤ 512) ∨ 1000 < s.size ∨ 60 < len) :
    Calls Tryd.prog 8 #[.string s, .int .i64 size, .slice ad len cap] w fun e w' => e = .returned (.bool true) ∧ Below w.heap.size w w' := by
  have HE := hid hE
  clear hE
  by_cases h1 : 100 < s.size ∧ s.size ≤ 512
  · obtain ⟨h1, h2⟩ := h1
    clear h
    go_enter Tryd.func8, Tryd.ntmps8
    go_wp2_with (go_at_call 32; refine (plated_any A _ HE.out.toE).mono ?_; rintro e w1 ⟨rfl, hb1⟩)
    go_ret
    exact ⟨rfl, hb1⟩
  · by_cases h2 : 1000 < s.size
    · have h3 : ¬ s.size ≤ 512 := by omega
      have h4 : 100 < s.size := by omega
      clear h h1
      go_enter Tryd.func8, Tryd.ntmps8
      go_wp2_with (go_at_call 32; refine (plated_any A _ HE.out.toE).mono ?_; rintro e w1 ⟨rfl, hb1⟩)
      go_ret
      exact ⟨rfl, hb1⟩
    · have h3 : 60 < len := by omega
      clear h
      by_cases h4 : 100 < s.size
      · have h5 : ¬ s.size ≤ 512 := by omega
        clear h1
        go_enter Tryd.func8, Tryd.ntmps8
        go_wp2_with (go_at_call 32; refine (plated_any A _ HE.out.toE).mono ?_; rintro e w1 ⟨rfl, hb1⟩)
        go_ret
        exact ⟨rfl, hb1⟩
      · clear h1
        go_enter Tryd.func8, Tryd.ntmps8
        go_wp2_with (go_at_call 32; refine (plated_any A _ HE.out.toE).mono ?_; rintro e w1 ⟨rfl, hb1⟩)
        go_ret
        exact ⟨rfl, hb1⟩
end Go.Proofs.YtkbbjkiinpimiaaDoor
