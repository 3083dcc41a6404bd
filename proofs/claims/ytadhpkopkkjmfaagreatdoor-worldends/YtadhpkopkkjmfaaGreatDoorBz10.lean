/-
  On the way to WCommitsProof, WAgreesProof, WEndsProof, WWaitsProof: TM.
-/
import Derived.Test.YtadhpkopkkjmfaaGreatDoorBz1
import Derived.Test.YtadhpkopkkjmfaaGreatDoorBz3
set_option maxHeartbeats 8000000
set_option maxRecDepth 100000
namespace Go.Proofs.YtadhpkopkkjmfaaGreatDoor
open Go.RowKit
theorem rmay_yes (a b : Nat) (w : World) (h : mayN a b) : Calls Tryz.prog 27 #[.int .i64 (a : Int), .int .i64 (b : Int)] w fun e w' => e = .returned (.bool true) ∧ w' = w := by
  obtain ⟨ha, hb, h⟩ := h
  have a5 : (a : Int) ≤ 5 := by omega
  have b5 : (b : Int) ≤ 5 := by omega
  by_cases e : a = b
  · subst e
    clear h
    go_enter Tryz.func27, Tryz.ntmps27
    go_wp2_with fail
    go_ret
    exact ⟨rfl, rfl⟩
  · have ne : ¬ (a : Int) = (b : Int) := by omega
    rcases (by omega : a = 0 ∨ (a = 1 ∧ ¬ b = 0) ∨ (a = 4 ∧ ¬ b = 0 ∧ ¬ b = 1) ∨ (a = 5 ∧ ¬ b = 0 ∧ ¬ b = 1)) with rfl | ⟨rfl, h0⟩ | ⟨rfl, h0, h1⟩ | ⟨rfl, h0, h1⟩
    · clear h
      have ne2 : ¬ (0 : Int) = (b : Int) := by omega
      go_enter Tryz.func27, Tryz.ntmps27
      go_wp2_with fail
      go_ret
      exact ⟨rfl, rfl⟩
    · clear h
      have ne2 : ¬ (1 : Int) = (b : Int) := by omega
      have n0 : ¬ (b : Int) = 0 := by omega
      have e0 : ((b : Int) != 0) = true := bne_iff_ne.2 n0
      go_enter Tryz.func27, Tryz.ntmps27
      go_wp2_with fail
      go_ret
      exact ⟨by simp [*], rfl⟩
    · clear h
      have ne2 : ¬ (4 : Int) = (b : Int) := by omega
      have n0 : ¬ (b : Int) = 0 := by omega
      have n1 : ¬ (b : Int) = 1 := by omega
      have e0 : ((b : Int) != 0) = true := bne_iff_ne.2 n0
      have e1 : ((b : Int) != 1) = true := bne_iff_ne.2 n1
      go_enter Tryz.func27, Tryz.ntmps27
      go_wp2_with fail
      go_ret
      exact ⟨by simp [*], rfl⟩
    · clear h
      have ne2 : ¬ (5 : Int) = (b : Int) := by omega
      have n0 : ¬ (b : Int) = 0 := by omega
      have n1 : ¬ (b : Int) = 1 := by omega
      have e0 : ((b : Int) != 0) = true := bne_iff_ne.2 n0
      have e1 : ((b : Int) != 1) = true := bne_iff_ne.2 n1
      go_enter Tryz.func27, Tryz.ntmps27
      go_wp2_with fail
      go_ret
      exact ⟨by simp [*], rfl⟩
end Go.Proofs.YtadhpkopkkjmfaaGreatDoor
