/-
  On the way to PAgainProof: HX2.
-/
import Derived.Test.YtadhpkopkkjmfaaGreatDoorBz20
set_option maxHeartbeats 8000000
set_option maxRecDepth 100000
namespace Go.Proofs.YtadhpkopkkjmfaaGreatDoor
open Go.ChangeShapes Go.WideShapes Go.RowKit
theorem isSlCap_of_trod {H : Type} {enc : TypeId × Value → H} {W : World} {a : Option Addr} {len cap fuel : Nat} {d : DataW H} {p : List MemPlace} {held : Bool}
    (hf : DataW.trod enc Tryz.prog W 0 (fun _ => true) held fuel 22 (Value.slice a len cap).cells.toList = some (d, p)) : len ≤ cap ∧ cap ≤ 9223372036854775807 ∧ (cap = 0 ∨ ∃ b off, a = some ⟨b, off, none⟩) := by
  rcases open_ints Tryz.underlying22 Tryz.underlying3 (by kernel_rfl) hf with ⟨hcs, _⟩ | ⟨x, l, c, zs, hcs, _, hl, hm, hz, _, hcell, hwz⟩
  · simp [Value.cells] at hcs
    obtain ⟨rfl, rfl, rfl⟩ := hcs
    exact ⟨Nat.le_refl _, by omega, .inl rfl⟩
  · simp [Value.cells] at hcs
    obtain ⟨rfl, rfl, rfl⟩ := hcs
    refine ⟨hl, by unfold maxLen at hm; omega, ?_⟩
    by_cases h0 : cap = 0
    · exact .inl h0
    · right
      have hx := hcell 0 (by rw [hz]; simp; omega)
      have hsp : x.spot = none := by
        cases hq : x.spot with
        | none => rfl
        | some k => unfold World.cell? Addr.add at hx; simp [hq] at hx; revert hx; split <;> simp
      obtain ⟨b, off, sp⟩ := x
      simp at hsp
      subst hsp
      exact ⟨b, off, rfl⟩
end Go.Proofs.YtadhpkopkkjmfaaGreatDoor
