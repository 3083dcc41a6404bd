/-
  On the way to JTampersProof, PAgreesProof, PAgainProof: HX.
-/
import Derived.Test.YtadhpkopkkjmfaaGreatDoorBz6
set_option maxHeartbeats 8000000
set_option maxRecDepth 100000
namespace Go.Proofs.YtadhpkopkkjmfaaGreatDoor
open Go.ChangeShapes Go.WideShapes Go.RowKit
theorem int_top {n : Int} (w3 : (Lit.int .i64 n).wf = true) : n ≤ 9223372036854775807 := by
  have hmx : IntKind.i64.max = 9223372036854775807 := by decide
  have hw : decide (IntKind.i64.min ≤ n) = true ∧ decide (n ≤ IntKind.i64.max) = true := by simpa only [Lit.wf, Bool.and_eq_true] using w3
  have h2 := of_decide_eq_true hw.2
  rw [hmx] at h2
  exact h2
theorem isSlIn_of_trod {H : Type} {enc : TypeId × Value → H} {W : World} {a : Option Addr} {len cap fuel : Nat} {d : DataW H} {p : List MemPlace} {sp : Nat → Bool} {held : Bool}
    (hf : DataW.trod enc Tryz.prog W 0 sp held fuel 22 (Value.slice a len cap).cells.toList = some (d, p)) : ∃ zs, IsSl W (.slice a len cap) zs ∧ ∀ x, x ∈ zs → x ≤ 9223372036854775807 := by
  rcases open_ints Tryz.underlying22 Tryz.underlying3 (by kernel_rfl) hf with ⟨hcs, _⟩ | ⟨x, l, c, zs, hcs, _, hl, hm, hz, _, hcell, hwz⟩
  · simp [Value.cells] at hcs
    obtain ⟨rfl, rfl, rfl⟩ := hcs
    exact ⟨[], ⟨none, 0, rfl, by simp, fun _ => rfl, fun h => by cases h⟩, fun x h => by cases h⟩
  · simp [Value.cells] at hcs
    obtain ⟨rfl, rfl, rfl⟩ := hcs
    have hzl : len ≤ zs.length := by rw [hz]; split <;> omega
    have hlen : (zs.take len).length = len := by rw [List.length_take]; omega
    refine ⟨zs.take len, ⟨some x, cap, by rw [hlen], by omega, (fun h => by cases h), fun h0 => ?_⟩, fun x hx => int_top (hwz x (List.mem_of_mem_take hx))⟩
    rw [hlen] at h0
    have hx := hcell 0 (by omega)
    have hsp : x.spot = none := by
      cases hq : x.spot with
      | none => rfl
      | some k => unfold World.cell? Addr.add at hx; simp [hq] at hx; revert hx; split <;> simp
    obtain ⟨b, off, sp⟩ := x
    simp at hsp
    subst hsp
    refine ⟨b, off, rfl, fun i hi => ?_⟩
    rw [hlen] at hi
    have := hcell i (by omega)
    have e : (⟨b, off, none⟩ : Addr).add i = ⟨b, off + i, none⟩ := by unfold Addr.add; split <;> simp_all
    rw [e] at this
    rw [this]
    simp [List.getD, hi]
end Go.Proofs.YtadhpkopkkjmfaaGreatDoor
