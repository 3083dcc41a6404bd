/-
  A LIST OF FRAMES THAT CAME IN, opened.
-/
import Derived.Test.YtkopfpaldmapdaaDoorKJ
import Derived.Test.YtkopfpaldmapdaaDoorL1
import Derived.Deep.Slices
namespace Go.Proofs.YtkopfpaldmapdaaDoor
open Go.ChangeShapes Go.WideShapes Go.RowKit

set_option maxRecDepth 100000 in
theorem frs_of_trod {H : Type} {enc : TypeId × Value → H} {W : World} {a : Option Addr} {len cap fuel : Nat} {d : DataW H} {p : List MemPlace} {sp : Nat → Bool} {held : Bool}
    (hf : DataW.trod enc Tryd.prog W 0 sp held fuel 40 (Value.slice a len cap).cells.toList = some (d, p)) : ∃ L : List F9, L.length = len ∧ L.length ≤ maxLen ∧ FL W a L := by
  rcases Deep.open_slice Tryd.underlying40 hf with ⟨hcs, _⟩ | ⟨x, l, c, m, n, D, Pl, hcs, _, hl, hm, hmm, _, hx⟩
  · simp [Value.cells] at hcs
    obtain ⟨rfl, rfl, rfl⟩ := hcs
    exact ⟨[], rfl, Nat.zero_le _, FL.nil _ _⟩
  · simp [Value.cells] at hcs
    obtain ⟨rfl, rfl, rfl⟩ := hcs
    have hlm : len ≤ m := by rw [hmm]; split <;> omega
    have each : ∀ i, i < len → ∃ t : F9, ∃ b off, some x = some ⟨b, off, none⟩ ∧ ∀ j, j < 9 → W.cell? ⟨b, off + i * 9 + j, none⟩ = (f9L t)[j]? := by
      intro i hi
      obtain ⟨cs, h1, h2⟩ := hx i (by omega)
      obtain ⟨i0, i1, i2, i3, i4, b5, i6, i7, i8, rfl⟩ := fr_of_trod h2
      rw [cellsFr9] at h1
      obtain ⟨_, _, h3⟩ := World.cells?_some h1
      obtain ⟨b, off, spot⟩ := x
      obtain ⟨cs0, g3, g4⟩ := hx 0 (by omega)
      obtain ⟨t0, t1, t2, t3, t4, t5, t6, t7, t8, rfl⟩ := fr_of_trod g4
      rw [cellsFr9] at g3
      obtain ⟨_, _, g5⟩ := World.cells?_some g3
      have hz := g5 0 (by omega)
      have hsp : spot = none := by
        cases spot with
        | none => rfl
        | some k => unfold World.cell? Addr.add at hz; simp at hz; revert hz; split <;> simp
      subst hsp
      refine ⟨⟨i0, i1, i2, i3, i4, b5, i6, i7, i8⟩, b, off, rfl, fun j hj => ?_⟩
      have q := h3 j (by omega)
      simp only [Addr.add_lit] at q
      simpa [f9L] using q
    have : Inhabited F9 := ⟨⟨0, 0, 0, 0, 0, false, 0, 0, 0⟩⟩
    obtain ⟨f, hf⟩ := Deep.choose_lt each
    refine ⟨(List.range len).map f, by simp, by simp; omega, fun i h => ?_⟩
    have hi : i < len := by simpa using h
    simpa using hf i hi
end Go.Proofs.YtkopfpaldmapdaaDoor
