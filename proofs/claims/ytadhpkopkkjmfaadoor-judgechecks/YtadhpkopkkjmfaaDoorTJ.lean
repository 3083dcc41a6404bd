/-
  A LIST OF STATES THAT CAME IN, opened.
-/
import Derived.Test.YtadhpkopkkjmfaaDoorJX
import Derived.Test.YtadhpkopkkjmfaaDoorTS
import Derived.Deep.Slices
namespace Go.Proofs.YtadhpkopkkjmfaaDoor
open Go.ChangeShapes Go.WideShapes Go.RowKit

set_option maxRecDepth 100000 in
theorem sts_of_trod {H : Type} {enc : TypeId × Value → H} {W : World} {a : Option Addr} {len cap fuel : Nat} {d : DataW H} {p : List MemPlace} {sp : Nat → Bool} {held : Bool}
    (hf : DataW.trod enc Tryd.prog W 0 sp held fuel 23 (Value.slice a len cap).cells.toList = some (d, p)) : ∃ L : List S3, L.length = len ∧ L.length ≤ maxLen ∧ L.length ≤ cap ∧ (a = none → cap = 0) ∧ SL W a L := by
  rcases Deep.open_slice Tryd.underlying23 hf with ⟨hcs, _⟩ | ⟨x, l, c, m, n, D, Pl, hcs, _, hl, hm, hmm, _, hx⟩
  · simp [Value.cells] at hcs
    obtain ⟨rfl, rfl, rfl⟩ := hcs
    exact ⟨[], rfl, Nat.zero_le _, Nat.zero_le _, fun _ => rfl, SL.nil _ _⟩
  · simp [Value.cells] at hcs
    obtain ⟨rfl, rfl, rfl⟩ := hcs
    have hlm : len ≤ m := by rw [hmm]; split <;> omega
    have each : ∀ i, i < len → ∃ t : S3, ∃ b off, some x = some ⟨b, off, none⟩ ∧ W.cell? ⟨b, off + i * 3, none⟩ = some (.int .i64 t.p) ∧ W.cell? ⟨b, off + i * 3 + 1, none⟩ = some (.int .i64 t.r) ∧ W.cell? ⟨b, off + i * 3 + 2, none⟩ = some (.int .i64 t.a) := by
      intro i hi
      obtain ⟨cs, h1, h2⟩ := hx i (by omega)
      obtain ⟨s0, s1, s2, rfl⟩ := st_of_trod h2
      rw [cellsSt3] at h1
      obtain ⟨_, _, h3⟩ := World.cells?_some h1
      have q0 := h3 0 (by omega)
      have q1 := h3 1 (by omega)
      have q2 := h3 2 (by omega)
      obtain ⟨b, off, spot⟩ := x
      obtain ⟨cs0, g3, g4⟩ := hx 0 (by omega)
      obtain ⟨t0, t1, t2, rfl⟩ := st_of_trod g4
      rw [cellsSt3] at g3
      obtain ⟨_, _, g5⟩ := World.cells?_some g3
      have hz := g5 0 (by omega)
      have hsp : spot = none := by
        cases spot with
        | none => rfl
        | some k => unfold World.cell? Addr.add at hz; simp at hz; revert hz; split <;> simp
      subst hsp
      simp only [Addr.add_lit] at q0 q1 q2
      exact ⟨⟨s0, s1, s2⟩, b, off, rfl, by simpa using q0, by simpa using q1, by simpa using q2⟩
    have : Inhabited S3 := ⟨⟨0, 0, 0⟩⟩
    obtain ⟨f, hf⟩ := Deep.choose_lt each
    refine ⟨(List.range len).map f, by simp, by simp; omega, by simpa using hl, (fun h => by cases h), fun i h => ?_⟩
    have hi : i < len := by simpa using h
    simpa using hf i hi
end Go.Proofs.YtadhpkopkkjmfaaDoor
