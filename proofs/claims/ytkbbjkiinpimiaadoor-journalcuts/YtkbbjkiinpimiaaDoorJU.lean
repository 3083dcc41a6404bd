/-
  A LIST OF PUTS THAT CAME IN, opened.
-/
import Derived.Test.YtkbbjkiinpimiaaDoorJS
import Derived.Test.YtkbbjkiinpimiaaDoorJX
import Derived.Deep.Slices
namespace Go.Proofs.YtkbbjkiinpimiaaDoor
open Go.ChangeShapes Go.WideShapes Go.RowKit

theorem cellsPut : Tryd.prog.cellsOf 76 = 6 := by kernel_rfl
theorem put_of_trod {H : Type} {enc : TypeId × Value → H} {W : World} {base fuel : Nat} {cs : List Value} {x : DataW H × List MemPlace} {sp : Nat → Bool} {held : Bool}
    (h : DataW.trod enc Tryd.prog W base sp held fuel 76 cs = some x) : ∃ t : Put6, cs = [.int .i64 t.deal, .int .i64 t.ph, .int .i64 t.pr, .int .i64 t.at_, .int .i64 t.cut, .bool t.boot] ∧ t.cut ≤ 9223372036854775807 := by
  obtain ⟨ys, n, _, _, hl, hlen, hf⟩ := DataW.trod_struct Tryd.underlying76 h
  rw [cellsPut] at hl
  obtain ⟨c0, c1, c2, c3, c4, c5, rfl⟩ := listOf6 cs hl
  obtain ⟨y0, y1, y2, y3, rfl⟩ := listOf4 ys hlen
  have f0 : DataW.trod enc Tryd.prog W base sp held n 3 (([c0, c1, c2, c3, c4, c5].drop 0).take (Tryd.prog.cellsOf 3)) = some y0 := hf 0 _ rfl
  have f1 : DataW.trod enc Tryd.prog W base sp held n 74 (([c0, c1, c2, c3, c4, c5].drop 1).take (Tryd.prog.cellsOf 74)) = some y1 := hf 1 _ rfl
  have f2 : DataW.trod enc Tryd.prog W base sp held n 3 (([c0, c1, c2, c3, c4, c5].drop 4).take (Tryd.prog.cellsOf 3)) = some y2 := hf 2 _ rfl
  have f3 : DataW.trod enc Tryd.prog W base sp held n 4 (([c0, c1, c2, c3, c4, c5].drop 5).take (Tryd.prog.cellsOf 4)) = some y3 := hf 3 _ rfl
  rw [cellsInt1] at f0 f2
  rw [cellsSt3] at f1
  rw [cellsBool1] at f3
  obtain ⟨i0, e0, _, _⟩ := DataW.trod_int Tryd.underlying3 f0
  obtain ⟨s0, s1, s2, es⟩ := st_of_trod f1
  obtain ⟨i2, e2, _, w2⟩ := DataW.trod_int Tryd.underlying3 f2
  obtain ⟨b3, e3, _⟩ := DataW.trod_bool Tryd.underlying4 f3
  simp at e0 es e2 e3
  obtain ⟨es0, es1, es2⟩ := es
  subst e0 es0 es1 es2 e2 e3
  exact ⟨⟨i0, s0, s1, s2, i2, b3⟩, rfl, int_le_of_wf w2⟩
set_option maxRecDepth 100000 in
theorem puts_of_trod {H : Type} {enc : TypeId × Value → H} {W : World} {a : Option Addr} {len cap fuel : Nat} {d : DataW H} {p : List MemPlace} {sp : Nat → Bool} {held : Bool}
    (hf : DataW.trod enc Tryd.prog W 0 sp held fuel 68 (Value.slice a len cap).cells.toList = some (d, p)) : ∃ xs : List Put6, xs.length = len ∧ xs.length ≤ maxLen ∧ PutsIn W a xs := by
  rcases Deep.open_slice Tryd.underlying68 hf with ⟨hcs, _⟩ | ⟨x, l, c, m, n, D, Pl, hcs, _, hl, hm, hmm, _, hx⟩
  · simp [Value.cells] at hcs
    obtain ⟨rfl, rfl, rfl⟩ := hcs
    exact ⟨[], rfl, Nat.zero_le _, fun i h => absurd h (Nat.not_lt_zero _)⟩
  · simp [Value.cells] at hcs
    obtain ⟨rfl, rfl, rfl⟩ := hcs
    have hlm : len ≤ m := by rw [hmm]; split <;> omega
    have each : ∀ i, i < len → ∃ t : Put6, ∃ b off, some x = some ⟨b, off, none⟩ ∧ W.cell? ⟨b, off + i * 6, none⟩ = some (.int .i64 t.deal) ∧ W.cell? ⟨b, off + i * 6 + 1, none⟩ = some (.int .i64 t.ph) ∧ W.cell? ⟨b, off + i * 6 + 2, none⟩ = some (.int .i64 t.pr) ∧
        W.cell? ⟨b, off + i * 6 + 3, none⟩ = some (.int .i64 t.at_) ∧ W.cell? ⟨b, off + i * 6 + 4, none⟩ = some (.int .i64 t.cut) ∧ W.cell? ⟨b, off + i * 6 + 5, none⟩ = some (.bool t.boot) ∧ t.cut ≤ 9223372036854775807 := by
      intro i hi
      obtain ⟨cs, h1, h2⟩ := hx i (by omega)
      obtain ⟨t, rfl, g1⟩ := put_of_trod h2
      rw [cellsPut] at h1
      obtain ⟨_, _, h3⟩ := World.cells?_some h1
      have q0 := h3 0 (by omega)
      have q1 := h3 1 (by omega)
      have q2 := h3 2 (by omega)
      have q3 := h3 3 (by omega)
      have q4 := h3 4 (by omega)
      have q5 := h3 5 (by omega)
      obtain ⟨b, off, spot⟩ := x
      obtain ⟨cs0, g3, g4⟩ := hx 0 (by omega)
      obtain ⟨t0, rfl, _⟩ := put_of_trod g4
      rw [cellsPut] at g3
      obtain ⟨_, _, g5⟩ := World.cells?_some g3
      have hz := g5 0 (by omega)
      have hsp : spot = none := by
        cases spot with
        | none => rfl
        | some k => unfold World.cell? Addr.add at hz; simp at hz; revert hz; split <;> simp
      subst hsp
      simp only [Addr.add_lit] at q0 q1 q2 q3 q4 q5
      exact ⟨t, b, off, rfl, by simpa using q0, by simpa using q1, by simpa using q2, by simpa using q3, by simpa using q4, by simpa using q5, g1⟩
    have : Inhabited Put6 := ⟨⟨0, 0, 0, 0, 0, false⟩⟩
    obtain ⟨f, hf⟩ := Deep.choose_lt each
    refine ⟨(List.range len).map f, by simp, by simp; omega, fun i h => ?_⟩
    have hi : i < len := by simpa using h
    simpa using hf i hi
end Go.Proofs.YtkbbjkiinpimiaaDoor
