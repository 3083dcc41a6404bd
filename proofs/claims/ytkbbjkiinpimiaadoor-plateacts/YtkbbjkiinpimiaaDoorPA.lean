/-
  THE LAW PlateActs, whatever comes in; a list of acts that came in, opened.
-/
import Derived.Test.YtkbbjkiinpimiaaDoorPN
import Derived.Test.YtkbbjkiinpimiaaDoorHeld9
import Derived.Deep.Slices
namespace Go.Proofs.YtkbbjkiinpimiaaDoor
open Go.ChangeShapes Go.WideShapes Go.RowKit

theorem acts_any (A : Nat → Addr) (s : ByteArray) (size : Int) (ad : Option Addr) (cap : Nat) (xs : List Act4) (w : World) (hE : Held9 w A) (hs : s.size ≤ maxLen) (hm : xs.length ≤ maxLen) (hx : ActsIn w ad xs) :
    Calls Tryd.prog 8 #[.string s, .int .i64 size, .slice ad xs.length cap] w fun e w' => e = .returned (.bool true) ∧ Below w.heap.size w w' := by
  unfold maxLen at hs hm
  by_cases h : (100 < s.size ∧ s.size ≤ 512) ∨ 1000 < s.size ∨ 60 < xs.length
  · exact acts_early A s size ad xs.length cap w hE hs hm h
  · by_cases h2 : 512 < s.size
    · exact acts_big A s size ad xs.length cap w hE (by omega) (by omega) h2
    · exact acts_small A s size ad cap xs w hE hx (by omega) (by omega)

theorem cellsAct : Tryd.prog.cellsOf 60 = 4 := by kernel_rfl
theorem cellsInt : Tryd.prog.cellsOf 3 = 1 := by kernel_rfl
theorem list4 {α : Type} : ∀ (l : List α), l.length = 4 → ∃ a b c d, l = [a, b, c, d]
  | [a, b, c, d], _ => ⟨a, b, c, d, rfl⟩
theorem act_of_trod {H : Type} {enc : TypeId × Value → H} {W : World} {base fuel : Nat} {cs : List Value} {x : DataW H × List MemPlace} {sp : Nat → Bool} {held : Bool}
    (h : DataW.trod enc Tryd.prog W base sp held fuel 60 cs = some x) : ∃ t : Act4, cs = [.string t.kind, .string t.b, .int .i64 t.at_, .int .i64 t.n] ∧ t.n ≤ 9223372036854775807 ∧ t.b.size ≤ 9223372036854775807 := by
  obtain ⟨ys, n, _, _, hl, hlen, hf⟩ := DataW.trod_struct Tryd.underlying60 h
  rw [cellsAct] at hl
  obtain ⟨c0, c1, c2, c3, rfl⟩ := list4 cs hl
  obtain ⟨y0, y1, y2, y3, rfl⟩ := list4 ys hlen
  · · have f0 : DataW.trod enc Tryd.prog W base sp held n 9 (([c0, c1, c2, c3].drop 0).take (Tryd.prog.cellsOf 9)) = some y0 := hf 0 _ rfl
      have f1 : DataW.trod enc Tryd.prog W base sp held n 9 (([c0, c1, c2, c3].drop 1).take (Tryd.prog.cellsOf 9)) = some y1 := hf 1 _ rfl
      have f2 : DataW.trod enc Tryd.prog W base sp held n 3 (([c0, c1, c2, c3].drop 2).take (Tryd.prog.cellsOf 3)) = some y2 := hf 2 _ rfl
      have f3 : DataW.trod enc Tryd.prog W base sp held n 3 (([c0, c1, c2, c3].drop 3).take (Tryd.prog.cellsOf 3)) = some y3 := hf 3 _ rfl
      rw [cellsString] at f0 f1
      rw [cellsInt] at f2 f3
      obtain ⟨s0, e0, _, _⟩ := DataW.trod_string Tryd.underlying9 f0
      obtain ⟨s1, e1, _, m1⟩ := DataW.trod_string Tryd.underlying9 f1
      obtain ⟨i2, e2, _, _⟩ := DataW.trod_int Tryd.underlying3 f2
      obtain ⟨i3, e3, _, w3⟩ := DataW.trod_int Tryd.underlying3 f3
      simp at e0 e1 e2 e3
      subst e0 e1 e2 e3
      refine ⟨⟨s0, s1, i2, i3⟩, rfl, ?_, by unfold maxLen at m1; exact m1⟩
      show i3 ≤ 9223372036854775807
      have hmx : IntKind.i64.max = 9223372036854775807 := by decide
      have hw : decide (IntKind.i64.min ≤ i3) = true ∧ decide (i3 ≤ IntKind.i64.max) = true := by simpa only [Lit.wf, Bool.and_eq_true] using w3
      have h2 := of_decide_eq_true hw.2
      rw [hmx] at h2
      exact h2
set_option maxRecDepth 100000 in
theorem acts_of_trod {H : Type} {enc : TypeId × Value → H} {W : World} {a : Option Addr} {len cap fuel : Nat} {d : DataW H} {p : List MemPlace} {sp : Nat → Bool} {held : Bool}
    (hf : DataW.trod enc Tryd.prog W 0 sp held fuel 49 (Value.slice a len cap).cells.toList = some (d, p)) : ∃ xs : List Act4, xs.length = len ∧ xs.length ≤ maxLen ∧ ActsIn W a xs := by
  rcases Deep.open_slice Tryd.underlying49 hf with ⟨hcs, _⟩ | ⟨x, l, c, m, n, D, Pl, hcs, _, hl, hm, hmm, _, hx⟩
  · simp [Value.cells] at hcs
    obtain ⟨rfl, rfl, rfl⟩ := hcs
    exact ⟨[], rfl, Nat.zero_le _, fun i h => absurd h (Nat.not_lt_zero _)⟩
  · simp [Value.cells] at hcs
    obtain ⟨rfl, rfl, rfl⟩ := hcs
    have hlm : len ≤ m := by rw [hmm]; split <;> omega
    have each : ∀ i, i < len → ∃ t : Act4, ∃ b off, some x = some ⟨b, off, none⟩ ∧ W.cell? ⟨b, off + i * 4, none⟩ = some (.string t.kind) ∧ W.cell? ⟨b, off + i * 4 + 1, none⟩ = some (.string t.b) ∧
        W.cell? ⟨b, off + i * 4 + 2, none⟩ = some (.int .i64 t.at_) ∧ W.cell? ⟨b, off + i * 4 + 3, none⟩ = some (.int .i64 t.n) ∧ t.n ≤ 9223372036854775807 ∧ t.b.size ≤ 9223372036854775807 := by
      intro i hi
      obtain ⟨cs, h1, h2⟩ := hx i (by omega)
      obtain ⟨t, rfl, g1, g2⟩ := act_of_trod h2
      rw [cellsAct] at h1
      obtain ⟨_, _, h3⟩ := World.cells?_some h1
      have q0 := h3 0 (by omega)
      have q1 := h3 1 (by omega)
      have q2 := h3 2 (by omega)
      have q3 := h3 3 (by omega)
      obtain ⟨b, off, spot⟩ := x
      obtain ⟨cs0, g3, g4⟩ := hx 0 (by omega)
      obtain ⟨t0, rfl, _, _⟩ := act_of_trod g4
      rw [cellsAct] at g3
      obtain ⟨_, _, g5⟩ := World.cells?_some g3
      have hz := g5 0 (by omega)
      have hsp : spot = none := by
        cases spot with
        | none => rfl
        | some k => unfold World.cell? Addr.add at hz; simp at hz; revert hz; split <;> simp
      subst hsp
      simp only [Addr.add_lit] at q0 q1 q2 q3
      exact ⟨t, b, off, rfl, by simpa using q0, by simpa using q1, by simpa using q2, by simpa using q3, g1, g2⟩
    have : Inhabited Act4 := ⟨⟨⟨#[]⟩, ⟨#[]⟩, 0, 0⟩⟩
    obtain ⟨f, hf⟩ := Deep.choose_lt each
    refine ⟨(List.range len).map f, by simp, by simp; omega, fun i h => ?_⟩
    have hi : i < len := by simpa using h
    simpa using hf i hi
end Go.Proofs.YtkbbjkiinpimiaaDoor
