/-
  A FRAME THAT CAME IN, opened.
-/
import Derived.Test.YtkopfpaldmapdaaDoorJX
import Derived.Test.YtkopfpaldmapdaaDoorKV
namespace Go.Proofs.YtkopfpaldmapdaaDoor
open Go.ChangeShapes Go.WideShapes Go.RowKit

theorem cellsFr9 : Tryd.prog.cellsOf 36 = 9 := by kernel_rfl
theorem listOf7 {α : Type} : ∀ (l : List α), l.length = 7 → ∃ a b c d e f g, l = [a, b, c, d, e, f, g]
  | [a, b, c, d, e, f, g], _ => ⟨a, b, c, d, e, f, g, rfl⟩
theorem listOf9 {α : Type} : ∀ (l : List α), l.length = 9 → ∃ a b c d e f g h i, l = [a, b, c, d, e, f, g, h, i]
  | [a, b, c, d, e, f, g, h, i], _ => ⟨a, b, c, d, e, f, g, h, i, rfl⟩
set_option maxRecDepth 100000 in
theorem fr_of_trod {H : Type} {enc : TypeId × Value → H} {W : World} {base fuel : Nat} {cs : List Value} {x : DataW H × List MemPlace} {sp : Nat → Bool} {held : Bool}
    (h : DataW.trod enc Tryd.prog W base sp held fuel 36 cs = some x) : ∃ (f t d k a : Int) (y : Bool) (ph pr pa : Int), cs = [.int .i64 f, .int .i64 t, .int .i64 d, .int .i64 k, .int .i64 a, .bool y, .int .i64 ph, .int .i64 pr, .int .i64 pa] := by
  obtain ⟨ys, n, _, _, hl, hlen, hf⟩ := DataW.trod_struct Tryd.underlying36 h
  rw [cellsFr9] at hl
  obtain ⟨c0, c1, c2, c3, c4, c5, c6, c7, c8, rfl⟩ := listOf9 cs hl
  obtain ⟨y0, y1, y2, y3, y4, y5, y6, rfl⟩ := listOf7 ys hlen
  have f0 : DataW.trod enc Tryd.prog W base sp held n 3 (([c0, c1, c2, c3, c4, c5, c6, c7, c8].drop 0).take (Tryd.prog.cellsOf 3)) = some y0 := hf 0 _ rfl
  have f1 : DataW.trod enc Tryd.prog W base sp held n 3 (([c0, c1, c2, c3, c4, c5, c6, c7, c8].drop 1).take (Tryd.prog.cellsOf 3)) = some y1 := hf 1 _ rfl
  have f2 : DataW.trod enc Tryd.prog W base sp held n 3 (([c0, c1, c2, c3, c4, c5, c6, c7, c8].drop 2).take (Tryd.prog.cellsOf 3)) = some y2 := hf 2 _ rfl
  have f3 : DataW.trod enc Tryd.prog W base sp held n 3 (([c0, c1, c2, c3, c4, c5, c6, c7, c8].drop 3).take (Tryd.prog.cellsOf 3)) = some y3 := hf 3 _ rfl
  have f4 : DataW.trod enc Tryd.prog W base sp held n 3 (([c0, c1, c2, c3, c4, c5, c6, c7, c8].drop 4).take (Tryd.prog.cellsOf 3)) = some y4 := hf 4 _ rfl
  have f5 : DataW.trod enc Tryd.prog W base sp held n 4 (([c0, c1, c2, c3, c4, c5, c6, c7, c8].drop 5).take (Tryd.prog.cellsOf 4)) = some y5 := hf 5 _ rfl
  have f6 : DataW.trod enc Tryd.prog W base sp held n 34 (([c0, c1, c2, c3, c4, c5, c6, c7, c8].drop 6).take (Tryd.prog.cellsOf 34)) = some y6 := hf 6 _ rfl
  rw [cellsInt1] at f0 f1 f2 f3 f4
  rw [cellsBool1] at f5
  rw [cellsSt3] at f6
  obtain ⟨i0, e0, _, _⟩ := DataW.trod_int Tryd.underlying3 f0
  obtain ⟨i1, e1, _, _⟩ := DataW.trod_int Tryd.underlying3 f1
  obtain ⟨i2, e2, _, _⟩ := DataW.trod_int Tryd.underlying3 f2
  obtain ⟨i3, e3, _, _⟩ := DataW.trod_int Tryd.underlying3 f3
  obtain ⟨i4, e4, _, _⟩ := DataW.trod_int Tryd.underlying3 f4
  obtain ⟨b5, e5, _⟩ := DataW.trod_bool Tryd.underlying4 f5
  obtain ⟨s0, s1, s2, es⟩ := st_of_trod f6
  simp at e0 e1 e2 e3 e4 e5 es
  obtain ⟨es0, es1, es2⟩ := es
  subst e0 e1 e2 e3 e4 e5 es0 es1 es2
  exact ⟨i0, i1, i2, i3, i4, b5, s0, s1, s2, rfl⟩
set_option maxRecDepth 100000 in
theorem fr_of_arg {H : Type} {enc : TypeId × Value → H} {W : World} {r : Reach} {base b2 fuel : Nat} {v : Value} {x : DataW H × List MemPlace} {sp : Nat → Bool} {held : Bool}
    (hv : Value.okWide Tryd.prog W r b2 36 v) (h : DataW.trod enc Tryd.prog W base sp held fuel 36 v.cells.toList = some x) : ∃ (f t d k a : Int) (y : Bool) (ph pr pa : Int), v = frV f t d k a y ph pr pa := by
  obtain ⟨cs, rfl, _⟩ := okWide_struct Tryd.underlying36 hv
  obtain ⟨f, t, d, k, a, y, ph, pr, pa, hc⟩ := fr_of_trod h
  refine ⟨f, t, d, k, a, y, ph, pr, pa, ?_⟩
  have e : cs.toList = [.int .i64 f, .int .i64 t, .int .i64 d, .int .i64 k, .int .i64 a, .bool y, .int .i64 ph, .int .i64 pr, .int .i64 pa] := by simpa [Value.cells] using hc
  show Value.agg cs = _
  rw [show cs = #[.int .i64 f, .int .i64 t, .int .i64 d, .int .i64 k, .int .i64 a, .bool y, .int .i64 ph, .int .i64 pr, .int .i64 pa] from by rw [← Array.toArray_toList (xs := cs), e]]
end Go.Proofs.YtkopfpaldmapdaaDoor
