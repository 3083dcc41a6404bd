/-
  NUMBERS AND STATES THAT CAME IN, opened.
  A FRAME THAT CAME IN, opened.
  A LIST OF A SITE's ACTS in memory, and as it came in.
  WHAT STANDS ALONG THE LAW SiteRises; the document's MayOf where it says yes.
  THE WALK of the law SiteRises.
-/
import Derived.Test.YtnnknplmjiahhabDoorBa1
import Derived.Test.YtnnknplmjiahhabDoorBa13
import Derived.Test.YtnnknplmjiahhabDoorBa15
import Derived.ChangeShapes
import Derived.WideShapes
import Derived.RowKit
import Derived.Deep.Slices
import Derived.Deep.CutBlock
namespace Go.Proofs.YtnnknplmjiahhabDoor
open Go.ChangeShapes Go.WideShapes Go.RowKit

theorem cellsSt3 : Tryd.prog.cellsOf 34 = 3 := by kernel_rfl
theorem cellsInt1 : Tryd.prog.cellsOf 3 = 1 := by kernel_rfl
theorem cellsBool1 : Tryd.prog.cellsOf 4 = 1 := by kernel_rfl
theorem listOf3 {α : Type} : ∀ (l : List α), l.length = 3 → ∃ a b c, l = [a, b, c]
  | [a, b, c], _ => ⟨a, b, c, rfl⟩
theorem listOf4 {α : Type} : ∀ (l : List α), l.length = 4 → ∃ a b c d, l = [a, b, c, d]
  | [a, b, c, d], _ => ⟨a, b, c, d, rfl⟩
theorem listOf6 {α : Type} : ∀ (l : List α), l.length = 6 → ∃ a b c d e f, l = [a, b, c, d, e, f]
  | [a, b, c, d, e, f], _ => ⟨a, b, c, d, e, f, rfl⟩
theorem int_le_of_wf {n : Int} (w3 : (Lit.int .i64 n).wf = true) : n ≤ 9223372036854775807 := by
  have hmx : IntKind.i64.max = 9223372036854775807 := by decide
  have hw : decide (IntKind.i64.min ≤ n) = true ∧ decide (n ≤ IntKind.i64.max) = true := by simpa only [Lit.wf, Bool.and_eq_true] using w3
  have h2 := of_decide_eq_true hw.2
  rw [hmx] at h2
  exact h2
theorem st_of_trod {H : Type} {enc : TypeId × Value → H} {W : World} {base fuel : Nat} {cs : List Value} {x : DataW H × List MemPlace} {sp : Nat → Bool} {held : Bool}
    (h : DataW.trod enc Tryd.prog W base sp held fuel 34 cs = some x) : ∃ a b c : Int, cs = [.int .i64 a, .int .i64 b, .int .i64 c] := by
  obtain ⟨ys, n, _, _, hl, hlen, hf⟩ := DataW.trod_struct Tryd.underlying34 h
  rw [cellsSt3] at hl
  obtain ⟨c0, c1, c2, rfl⟩ := listOf3 cs hl
  obtain ⟨y0, y1, y2, rfl⟩ := listOf3 ys hlen
  have f0 : DataW.trod enc Tryd.prog W base sp held n 3 (([c0, c1, c2].drop 0).take (Tryd.prog.cellsOf 3)) = some y0 := hf 0 _ rfl
  have f1 : DataW.trod enc Tryd.prog W base sp held n 3 (([c0, c1, c2].drop 1).take (Tryd.prog.cellsOf 3)) = some y1 := hf 1 _ rfl
  have f2 : DataW.trod enc Tryd.prog W base sp held n 3 (([c0, c1, c2].drop 2).take (Tryd.prog.cellsOf 3)) = some y2 := hf 2 _ rfl
  rw [cellsInt1] at f0 f1 f2
  obtain ⟨i0, e0, _, _⟩ := DataW.trod_int Tryd.underlying3 f0
  obtain ⟨i1, e1, _, _⟩ := DataW.trod_int Tryd.underlying3 f1
  obtain ⟨i2, e2, _, _⟩ := DataW.trod_int Tryd.underlying3 f2
  simp at e0 e1 e2
  subst e0 e1 e2
  exact ⟨i0, i1, i2, rfl⟩
end Go.Proofs.YtnnknplmjiahhabDoor
namespace Go.Proofs.YtnnknplmjiahhabDoor
open Go.ChangeShapes Go.WideShapes Go.RowKit

theorem cellsFr9 : Tryd.prog.cellsOf 36 = 9 := by kernel_rfl
theorem listOf7 {α : Type} : ∀ (l : List α), l.length = 7 → ∃ a b c d e f g, l = [a, b, c, d, e, f, g]
  | [a, b, c, d, e, f, g], _ => ⟨a, b, c, d, e, f, g, rfl⟩
theorem listOf9 {α : Type} : ∀ (l : List α), l.length = 9 → ∃ a b c d e f g h i, l = [a, b, c, d, e, f, g, h, i]
  | [a, b, c, d, e, f, g, h, i], _ => ⟨a, b, c, d, e, f, g, h, i, rfl⟩
set_option maxRecDepth 100000 in
theorem fr_of_trod {H : Type} {enc : TypeId × Value → H} {W : World} {base fuel : Nat} {cs : List Value} {x : DataW H × List MemPlace} {sp : Nat → Bool} {held : Bool}
    (h : DataW.trod enc Tryd.prog W base sp held fuel 36 cs = some x) : ∃ (f t d k a : Int) (y : Bool) (ph pr pa : Int), cs = [.int .i64 f, .int .i64 t, .int .i64 d, .int .i64 k, .int .i64 a, .bool y, .int .i64 ph, .int .i64 pr, .int .i64 pa] := by
  obtain ⟨ys, n, _, _, hl, hlen, hf⟩ := DataW.trod_struct Tryd.underlying36 h
  rw [cellsFr9] at hl
  obtain ⟨c0, c1, c2, c3, c4, c5, c6, c7, c8, rfl⟩ := listOf9 cs hl
  obtain ⟨y0, y1, y2, y3, y4, y5, y6, rfl⟩ := listOf7 ys hlen
  have f0 : DataW.trod enc Tryd.prog W base sp held n 3 (([c0, c1, c2, c3, c4, c5, c6, c7, c8].drop 0).take (Tryd.prog.cellsOf 3)) = some y0 := hf 0 _ rfl
  have f1 : DataW.trod enc Tryd.prog W base sp held n 3 (([c0, c1, c2, c3, c4, c5, c6, c7, c8].drop 1).take (Tryd.prog.cellsOf 3)) = some y1 := hf 1 _ rfl
  have f2 : DataW.trod enc Tryd.prog W base sp held n 3 (([c0, c1, c2, c3, c4, c5, c6, c7, c8].drop 2).take (Tryd.prog.cellsOf 3)) = some y2 := hf 2 _ rfl
  have f3 : DataW.trod enc Tryd.prog W base sp held n 3 (([c0, c1, c2, c3, c4, c5, c6, c7, c8].drop 3).take (Tryd.prog.cellsOf 3)) = some y3 := hf 3 _ rfl
  have f4 : DataW.trod enc Tryd.prog W base sp held n 3 (([c0, c1, c2, c3, c4, c5, c6, c7, c8].drop 4).take (Tryd.prog.cellsOf 3)) = some y4 := hf 4 _ rfl
  have f5 : DataW.trod enc Tryd.prog W base sp held n 4 (([c0, c1, c2, c3, c4, c5, c6, c7, c8].drop 5).take (Tryd.prog.cellsOf 4)) = some y5 := hf 5 _ rfl
  have f6 : DataW.trod enc Tryd.prog W base sp held n 34 (([c0, c1, c2, c3, c4, c5, c6, c7, c8].drop 6).take (Tryd.prog.cellsOf 34)) = some y6 := hf 6 _ rfl
  rw [cellsInt1] at f0 f1 f2 f3 f4
  rw [cellsBool1] at f5
  rw [cellsSt3] at f6
  obtain ⟨i0, e0, _, _⟩ := DataW.trod_int Tryd.underlying3 f0
  obtain ⟨i1, e1, _, _⟩ := DataW.trod_int Tryd.underlying3 f1
  obtain ⟨i2, e2, _, _⟩ := DataW.trod_int Tryd.underlying3 f2
  obtain ⟨i3, e3, _, _⟩ := DataW.trod_int Tryd.underlying3 f3
  obtain ⟨i4, e4, _, _⟩ := DataW.trod_int Tryd.underlying3 f4
  obtain ⟨b5, e5, _⟩ := DataW.trod_bool Tryd.underlying4 f5
  obtain ⟨s0, s1, s2, es⟩ := st_of_trod f6
  simp at e0 e1 e2 e3 e4 e5 es
  obtain ⟨es0, es1, es2⟩ := es
  subst e0 e1 e2 e3 e4 e5 es0 es1 es2
  exact ⟨i0, i1, i2, i3, i4, b5, s0, s1, s2, rfl⟩
set_option maxRecDepth 100000 in
theorem fr_of_arg {H : Type} {enc : TypeId × Value → H} {W : World} {r : Reach} {base b2 fuel : Nat} {v : Value} {x : DataW H × List MemPlace} {sp : Nat → Bool} {held : Bool}
    (hv : Value.okWide Tryd.prog W r b2 36 v) (h : DataW.trod enc Tryd.prog W base sp held fuel 36 v.cells.toList = some x) : ∃ (f t d k a : Int) (y : Bool) (ph pr pa : Int), v = frV f t d k a y ph pr pa := by
  obtain ⟨cs, rfl, _⟩ := okWide_struct Tryd.underlying36 hv
  obtain ⟨f, t, d, k, a, y, ph, pr, pa, hc⟩ := fr_of_trod h
  refine ⟨f, t, d, k, a, y, ph, pr, pa, ?_⟩
  have e : cs.toList = [.int .i64 f, .int .i64 t, .int .i64 d, .int .i64 k, .int .i64 a, .bool y, .int .i64 ph, .int .i64 pr, .int .i64 pa] := by simpa [Value.cells] using hc
  show Value.agg cs = _
  rw [show cs = #[.int .i64 f, .int .i64 t, .int .i64 d, .int .i64 k, .int .i64 a, .bool y, .int .i64 ph, .int .i64 pr, .int .i64 pa] from by rw [← Array.toArray_toList (xs := cs), e]]
end Go.Proofs.YtnnknplmjiahhabDoor
namespace Go.Proofs.YtnnknplmjiahhabDoor
open Go.ChangeShapes Go.WideShapes Go.RowKit

/-- An act of the laws' list. -/
structure Act12 where
  kind : ByteArray
  f : Int
  t : Int
  d : Int
  k : Int
  a : Int
  y : Bool
  ph : Int
  pr : Int
  pa : Int
  deal : Int
  n : Int
def act12L (x : Act12) : List Value := [.string x.kind, .int .i64 x.f, .int .i64 x.t, .int .i64 x.d, .int .i64 x.k, .int .i64 x.a, .bool x.y, .int .i64 x.ph, .int .i64 x.pr, .int .i64 x.pa, .int .i64 x.deal, .int .i64 x.n]
/-- The acts xs lie behind the address. -/
def SActsIn (w : World) (ad : Option Addr) (xs : List Act12) : Prop := ∀ i (h : i < xs.length), ∃ b off, ad = some ⟨b, off, none⟩ ∧ (∀ j, j < 12 → w.cell? ⟨b, off + i * 12 + j, none⟩ = (act12L (xs[i]'h))[j]?) ∧ (xs[i]'h).n ≤ 9223372036854775807
theorem twelve {w : World} {b o : Nat} {x : Act12} (h : ∀ j, j < 12 → w.cell? ⟨b, o + j, none⟩ = (act12L x)[j]?) :
    w.cell? ⟨b, o, none⟩ = some (.string x.kind) ∧ w.cell? ⟨b, o + 1, none⟩ = some (.int .i64 x.f) ∧ w.cell? ⟨b, o + 2, none⟩ = some (.int .i64 x.t) ∧ w.cell? ⟨b, o + 3, none⟩ = some (.int .i64 x.d) ∧ w.cell? ⟨b, o + 4, none⟩ = some (.int .i64 x.k) ∧ w.cell? ⟨b, o + 5, none⟩ = some (.int .i64 x.a) ∧
    w.cell? ⟨b, o + 6, none⟩ = some (.bool x.y) ∧ w.cell? ⟨b, o + 7, none⟩ = some (.int .i64 x.ph) ∧ w.cell? ⟨b, o + 8, none⟩ = some (.int .i64 x.pr) ∧ w.cell? ⟨b, o + 9, none⟩ = some (.int .i64 x.pa) ∧ w.cell? ⟨b, o + 10, none⟩ = some (.int .i64 x.deal) ∧ w.cell? ⟨b, o + 11, none⟩ = some (.int .i64 x.n) :=
  ⟨h 0 (by omega), h 1 (by omega), h 2 (by omega), h 3 (by omega), h 4 (by omega), h 5 (by omega), h 6 (by omega), h 7 (by omega), h 8 (by omega), h 9 (by omega), h 10 (by omega), h 11 (by omega)⟩
theorem twelveR {w : World} {g : Nat} {k : ByteArray} {f t d kk a : Int} {y : Bool} {ph pr pa dl n : Int} {ty : TypeId} {fr : Nat × Nat} (h : w.heap[g]? = some (.cells #[.string k, .int .i64 f, .int .i64 t, .int .i64 d, .int .i64 kk, .int .i64 a, .bool y, .int .i64 ph, .int .i64 pr, .int .i64 pa, .int .i64 dl, .int .i64 n] ty fr)) :
    w.cell? ⟨g, 0, none⟩ = some (.string k) ∧ w.cell? ⟨g, 1, none⟩ = some (.int .i64 f) ∧ w.cell? ⟨g, 2, none⟩ = some (.int .i64 t) ∧ w.cell? ⟨g, 3, none⟩ = some (.int .i64 d) ∧ w.cell? ⟨g, 4, none⟩ = some (.int .i64 kk) ∧ w.cell? ⟨g, 5, none⟩ = some (.int .i64 a) ∧
    w.cell? ⟨g, 6, none⟩ = some (.bool y) ∧ w.cell? ⟨g, 7, none⟩ = some (.int .i64 ph) ∧ w.cell? ⟨g, 8, none⟩ = some (.int .i64 pr) ∧ w.cell? ⟨g, 9, none⟩ = some (.int .i64 pa) ∧ w.cell? ⟨g, 10, none⟩ = some (.int .i64 dl) ∧ w.cell? ⟨g, 11, none⟩ = some (.int .i64 n) := by
  refine ⟨?_, ?_, ?_, ?_, ?_, ?_, ?_, ?_, ?_, ?_, ?_, ?_⟩ <;> rw [cell_of_row _ _ _ _ _ _ h] <;> rfl
theorem cellsSAct : Tryd.prog.cellsOf 38 = 12 := by kernel_rfl
theorem cellsStr1 : Tryd.prog.cellsOf 9 = 1 := by kernel_rfl
theorem listOf12 {α : Type} : ∀ (l : List α), l.length = 12 → ∃ a b c d e f g h i j k m, l = [a, b, c, d, e, f, g, h, i, j, k, m]
  | [a, b, c, d, e, f, g, h, i, j, k, m], _ => ⟨a, b, c, d, e, f, g, h, i, j, k, m, rfl⟩
set_option maxRecDepth 100000 in
theorem sact_of_trod {H : Type} {enc : TypeId × Value → H} {W : World} {base fuel : Nat} {cs : List Value} {x : DataW H × List MemPlace} {sp : Nat → Bool} {held : Bool}
    (h : DataW.trod enc Tryd.prog W base sp held fuel 38 cs = some x) : ∃ t : Act12, cs = act12L t ∧ t.n ≤ 9223372036854775807 := by
  obtain ⟨ys, n, _, _, hl, hlen, hf⟩ := DataW.trod_struct Tryd.underlying38 h
  rw [cellsSAct] at hl
  obtain ⟨c0, c1, c2, c3, c4, c5, c6, c7, c8, c9, c10, c11, rfl⟩ := listOf12 cs hl
  obtain ⟨y0, y1, y2, y3, rfl⟩ := listOf4 ys hlen
  have f0 : DataW.trod enc Tryd.prog W base sp held n 9 (([c0, c1, c2, c3, c4, c5, c6, c7, c8, c9, c10, c11].drop 0).take (Tryd.prog.cellsOf 9)) = some y0 := hf 0 _ rfl
  have f1 : DataW.trod enc Tryd.prog W base sp held n 36 (([c0, c1, c2, c3, c4, c5, c6, c7, c8, c9, c10, c11].drop 1).take (Tryd.prog.cellsOf 36)) = some y1 := hf 1 _ rfl
  have f2 : DataW.trod enc Tryd.prog W base sp held n 3 (([c0, c1, c2, c3, c4, c5, c6, c7, c8, c9, c10, c11].drop 10).take (Tryd.prog.cellsOf 3)) = some y2 := hf 2 _ rfl
  have f3 : DataW.trod enc Tryd.prog W base sp held n 3 (([c0, c1, c2, c3, c4, c5, c6, c7, c8, c9, c10, c11].drop 11).take (Tryd.prog.cellsOf 3)) = some y3 := hf 3 _ rfl
  rw [cellsInt1] at f2 f3
  rw [cellsFr9] at f1
  rw [cellsStr1] at f0
  obtain ⟨s0, e0, _, _⟩ := DataW.trod_string Tryd.underlying9 f0
  obtain ⟨i1, i2, i3, i4, i5, b6, i7, i8, i9, e1⟩ := fr_of_trod f1
  obtain ⟨i10, e2, _, _⟩ := DataW.trod_int Tryd.underlying3 f2
  obtain ⟨i11, e3, _, w3⟩ := DataW.trod_int Tryd.underlying3 f3
  simp at e0 e1 e2 e3
  obtain ⟨g1, g2, g3, g4, g5, g6, g7, g8, g9⟩ := e1
  subst e0 g1 g2 g3 g4 g5 g6 g7 g8 g9 e2 e3
  exact ⟨⟨s0, i1, i2, i3, i4, i5, b6, i7, i8, i9, i10, i11⟩, rfl, int_le_of_wf w3⟩
set_option maxRecDepth 100000 in
theorem sacts_of_trod {H : Type} {enc : TypeId × Value → H} {W : World} {a : Option Addr} {len cap fuel : Nat} {d : DataW H} {p : List MemPlace} {sp : Nat → Bool} {held : Bool}
    (hf : DataW.trod enc Tryd.prog W 0 sp held fuel 22 (Value.slice a len cap).cells.toList = some (d, p)) : ∃ xs : List Act12, xs.length = len ∧ xs.length ≤ maxLen ∧ SActsIn W a xs := by
  rcases Deep.open_slice Tryd.underlying22 hf with ⟨hcs, _⟩ | ⟨x, l, c, m, n, D, Pl, hcs, _, hl, hm, hmm, _, hx⟩
  · simp [Value.cells] at hcs
    obtain ⟨rfl, rfl, rfl⟩ := hcs
    exact ⟨[], rfl, Nat.zero_le _, fun i h => absurd h (Nat.not_lt_zero _)⟩
  · simp [Value.cells] at hcs
    obtain ⟨rfl, rfl, rfl⟩ := hcs
    have hlm : len ≤ m := by rw [hmm]; split <;> omega
    have each : ∀ i, i < len → ∃ t : Act12, ∃ b off, some x = some ⟨b, off, none⟩ ∧ (∀ j, j < 12 → W.cell? ⟨b, off + i * 12 + j, none⟩ = (act12L t)[j]?) ∧ t.n ≤ 9223372036854775807 := by
      intro i hi
      obtain ⟨cs, h1, h2⟩ := hx i (by omega)
      obtain ⟨t, rfl, g1⟩ := sact_of_trod h2
      rw [cellsSAct] at h1
      obtain ⟨_, _, h3⟩ := World.cells?_some h1
      obtain ⟨b, off, spot⟩ := x
      obtain ⟨cs0, g3, g4⟩ := hx 0 (by omega)
      obtain ⟨t0, rfl, _⟩ := sact_of_trod g4
      rw [cellsSAct] at g3
      obtain ⟨_, _, g5⟩ := World.cells?_some g3
      have hz := g5 0 (by omega)
      have hsp : spot = none := by
        cases spot with
        | none => rfl
        | some k => unfold World.cell? Addr.add at hz; simp [act12L] at hz; revert hz; split <;> simp
      subst hsp
      refine ⟨t, b, off, rfl, fun j hj => ?_, g1⟩
      have q := h3 j hj
      simp only [Addr.add_lit] at q
      exact q
    have : Inhabited Act12 := ⟨⟨⟨#[]⟩, 0, 0, 0, 0, 0, false, 0, 0, 0, 0, 0⟩⟩
    obtain ⟨f, hf⟩ := Deep.choose_lt each
    refine ⟨(List.range len).map f, by simp, by simp; omega, fun i h => ?_⟩
    have hi : i < len := by simpa using h
    simpa using hf i hi
end Go.Proofs.YtnnknplmjiahhabDoor
namespace Go.Proofs.YtnnknplmjiahhabDoor
open Go.RowKit

theorem rmay_yes (a b : Nat) (w : World) (h : mayN a b) : Calls Tryd.prog 14 #[.int .i64 (a : Int), .int .i64 (b : Int)] w fun e w' => e = .returned (.bool true) ∧ w' = w := by
  obtain ⟨ha, hb, h⟩ := h
  have a5 : (a : Int) ≤ 5 := by omega
  have b5 : (b : Int) ≤ 5 := by omega
  by_cases e : a = b
  · subst e
    clear h
    go_enter Tryd.func14, Tryd.ntmps14
    go_wp2_with fail
    go_ret
    exact ⟨rfl, rfl⟩
  · have ne : ¬ (a : Int) = (b : Int) := by omega
    rcases (by omega : a = 0 ∨ (a = 1 ∧ ¬ b = 0) ∨ (a = 4 ∧ ¬ b = 0 ∧ ¬ b = 1) ∨ (a = 5 ∧ ¬ b = 0 ∧ ¬ b = 1)) with rfl | ⟨rfl, h0⟩ | ⟨rfl, h0, h1⟩ | ⟨rfl, h0, h1⟩
    · clear h
      have ne2 : ¬ (0 : Int) = (b : Int) := by omega
      go_enter Tryd.func14, Tryd.ntmps14
      go_wp2_with fail
      go_ret
      exact ⟨rfl, rfl⟩
    · clear h
      have ne2 : ¬ (1 : Int) = (b : Int) := by omega
      have n0 : ¬ (b : Int) = 0 := by omega
      have e0 : ((b : Int) != 0) = true := bne_iff_ne.2 n0
      go_enter Tryd.func14, Tryd.ntmps14
      go_wp2_with fail
      go_ret
      exact ⟨by simp [*], rfl⟩
    · clear h
      have ne2 : ¬ (4 : Int) = (b : Int) := by omega
      have n0 : ¬ (b : Int) = 0 := by omega
      have n1 : ¬ (b : Int) = 1 := by omega
      have e0 : ((b : Int) != 0) = true := bne_iff_ne.2 n0
      have e1 : ((b : Int) != 1) = true := bne_iff_ne.2 n1
      go_enter Tryd.func14, Tryd.ntmps14
      go_wp2_with fail
      go_ret
      exact ⟨by simp [*], rfl⟩
    · clear h
      have ne2 : ¬ (5 : Int) = (b : Int) := by omega
      have n0 : ¬ (b : Int) = 0 := by omega
      have n1 : ¬ (b : Int) = 1 := by omega
      have e0 : ((b : Int) != 0) = true := bne_iff_ne.2 n0
      have e1 : ((b : Int) != 1) = true := bne_iff_ne.2 n1
      go_enter Tryd.func14, Tryd.ntmps14
      go_wp2_with fail
      go_ret
      exact ⟨by simp [*], rfl⟩
/-- A state that rises. -/
def Rise (a b : St) : Prop := a.pr ≤ b.pr ∧ a.at_ ≤ b.at_ ∧ mayN a.ph b.ph
theorem Rise.refl {s : St} (h : s.good) : Rise s s := ⟨Nat.le_refl _, Nat.le_refl _, h.1, h.1, .inl rfl⟩
/-- Along the law: the site, its plate, six states beside it. -/
structure RI (w0 w : World) (s j mb p q nb n : Nat) (R : Nat → Bool) (over : Bool) (B : ByteArray) (l : Int) (m : Nat) (N : Nat → St) : Prop where
  sp : SP w0 w s j mb p q (0 : Nat) R n (dealL B.data.toList) over B l
  well : Well B over l m
  hn : n ≤ m
  nr : NR w nb N
  nb0 : w0.heap.size ≤ nb
  nbs : nb ≠ s
  nbm : nb ≠ mb
  nbj : ¬ In3 j p q nb
section
variable {w0 w w' : World} {s j mb p q nb n m : Nat} {R : Nat → Bool} {over : Bool} {B : ByteArray} {l : Int} {N : Nat → St}
theorem RI.later (h : RI w0 w s j mb p q nb n R over B l m N) (hb : Below w.heap.size w w') : RI w0 w' s j mb p q nb n R over B l m N :=
  ⟨h.sp.later hb, h.well, h.hn, h.nr.later hb h.nr.lt, h.nb0, h.nbs, h.nbm, h.nbj⟩
theorem RI.drew (h : RI w0 w s j mb p q nb n R over B l m N) : RI w0 w.drew s j mb p q nb n R over B l m N := h.later (Below.refl _ _).drew
theorem RI.mono {k : Nat} (h : RI w0 w s j mb p q nb n R over B l m N) (hk : m ≤ k) : RI w0 w s j mb p q nb n R over B l k N :=
  ⟨h.sp, h.well.mono hk, Nat.le_trans h.hn hk, h.nr, h.nb0, h.nbs, h.nbm, h.nbj⟩
theorem RI.bel (h : RI w0 w s j mb p q nb n R over B l m N) : Below w0.heap.size w0 w := h.sp.jp.bel
/-- The plate and the journal were written. -/
theorem RI.turn {over' : Bool} {B' : ByteArray} {l' : Int} {m' : Nat} (h : RI w0 w s j mb p q nb n R over B l m N) (hs : SP w0 w' s j mb p q (0 : Nat) R n (dealL B'.data.toList) over' B' l') (hk : Kept (In3 j p q) w w') (hw : Well B' over' l' m') (hm : m ≤ m') : RI w0 w' s j mb p q nb n R over' B' l' m' N :=
  ⟨hs, hw, Nat.le_trans h.hn hm, hk.row h.nr h.nbj, h.nb0, h.nbs, h.nbm, h.nbj⟩
/-- A deal is refused. -/
theorem RI.refuse {d : Nat} (h : RI w0 w s j mb p q nb n R over B l m N) (hr : SR w' s j mb (0 : Nat) (updR R d) (n + 1)) (hk : Kept (In1 mb) w w') : RI w0 w' s j mb p q nb (n + 1) (updR R d) over B l (m + 1) N :=
  ⟨h.sp.refuse hr hk, h.well.mono (Nat.le_succ _), Nat.succ_le_succ h.hn, hk.row h.nr (fun e => h.nbm e), h.nb0, h.nbs, h.nbm, h.nbj⟩
/-- The site is opened anew. -/
theorem RI.boot {s' j' mb' : Nat} {w1 : World} (h : RI w0 w1 s j mb p q nb n R over B l m N) (hs : SP w0 w' s' j' mb' p q (0 : Nat) (fun _ => false) 0 (dealL B.data.toList) false B (-1)) (hb : Below w1.heap.size w1 w') (h1 : w1.heap.size ≤ j') (h2 : w1.heap.size ≤ s') (h3 : w1.heap.size ≤ mb') :
    RI w0 w' s' j' mb' p q nb 0 (fun _ => false) false B (-1) m N := by
  have e := h.nr.lt
  refine ⟨hs, h.well.boot, Nat.zero_le _, h.nr.later hb h.nr.lt, h.nb0, by omega, by omega, fun g => ?_⟩
  have g2 := h.nbj
  unfold In3 at g g2
  omega
/-- The list alone is written. -/
theorem RI.list {N' : Nat → St} (h : RI w0 w s j mb p q nb n R over B l m N) (hk : Kept (In1 nb) w w') (hn : NR w' nb N') : RI w0 w' s j mb p q nb n R over B l m N' :=
  ⟨h.sp.far hk (fun x e => by unfold In1 at e; rw [e]; exact h.nb0) (fun x hx e => by unfold In1 at e; exact h.nbj (e ▸ hx)) (fun e => h.nbs e.symm) (fun e => h.nbm e.symm), h.well, h.hn, hn, h.nb0, h.nbs, h.nbm, h.nbj⟩
end
/-- What a right frame makes of the states. -/
theorem hear_rises {B : ByteArray} {over : Bool} {l : Int} {m d k a ph : Nat} {r : Bool} {g : HOut} {o : POut} (hB : 216 ≤ B.size) (h : Well B over l m) (hm : m < 1000) (hd : d < 6) (ha : a ≤ 1048576) (hp : ph ≤ 5) (hg : hearL (dealL B.data.toList d).2 r k a ph = g) (ho : pOut (dealL B.data.toList) over B l d g.st.ph g.st.pr g.st.at_ = o) :
    o.e = dealL o.b.data.toList ∧ Well o.b o.over o.l (m + 1) ∧ (∀ e, e < 6 → Rise (dealL B.data.toList e).2 (dealL o.b.data.toList e).2) ∧ (o.c = 0 → (dealL o.b.data.toList d).2 = g.st) := by
  subst hg
  obtain ⟨hgood, h1, h2, h3⟩ := hear_good (dealL B.data.toList d).2 r k a ph (h.good d hd) ha hp
  obtain ⟨e1, e2, e3, e4⟩ := put_well hB h hm hd hgood ho
  refine ⟨e1, e2, fun e he => ?_, fun hc => ?_⟩
  · by_cases c : e = d
    · subst c
      rcases e4 with ⟨-, q⟩ | ⟨-, q⟩
      · rw [q]; exact ⟨h1, h2, h3⟩
      · rw [q]; exact Rise.refl (h.good e he)
    · rw [e3 e c]; exact Rise.refl (h.good e he)
  · rcases e4 with ⟨-, q⟩ | ⟨c, -⟩
    · exact q
    · rw [c] at hc; cases hc
/-- The first e of the six states are told anew. -/
def mixN (L : List UInt8) (N : Nat → St) (e : Nat) : Nat → St := fun d => if d < e then (dealL L d).2 else N d
theorem mixN_zero (L : List UInt8) (N : Nat → St) : mixN L N 0 = N := by
  funext d; unfold mixN; rw [if_neg (Nat.not_lt_zero _)]
theorem mixN_here (L : List UInt8) (N : Nat → St) (e : Nat) : mixN L N e e = N e := if_neg (Nat.lt_irrefl _)
theorem mixN_step (L : List UInt8) (N : Nat → St) (e : Nat) : updN (mixN L N e) e (dealL L e).2 = mixN L N (e + 1) := by
  funext d
  unfold updN mixN
  by_cases h : d = e
  · subst h; rw [if_pos rfl, if_pos (Nat.lt_succ_self _)]
  · rw [if_neg h]
    by_cases h2 : d < e
    · rw [if_pos h2, if_pos (by omega)]
    · rw [if_neg h2, if_neg (by omega)]
theorem mixN_all (L : List UInt8) (N : Nat → St) (d : Nat) (hd : d < 6) : mixN L N 6 d = (dealL L d).2 := if_pos hd
end Go.Proofs.YtnnknplmjiahhabDoor
namespace Go.Proofs.YtnnknplmjiahhabDoor
open Go.RowKit

set_option maxRecDepth 100000 in
theorem rises_early (A : Nat → Addr) (ad : Option Addr) (len cap : Nat) (w : World) (hE : HeldE w A) (hl : len ≤ 9223372036854775807) (h : 80 < len) :
    Calls Tryd.prog 3 #[.slice ad len cap] w fun e w' => e = .returned (.bool true) ∧ Below w.heap.size w w' := by
  have HE := hid hE
  clear hE
  go_enter Tryd.func3, Tryd.ntmps3
  go_wp2_with (go_at_call 6; refine (votes_any A _ HE.out).mono ?_; rintro e w1 ⟨rfl, hb1⟩)
  go_ret
  exact ⟨rfl, hb1⟩
/-- Where the loop begins. -/
theorem ri_start {w0 w2 : World} {p q s j mb : Nat} {B : ByteArray} (h : SP w0 w2 s j mb p q (0 : Nat) (fun _ => false) 0 (dealL B.data.toList) false B (-1)) (hB : B = zeroB 512) :
    RI w0 (w2.alloc (.cells (stL St.zero ++ (stL St.zero ++ (stL St.zero ++ (stL St.zero ++ (stL St.zero ++ stL St.zero))))).toArray 34)) s j mb p q w2.heap.size 0 (fun _ => false) false B (-1) 0 (fun _ => St.zero) := by
  obtain ⟨e1, e2, e3, e4, e5⟩ := h.lts
  refine ⟨h.later ((Below.refl _ _).alloc (Nat.le_refl _) _), by rw [hB]; exact well_zero 512 (by omega), Nat.le_refl _, NR.new w2, h.jp.bel.size, by omega, by omega, fun g => by unfold In3 at g; omega⟩
set_option maxRecDepth 100000 in
set_option maxHeartbeats 8000000 in
theorem rises_small (A : Nat → Addr) (ad : Option Addr) (cap : Nat) (xs : List Act12) (w : World) (hE : HeldE w A) (hx : SActsIn w ad xs) (hl : xs.length ≤ 80) :
    Calls Tryd.prog 3 #[.slice ad xs.length cap] w fun e w' => e = .returned (.bool true) ∧ Below w.heap.size w w' := by
  have HE := hid hE
  have HX := hid hx
  clear hE hx
  have hmk := mkSt
  go_enter Tryd.func3, Tryd.ntmps3
  go_wp2_with (go_at_call 6; refine (votes_any A _ HE.out).mono ?_; rintro e w1 ⟨rfl, hb1⟩; have HB1 := hid hb1; have HE1 := hid (HE.out.later hb1); clear hb1)
  refine (pnew_ok 512 _ (by omega)).mono ?_
  rintro e w2 ⟨rfl, hP2, hb2, hs2⟩
  have HP2 := hid hP2
  have HB2 := hid (HB1.out.trans (hb2.mono HB1.out.size))
  have HE2 := hid (HE.out.later HB2.out)
  have hpq := HB1.out.size
  clear hP2 hb2 hs2
  obtain ⟨p, Hp⟩ : ∃ p, Hid (w1.heap.size + 1 = p) := ⟨_, rfl⟩
  obtain ⟨q, Hq⟩ : ∃ q, Hid (w1.heap.size = q) := ⟨_, rfl⟩
  have p0 : w.heap.size ≤ p := by rw [← Hp.out]; omega
  have q0 : w.heap.size ≤ q := by rw [← Hq.out]; omega
  rw [Hp.out, Hq.out] at HP2
  have hpp := Hp.out
  go_wp2_with fail
  refine (snew_ok A 0 p q _ (-1) _ HP2.out HE2.out (by rw [zeroB_size]; omega) (by rw [zeroB_size]; omega) (by omega) (by omega) (by omega)).mono ?_
  rintro e w3 ⟨s, j, mb, rfl, hJ, hS, hb3, hj0, hjm, hms⟩
  have HS := hid (sp_new HB2.out HP2.out p0 q0 hJ hS hb3 hj0 hjm hms (by omega) (by omega) (by rw [zeroB_size]; omega) (by rw [zeroB_size]; omega))
  clear hJ hS hb3 hj0 hjm hms hpp
  obtain ⟨nb, Hnb⟩ : ∃ n, Hid (w3.heap.size = n) := ⟨_, rfl⟩
  have hnb := Hnb.out
  have HI0 := hid (ri_start HS.out rfl)
  rw [Hnb.out] at HI0
  go_wp2_with fail
  go_loopw [6, 8] (fun vs i wr => ∃ (k s j mb n : Nat) (R : Nat → Bool) (over : Bool) (B : ByteArray) (l : Int) (N : Nat → St), k ≤ xs.length ∧ vs = .pointer (some ⟨s, 0, none⟩) ∧ i = .int .i64 (k : Int) ∧ RI w wr s j mb p q nb n R over B l k N ∧ ∀ d, d < 6 → N d = (dealL B.data.toList d).2) (fun _ i _ => xs.length - (intOf i).toNat)
  case atStart => exact ⟨0, s, j, mb, 0, _, _, _, _, _, Nat.zero_le _, rfl, rfl, HI0.out, fun d hd => by rw [deal_zero 512 d (by omega)]⟩
  case round =>
    clear HI0 HS
    obtain ⟨k, s, j, mb, n, R, over, B, l, N, hk, rfl, rfl, hI, hN⟩ := hrel
    have HI := hid hI
    have HN := hid hN
    clear hI hN
    by_cases hlt : k < xs.length
    · obtain ⟨b, o, rfl, hy, hc9⟩ := HX.out k hlt
      obtain ⟨y0, y1, y2, y3, y4, y5, y6, y7, y8, y9, y10, y11⟩ := twelve (w := wr) (fun j hj => (HI.out.bel.cell (cell_lt (hy j hj |>.trans (List.getElem?_eq_getElem (by simpa [act12L] using hj))))).trans (hy j hj))
      generalize xs[k]'hlt = x at *
      obtain ⟨xk, xf, xt, xd, xkk, xa, xy, xph, xpr, xpa, xdl, xn⟩ := x
      simp only at y0 y1 y2 y3 y4 y5 y6 y7 y8 y9 y10 y11 hc9
      clear hy
      obtain ⟨ab, Hab⟩ : ∃ n, Hid (wr.heap.size = n) := ⟨_, rfl⟩
      obtain ⟨W, HW⟩ : ∃ W, Hid (wr.alloc (.cells #[.string xk, .int .i64 xf, .int .i64 xt, .int .i64 xd, .int .i64 xkk, .int .i64 xa, .bool xy, .int .i64 xph, .int .i64 xpr, .int .i64 xpa, .int .i64 xdl, .int .i64 xn] 38) = W) := ⟨_, rfl⟩
      have hW := HW.out
      have hab := Hab.out
      have HIW := hid (HI.out.later (w' := W) (by rw [← HW.out]; exact (Below.refl _ _).alloc (Nat.le_refl _) _))
      have RW : Hid (W.heap[ab]? = some (.cells #[.string xk, .int .i64 xf, .int .i64 xt, .int .i64 xd, .int .i64 xkk, .int .i64 xa, .bool xy, .int .i64 xph, .int .i64 xpr, .int .i64 xpa, .int .i64 xdl, .int .i64 xn] 38 (0, 0))) := by rw [← HW.out, ← Hab.out]; exact heap_alloc_new wr _
      have HNR : Hid (∀ d, d < 6 → Rise (N d) (dealL B.data.toList d).2) := fun d hd => by rw [HN.out d hd]; exact Rise.refl (HI.out.well.good d hd)
      have hk1000 : k < 1000 := by omega
      obtain ⟨a0, a1, a2, a3, a4, a5, a6, a7, a8, a9, a10, a11⟩ := twelveR RW.out
      go_upto_block 2 with fail
      clear y0 y1 y2 y3 y4 y5 y6 y7 y8 y9 y10 y11 hab
      go_cut [6] from 52 to 181 (fun s6 wx => ∃ (s' j' mb' n' : Nat) (R' : Nat → Bool) (over' : Bool) (B' : ByteArray) (l' : Int), s6 = .pointer (some ⟨s', 0, none⟩) ∧ RI w wx s' j' mb' p q nb n' R' over' B' l' (k + 1) N ∧ ∀ d, d < 6 → Rise (N d) (dealL B'.data.toList d).2)
      case first =>
        clear hW HW HI hlt hk
        rcases k1 : (xk.toList == [114, 101, 102, 117, 115, 101]) with _ | _
        rotate_left
        · -- refuse
          by_cases hdl : 0 ≤ xdl ∧ xdl < 6
          · obtain ⟨d, rfl⟩ : ∃ d : Nat, xdl = d := ⟨xdl.toNat, by omega⟩
            have hd : d < 6 := by omega
            have hn6 : n ≤ 1000000 := by have := HIW.out.hn; omega
            clear hdl
            go_wp2_with (go_at_call 9; (with_reducible refine (srefuse_ok d HIW.out.sp.jp.jr HIW.out.sp.sr hd hn6).mono ?_); rintro e v1 ⟨rfl, hr1, hk1, -⟩; have HI1 := hid (HIW.out.refuse hr1 hk1); clear hr1 hk1)
            go_meet
            exact ⟨s, j, mb, n + 1, _, over, B, l, rfl, HI1.out, HNR.out⟩
          · have HEW := hid (HE.out.later HIW.out.bel)
            go_wp2_with (go_at_call 9; (with_reducible refine (srefuse_bad (A := A) xdl HIW.out.sp.sr HEW.out hdl).mono ?_); rintro e v1 ⟨rfl, hb1⟩; have HI1 := hid ((HIW.out.later hb1).mono (Nat.le_succ k)); clear hb1)
            go_meet
            exact ⟨s, j, mb, n, R, over, B, l, rfl, HI1.out, HNR.out⟩
        rcases k2 : (xk.toList == [99, 117, 116]) with _ | _
        rotate_left
        · -- cut
          go_wp2_with (go_at_call 10; (with_reducible refine (scut_jp xn HIW.out.sp.jp HE.out hc9).mono ?_); rintro e v1 ⟨rfl, hj1, hk1⟩; have HI1 := hid (HIW.out.turn (HIW.out.sp.turn hj1 hk1) hk1 ((HIW.out.well.cut xn).mono (Nat.le_succ k)) (Nat.le_succ k)); clear hj1 hk1)
          go_meet
          exact ⟨s, j, mb, n, R, over, B, _, rfl, HI1.out, HNR.out⟩
        rcases k3 : (xk.toList == [98, 111, 111, 116]) with _ | _
        rotate_left
        · -- boot
          go_wp2_with (first | (go_at_call 11; (with_reducible refine (jon_jp HIW.out.sp.jp).mono ?_); rintro e v1 ⟨rfl, hj1, hk1⟩; have HJ1 := hid hj1; have HI1 := hid (HIW.out.turn (HIW.out.sp.turn hj1 hk1) hk1 (HIW.out.well.on.mono (Nat.le_succ k)) (Nat.le_succ k)); clear hj1 hk1))
          refine (sboot_sp (id := ((0 : Nat) : Int)) HJ1.out HE.out (by decide) (by decide)).mono ?_
          rintro e v2 ⟨s', j', mb', rfl, hs2, hb2, h1, h2, h3⟩
          have HI2 := hid (HI1.out.boot hs2 hb2 h1 h2 h3)
          clear hs2 hb2 h1 h2 h3
          go_wp2_with fail
          go_meet
          exact ⟨s', j', mb', 0, _, false, B, -1, rfl, HI2.out, HNR.out⟩
        · -- hear
          by_cases hf : frOk xf 0 xd xkk xa xph xpr xpa
          · obtain ⟨f, rfl⟩ : ∃ f : Nat, xf = f := ⟨xf.toNat, by have := hf.1; omega⟩
            obtain ⟨d, rfl⟩ : ∃ f : Nat, xd = f := ⟨xd.toNat, by have := hf.2.2.1; omega⟩
            obtain ⟨kk, rfl⟩ : ∃ f : Nat, xkk = f := ⟨xkk.toNat, by have := hf.2.2.2.1; omega⟩
            obtain ⟨a, rfl⟩ : ∃ f : Nat, xa = f := ⟨xa.toNat, by have := hf.2.2.2.2.1; omega⟩
            obtain ⟨ph, rfl⟩ : ∃ f : Nat, xph = f := ⟨xph.toNat, by have := hf.2.2.2.2.2.1; omega⟩
            obtain ⟨pr, rfl⟩ : ∃ f : Nat, xpr = f := ⟨xpr.toNat, by have := hf.2.2.2.2.2.2.1; omega⟩
            obtain ⟨pa, rfl⟩ : ∃ f : Nat, xpa = f := ⟨xpa.toNat, by have := hf.2.2.2.2.2.2.2; omega⟩
            have hd : d < 6 := by have := hf.2.2.1; omega
            obtain ⟨⟨⟨th, tp, ta⟩, gk, gy⟩, HG⟩ : ∃ g, Hid (hearL (dealL B.data.toList d).2 (R d) kk a ph = g) := ⟨_, rfl⟩
            obtain ⟨⟨oc, oe, oo, ob, ol⟩, HO⟩ : ∃ o, Hid (pOut (dealL B.data.toList) over B l d th tp ta = o) := ⟨_, rfl⟩
            have HRS := hid (hear_rises HIW.out.sp.jp.s6 HIW.out.well hk1000 hd (by have := hf.2.2.2.2.1; omega) (by have := hf.2.2.2.2.2.1; omega) HG.out HO.out)
            have HNR2 : Hid (∀ e, e < 6 → Rise (N e) (dealL ob.data.toList e).2) := fun e he => by rw [HN.out e he]; exact HRS.out.2.2.1 e he
            have HF := hid hf
            clear hf HNR HN
            go_wp2_with fail
            refine (shear_in A w _ s j mb p q n 0 f d kk a ph pr pa xy R (dealL B.data.toList) over B l ⟨⟨th, tp, ta⟩, gk, gy⟩ ⟨oc, oe, oo, ob, ol⟩ (HIW.out.sp.later ((Below.refl _ _).alloc (Nat.le_refl _) _)) HE.out (fun d _ => deal_lt _ d) HF.out HG.out HO.out).mono ?_
            rintro e v2 ⟨v, rfl, hv, hs2, hk2⟩
            simp only at hv hs2
            have he : oe = dealL ob.data.toList := HRS.out.1
            rw [he] at hs2
            have HI2 := hid ((HIW.out.later ((Below.refl _ _).alloc (Nat.le_refl _) _)).turn hs2 hk2 HRS.out.2.1 (Nat.le_succ k))
            clear hs2 hk2 he
            unfold AnsV at hv
            simp only at hv
            cases oc with
            | succ c =>
              rw [if_neg (fun h => by cases h.1)] at hv
              subst hv
              unfold ev
              go_wp2_with fail
              refine wp_loop_rounds 1 ?_
              rw [rounds_succ]
              go_wp2_with fail
              go_meet
              exact ⟨s, j, mb, n, R, oo, ob, ol, rfl, HI2.out, HNR2.out⟩
            | zero =>
              unfold ev
              by_cases hgk : gk = 0
              · rw [if_neg (fun h => h.2 hgk)] at hv
                subst hv
                go_wp2_with fail
                refine wp_loop_rounds 1 ?_
                rw [rounds_succ]
                go_wp2_with fail
                go_meet
                exact ⟨s, j, mb, n, R, oo, ob, ol, rfl, HI2.out, HNR2.out⟩
              · rw [if_pos ⟨rfl, hgk⟩] at hv
                obtain ⟨gb, cp, rfl, hr⟩ := hv
                have HR2 := hid hr
                have HT2 : Hid ((dealL ob.data.toList d).2 = ⟨th, tp, ta⟩) := HRS.out.2.2.2 rfl
                unfold ansC at hr
                simp only at hr
                obtain ⟨t0, t1, t2, t3, t4, t5, t6, t7, t8⟩ := nine hr
                have hgb := row_ltJ hr
                have hne := st_neq (th : Int) (tp : Int) (ta : Int)
                clear hr HRS HG HO HF
                go_wp2_with fail
                refine wp_loop_rounds 2 ?_
                rw [rounds_succ]
                go_wp2_with (go_at_call 13; (with_reducible refine (sstate_is d th tp ta HI2.out.sp.jp.jr HI2.out.sp.sr hd HT2.out).mono ?_); rintro e v3 ⟨rfl, hb3⟩; have HI3 := hid (HI2.out.later hb3); have hr3 := (hb3.block _ hgb).trans HR2.out; unfold ansC at hr3; simp only at hr3; obtain ⟨t0, t1, t2, t3, t4, t5, t6, t7, t8⟩ := nine hr3; have hgb3 := row_ltJ hr3; clear hb3 hr3)
                go_region
                all_goals go_wp2_with fail
                all_goals rw [rounds_succ]
                all_goals go_wp2_with fail
                all_goals go_meet
                all_goals exact ⟨s, j, mb, n, R, oo, ob, ol, rfl, (HI3.out.later ((Below.refl _ _).alloc (Nat.le_refl _) _)).drew, HNR2.out⟩
          · go_wp2_with (go_at_call 12; (with_reducible refine (shear_bad A _ xf 0 xd xkk xa xy xph xpr xpa _ (HE.out.later (HIW.out.later ((Below.refl _ _).alloc (Nat.le_refl _) _)).bel) hf).mono ?_); rintro e v2 ⟨rfl, hb2⟩; unfold ev; have HI2 := hid (((HIW.out.later ((Below.refl _ _).alloc (Nat.le_refl _) _)).later hb2).mono (Nat.le_succ k)); clear hb2)
            refine wp_loop_rounds 1 ?_
            rw [rounds_succ]
            go_wp2_with fail
            go_meet
            exact ⟨s, j, mb, n, R, over, B, l, rfl, HI2.out, HNR.out⟩
      obtain ⟨s', j', mb', n', R', over', B', l', rfl, hI2, hR2⟩ := hcut
      have HI2 := hid hI2
      have HRs := hid hR2
      clear hI2 hR2 HIW RW HNR HI HN a0 a1 a2 a3 a4 a5 a6 a7 a8 a9 a10 a11 hW HW
      rename_i wc
      generalize wc = v0 at *
      go_wp2_with fail
      go_loopw [18] (fun i wq => ∃ e : Nat, e ≤ 6 ∧ i = .int .i64 (e : Int) ∧ RI w wq s' j' mb' p q nb n' R' over' B' l' (k + 1) (mixN B'.data.toList N e)) (fun i _ => 6 - (intOf i).toNat)
      case atStart => exact ⟨0, by omega, rfl, by rw [mixN_zero]; exact HI2.out⟩
      case round =>
        clear HI2
        obtain ⟨e, he6, rfl, hI3⟩ := hrel
        have HI3 := hid hI3
        clear hI3
        by_cases he : e < 6
        · obtain ⟨⟨h1, h2, h3⟩, HD⟩ : ∃ x, Hid ((dealL B'.data.toList e).2 = x) := ⟨_, rfl⟩
          obtain ⟨⟨n1, n2, n3⟩, HNe⟩ : ∃ x, Hid (N e = x) := ⟨_, rfl⟩
          obtain ⟨q2, q3, q1⟩ := HRs.out e he
          rw [HD.out, HNe.out] at q1 q2 q3
          simp only at q1 q2 q3
          have HM := hid q1
          have g2 : ¬ (h2 : Int) < (n2 : Int) := by omega
          have g3 : ¬ (h3 : Int) < (n3 : Int) := by omega
          have d2 : decide ((h2 : Int) < (n2 : Int)) = false := decide_eq_false g2
          have d3 : decide ((h3 : Int) < (n3 : Int)) = false := decide_eq_false g3
          have g2n : ¬ h2 < n2 := by omega
          have g3n : ¬ h3 < n3 := by omega
          have d2n : decide (h2 < n2) = false := decide_eq_false g2n
          have d3n : decide (h3 < n3) = false := decide_eq_false g3n
          have hei : (e : Int) < 6 := by omega
          clear q1 q2 q3
          go_wp2_with (go_at_call 13; (with_reducible refine (sstate_is e h1 h2 h3 HI3.out.sp.jp.jr HI3.out.sp.sr he HD.out).mono ?_); rintro ee v3 ⟨rfl, hb3⟩; have HI4 := hid (HI3.out.later hb3); clear hb3; obtain ⟨c0, c1, c2⟩ := HI4.out.nr.ent he; rw [mixN_here, HNe.out] at c0 c1 c2; simp only at c0 c1 c2; have hnbl := HI4.out.nr.lt)
          go_quiet ((go_at_call 14; exact Calls.quiet_of_same (rmay_yes n1 h1 _ HM.out)))
          have HI5 := hid (HI4.out.later (below_drewN ((Below.refl _ _).alloc (Nat.le_refl _) (.cells #[.int .i64 (h1 : Int), .int .i64 (h2 : Int), .int .i64 (h3 : Int)] 34)) nq))
          have RS5 : Hid (((v3.alloc (.cells #[.int .i64 (h1 : Int), .int .i64 (h2 : Int), .int .i64 (h3 : Int)] 34)).drewN nq).heap[v3.heap.size]? = some (.cells #[.int .i64 (h1 : Int), .int .i64 (h2 : Int), .int .i64 (h3 : Int)] 34 (0, 0))) := by unfold Hid; rw [heap_drewJ]; exact heap_alloc_new v3 _
          generalize (v3.alloc (.cells #[.int .i64 (h1 : Int), .int .i64 (h2 : Int), .int .i64 (h3 : Int)] 34)).drewN nq = V5 at HI5 RS5 ⊢
          clear c0 c1 c2
          obtain ⟨c0, c1, c2⟩ := HI5.out.nr.ent he
          have f0 := HI5.out.nr.fz (e * 3)
          have f1 := HI5.out.nr.fz (e * 3 + 1)
          have f2 := HI5.out.nr.fz (e * 3 + 2)
          have t0 : V5.cell? ⟨v3.heap.size, 0, none⟩ = some (.int .i64 (h1 : Int)) := by rw [cell_of_row _ _ _ _ _ _ RS5.out]; rfl
          have t1 : V5.cell? ⟨v3.heap.size, 1, none⟩ = some (.int .i64 (h2 : Int)) := by rw [cell_of_row _ _ _ _ _ _ RS5.out]; rfl
          have t2 : V5.cell? ⟨v3.heap.size, 2, none⟩ = some (.int .i64 (h3 : Int)) := by rw [cell_of_row _ _ _ _ _ _ RS5.out]; rfl
          have HST := hid (HI5.out.nr.set he ⟨h1, h2, h3⟩)
          have HMX : Hid (updN (mixN B'.data.toList N e) e ⟨h1, h2, h3⟩ = mixN B'.data.toList N (e + 1)) := by unfold Hid; rw [← HD.out]; exact mixN_step _ _ _
          rw [HMX.out] at HST
          go_wp2_with fail
          go_roundw
          case rel => exact ⟨e + 1, by omega, by go_num, HI5.out.list ((((Kept.refl _ _).set1 (e * 3) _).set1 (e * 3 + 1) _).set1 (e * 3 + 2) _) HST.out⟩
          case measure => simp [intOf]; omega
        · obtain rfl : e = 6 := by omega
          go_wp2_with fail
          go_roundw
          case rel => exact ⟨k + 1, s', j', mb', n', R', over', B', l', _, by omega, rfl, by go_num, HI3.out, fun d hd => mixN_all _ _ d hd⟩
          case measure => simp [intOf]; omega
    · obtain rfl : k = xs.length := by omega
      have HBl := hid HI.out.bel
      go_wp2_with fail
      go_ret
      exact ⟨rfl, HBl.out⟩
end Go.Proofs.YtnnknplmjiahhabDoor
