/-
  NUMBERS AND STATES THAT CAME IN, opened.
  A FRAME THAT CAME IN, opened.
  A LIST OF A SITE's ACTS in memory, and as it came in.
  SIX BOOLS in memory.
  WHAT STANDS ALONG THE LAW SiteKeeps.
-/
import Derived.Test.YtnnknplmjiahhabDoorBa1
import Derived.Test.YtnnknplmjiahhabDoorBa13
import Derived.Test.YtnnknplmjiahhabDoorBa11
import Derived.Test.YtnnknplmjiahhabDoorBa15
import Derived.ChangeShapes
import Derived.WideShapes
import Derived.RowKit
import Derived.Deep.Slices
namespace Go.Proofs.YtnnknplmjiahhabDoor
open Go.ChangeShapes Go.WideShapes Go.RowKit

theorem cellsSt3 : Tryd.prog.cellsOf 34 = 3 := by kernel_rfl
theorem cellsInt1 : Tryd.prog.cellsOf 3 = 1 := by kernel_rfl
theorem cellsBool1 : Tryd.prog.cellsOf 4 = 1 := by kernel_rfl
theorem listOf3 {α : Type} : ∀ (l : List α), l.length = 3 → ∃ a b c, l = [a, b, c]
  | [a, b, c], _ => ⟨a, b, c, rfl⟩
theorem listOf4 {α : Type} : ∀ (l : List α), l.length = 4 → ∃ a b c d, l = [a, b, c, d]
  | [a, b, c, d], _ => ⟨a, b, c, d, rfl⟩
theorem listOf6 {α : Type} : ∀ (l : List α), l.length = 6 → ∃ a b c d e f, l = [a, b, c, d, e, f]
  | [a, b, c, d, e, f], _ => ⟨a, b, c, d, e, f, rfl⟩
theorem int_le_of_wf {n : Int} (w3 : (Lit.int .i64 n).wf = true) : n ≤ 9223372036854775807 := by
  have hmx : IntKind.i64.max = 9223372036854775807 := by decide
  have hw : decide (IntKind.i64.min ≤ n) = true ∧ decide (n ≤ IntKind.i64.max) = true := by simpa only [Lit.wf, Bool.and_eq_true] using w3
  have h2 := of_decide_eq_true hw.2
  rw [hmx] at h2
  exact h2
theorem st_of_trod {H : Type} {enc : TypeId × Value → H} {W : World} {base fuel : Nat} {cs : List Value} {x : DataW H × List MemPlace} {sp : Nat → Bool} {held : Bool}
    (h : DataW.trod enc Tryd.prog W base sp held fuel 34 cs = some x) : ∃ a b c : Int, cs = [.int .i64 a, .int .i64 b, .int .i64 c] := by
  obtain ⟨ys, n, _, _, hl, hlen, hf⟩ := DataW.trod_struct Tryd.underlying34 h
  rw [cellsSt3] at hl
  obtain ⟨c0, c1, c2, rfl⟩ := listOf3 cs hl
  obtain ⟨y0, y1, y2, rfl⟩ := listOf3 ys hlen
  have f0 : DataW.trod enc Tryd.prog W base sp held n 3 (([c0, c1, c2].drop 0).take (Tryd.prog.cellsOf 3)) = some y0 := hf 0 _ rfl
  have f1 : DataW.trod enc Tryd.prog W base sp held n 3 (([c0, c1, c2].drop 1).take (Tryd.prog.cellsOf 3)) = some y1 := hf 1 _ rfl
  have f2 : DataW.trod enc Tryd.prog W base sp held n 3 (([c0, c1, c2].drop 2).take (Tryd.prog.cellsOf 3)) = some y2 := hf 2 _ rfl
  rw [cellsInt1] at f0 f1 f2
  obtain ⟨i0, e0, _, _⟩ := DataW.trod_int Tryd.underlying3 f0
  obtain ⟨i1, e1, _, _⟩ := DataW.trod_int Tryd.underlying3 f1
  obtain ⟨i2, e2, _, _⟩ := DataW.trod_int Tryd.underlying3 f2
  simp at e0 e1 e2
  subst e0 e1 e2
  exact ⟨i0, i1, i2, rfl⟩
end Go.Proofs.YtnnknplmjiahhabDoor
namespace Go.Proofs.YtnnknplmjiahhabDoor
open Go.ChangeShapes Go.WideShapes Go.RowKit

theorem cellsFr9 : Tryd.prog.cellsOf 36 = 9 := by kernel_rfl
theorem listOf7 {α : Type} : ∀ (l : List α), l.length = 7 → ∃ a b c d e f g, l = [a, b, c, d, e, f, g]
  | [a, b, c, d, e, f, g], _ => ⟨a, b, c, d, e, f, g, rfl⟩
theorem listOf9 {α : Type} : ∀ (l : List α), l.length = 9 → ∃ a b c d e f g h i, l = [a, b, c, d, e, f, g, h, i]
  | [a, b, c, d, e, f, g, h, i], _ => ⟨a, b, c, d, e, f, g, h, i, rfl⟩
set_option maxRecDepth 100000 in
theorem fr_of_trod {H : Type} {enc : TypeId × Value → H} {W : World} {base fuel : Nat} {cs : List Value} {x : DataW H × List MemPlace} {sp : Nat → Bool} {held : Bool}
    (h : DataW.trod enc Tryd.prog W base sp held fuel 36 cs = some x) : ∃ (f t d k a : Int) (y : Bool) (ph pr pa : Int), cs = [.int .i64 f, .int .i64 t, .int .i64 d, .int .i64 k, .int .i64 a, .bool y, .int .i64 ph, .int .i64 pr, .int .i64 pa] := by
  obtain ⟨ys, n, _, _, hl, hlen, hf⟩ := DataW.trod_struct Tryd.underlying36 h
  rw [cellsFr9] at hl
  obtain ⟨c0, c1, c2, c3, c4, c5, c6, c7, c8, rfl⟩ := listOf9 cs hl
  obtain ⟨y0, y1, y2, y3, y4, y5, y6, rfl⟩ := listOf7 ys hlen
  have f0 : DataW.trod enc Tryd.prog W base sp held n 3 (([c0, c1, c2, c3, c4, c5, c6, c7, c8].drop 0).take (Tryd.prog.cellsOf 3)) = some y0 := hf 0 _ rfl
  have f1 : DataW.trod enc Tryd.prog W base sp held n 3 (([c0, c1, c2, c3, c4, c5, c6, c7, c8].drop 1).take (Tryd.prog.cellsOf 3)) = some y1 := hf 1 _ rfl
  have f2 : DataW.trod enc Tryd.prog W base sp held n 3 (([c0, c1, c2, c3, c4, c5, c6, c7, c8].drop 2).take (Tryd.prog.cellsOf 3)) = some y2 := hf 2 _ rfl
  have f3 : DataW.trod enc Tryd.prog W base sp held n 3 (([c0, c1, c2, c3, c4, c5, c6, c7, c8].drop 3).take (Tryd.prog.cellsOf 3)) = some y3 := hf 3 _ rfl
  have f4 : DataW.trod enc Tryd.prog W base sp held n 3 (([c0, c1, c2, c3, c4, c5, c6, c7, c8].drop 4).take (Tryd.prog.cellsOf 3)) = some y4 := hf 4 _ rfl
  have f5 : DataW.trod enc Tryd.prog W base sp held n 4 (([c0, c1, c2, c3, c4, c5, c6, c7, c8].drop 5).take (Tryd.prog.cellsOf 4)) = some y5 := hf 5 _ rfl
  have f6 : DataW.trod enc Tryd.prog W base sp held n 34 (([c0, c1, c2, c3, c4, c5, c6, c7, c8].drop 6).take (Tryd.prog.cellsOf 34)) = some y6 := hf 6 _ rfl
  rw [cellsInt1] at f0 f1 f2 f3 f4
  rw [cellsBool1] at f5
  rw [cellsSt3] at f6
  obtain ⟨i0, e0, _, _⟩ := DataW.trod_int Tryd.underlying3 f0
  obtain ⟨i1, e1, _, _⟩ := DataW.trod_int Tryd.underlying3 f1
  obtain ⟨i2, e2, _, _⟩ := DataW.trod_int Tryd.underlying3 f2
  obtain ⟨i3, e3, _, _⟩ := DataW.trod_int Tryd.underlying3 f3
  obtain ⟨i4, e4, _, _⟩ := DataW.trod_int Tryd.underlying3 f4
  obtain ⟨b5, e5, _⟩ := DataW.trod_bool Tryd.underlying4 f5
  obtain ⟨s0, s1, s2, es⟩ := st_of_trod f6
  simp at e0 e1 e2 e3 e4 e5 es
  obtain ⟨es0, es1, es2⟩ := es
  subst e0 e1 e2 e3 e4 e5 es0 es1 es2
  exact ⟨i0, i1, i2, i3, i4, b5, s0, s1, s2, rfl⟩
set_option maxRecDepth 100000 in
theorem fr_of_arg {H : Type} {enc : TypeId × Value → H} {W : World} {r : Reach} {base b2 fuel : Nat} {v : Value} {x : DataW H × List MemPlace} {sp : Nat → Bool} {held : Bool}
    (hv : Value.okWide Tryd.prog W r b2 36 v) (h : DataW.trod enc Tryd.prog W base sp held fuel 36 v.cells.toList = some x) : ∃ (f t d k a : Int) (y : Bool) (ph pr pa : Int), v = frV f t d k a y ph pr pa := by
  obtain ⟨cs, rfl, _⟩ := okWide_struct Tryd.underlying36 hv
  obtain ⟨f, t, d, k, a, y, ph, pr, pa, hc⟩ := fr_of_trod h
  refine ⟨f, t, d, k, a, y, ph, pr, pa, ?_⟩
  have e : cs.toList = [.int .i64 f, .int .i64 t, .int .i64 d, .int .i64 k, .int .i64 a, .bool y, .int .i64 ph, .int .i64 pr, .int .i64 pa] := by simpa [Value.cells] using hc
  show Value.agg cs = _
  rw [show cs = #[.int .i64 f, .int .i64 t, .int .i64 d, .int .i64 k, .int .i64 a, .bool y, .int .i64 ph, .int .i64 pr, .int .i64 pa] from by rw [← Array.toArray_toList (xs := cs), e]]
end Go.Proofs.YtnnknplmjiahhabDoor
namespace Go.Proofs.YtnnknplmjiahhabDoor
open Go.ChangeShapes Go.WideShapes Go.RowKit

/-- An act of the laws' list. -/
structure Act12 where
  kind : ByteArray
  f : Int
  t : Int
  d : Int
  k : Int
  a : Int
  y : Bool
  ph : Int
  pr : Int
  pa : Int
  deal : Int
  n : Int
def act12L (x : Act12) : List Value := [.string x.kind, .int .i64 x.f, .int .i64 x.t, .int .i64 x.d, .int .i64 x.k, .int .i64 x.a, .bool x.y, .int .i64 x.ph, .int .i64 x.pr, .int .i64 x.pa, .int .i64 x.deal, .int .i64 x.n]
/-- The acts xs lie behind the address. -/
def SActsIn (w : World) (ad : Option Addr) (xs : List Act12) : Prop := ∀ i (h : i < xs.length), ∃ b off, ad = some ⟨b, off, none⟩ ∧ (∀ j, j < 12 → w.cell? ⟨b, off + i * 12 + j, none⟩ = (act12L (xs[i]'h))[j]?) ∧ (xs[i]'h).n ≤ 9223372036854775807
theorem twelve {w : World} {b o : Nat} {x : Act12} (h : ∀ j, j < 12 → w.cell? ⟨b, o + j, none⟩ = (act12L x)[j]?) :
    w.cell? ⟨b, o, none⟩ = some (.string x.kind) ∧ w.cell? ⟨b, o + 1, none⟩ = some (.int .i64 x.f) ∧ w.cell? ⟨b, o + 2, none⟩ = some (.int .i64 x.t) ∧ w.cell? ⟨b, o + 3, none⟩ = some (.int .i64 x.d) ∧ w.cell? ⟨b, o + 4, none⟩ = some (.int .i64 x.k) ∧ w.cell? ⟨b, o + 5, none⟩ = some (.int .i64 x.a) ∧
    w.cell? ⟨b, o + 6, none⟩ = some (.bool x.y) ∧ w.cell? ⟨b, o + 7, none⟩ = some (.int .i64 x.ph) ∧ w.cell? ⟨b, o + 8, none⟩ = some (.int .i64 x.pr) ∧ w.cell? ⟨b, o + 9, none⟩ = some (.int .i64 x.pa) ∧ w.cell? ⟨b, o + 10, none⟩ = some (.int .i64 x.deal) ∧ w.cell? ⟨b, o + 11, none⟩ = some (.int .i64 x.n) :=
  ⟨h 0 (by omega), h 1 (by omega), h 2 (by omega), h 3 (by omega), h 4 (by omega), h 5 (by omega), h 6 (by omega), h 7 (by omega), h 8 (by omega), h 9 (by omega), h 10 (by omega), h 11 (by omega)⟩
theorem twelveR {w : World} {g : Nat} {k : ByteArray} {f t d kk a : Int} {y : Bool} {ph pr pa dl n : Int} {ty : TypeId} {fr : Nat × Nat} (h : w.heap[g]? = some (.cells #[.string k, .int .i64 f, .int .i64 t, .int .i64 d, .int .i64 kk, .int .i64 a, .bool y, .int .i64 ph, .int .i64 pr, .int .i64 pa, .int .i64 dl, .int .i64 n] ty fr)) :
    w.cell? ⟨g, 0, none⟩ = some (.string k) ∧ w.cell? ⟨g, 1, none⟩ = some (.int .i64 f) ∧ w.cell? ⟨g, 2, none⟩ = some (.int .i64 t) ∧ w.cell? ⟨g, 3, none⟩ = some (.int .i64 d) ∧ w.cell? ⟨g, 4, none⟩ = some (.int .i64 kk) ∧ w.cell? ⟨g, 5, none⟩ = some (.int .i64 a) ∧
    w.cell? ⟨g, 6, none⟩ = some (.bool y) ∧ w.cell? ⟨g, 7, none⟩ = some (.int .i64 ph) ∧ w.cell? ⟨g, 8, none⟩ = some (.int .i64 pr) ∧ w.cell? ⟨g, 9, none⟩ = some (.int .i64 pa) ∧ w.cell? ⟨g, 10, none⟩ = some (.int .i64 dl) ∧ w.cell? ⟨g, 11, none⟩ = some (.int .i64 n) := by
  refine ⟨?_, ?_, ?_, ?_, ?_, ?_, ?_, ?_, ?_, ?_, ?_, ?_⟩ <;> rw [cell_of_row _ _ _ _ _ _ h] <;> rfl
theorem cellsSAct : Tryd.prog.cellsOf 38 = 12 := by kernel_rfl
theorem cellsStr1 : Tryd.prog.cellsOf 9 = 1 := by kernel_rfl
theorem listOf12 {α : Type} : ∀ (l : List α), l.length = 12 → ∃ a b c d e f g h i j k m, l = [a, b, c, d, e, f, g, h, i, j, k, m]
  | [a, b, c, d, e, f, g, h, i, j, k, m], _ => ⟨a, b, c, d, e, f, g, h, i, j, k, m, rfl⟩
set_option maxRecDepth 100000 in
theorem sact_of_trod {H : Type} {enc : TypeId × Value → H} {W : World} {base fuel : Nat} {cs : List Value} {x : DataW H × List MemPlace} {sp : Nat → Bool} {held : Bool}
    (h : DataW.trod enc Tryd.prog W base sp held fuel 38 cs = some x) : ∃ t : Act12, cs = act12L t ∧ t.n ≤ 9223372036854775807 := by
  obtain ⟨ys, n, _, _, hl, hlen, hf⟩ := DataW.trod_struct Tryd.underlying38 h
  rw [cellsSAct] at hl
  obtain ⟨c0, c1, c2, c3, c4, c5, c6, c7, c8, c9, c10, c11, rfl⟩ := listOf12 cs hl
  obtain ⟨y0, y1, y2, y3, rfl⟩ := listOf4 ys hlen
  have f0 : DataW.trod enc Tryd.prog W base sp held n 9 (([c0, c1, c2, c3, c4, c5, c6, c7, c8, c9, c10, c11].drop 0).take (Tryd.prog.cellsOf 9)) = some y0 := hf 0 _ rfl
  have f1 : DataW.trod enc Tryd.prog W base sp held n 36 (([c0, c1, c2, c3, c4, c5, c6, c7, c8, c9, c10, c11].drop 1).take (Tryd.prog.cellsOf 36)) = some y1 := hf 1 _ rfl
  have f2 : DataW.trod enc Tryd.prog W base sp held n 3 (([c0, c1, c2, c3, c4, c5, c6, c7, c8, c9, c10, c11].drop 10).take (Tryd.prog.cellsOf 3)) = some y2 := hf 2 _ rfl
  have f3 : DataW.trod enc Tryd.prog W base sp held n 3 (([c0, c1, c2, c3, c4, c5, c6, c7, c8, c9, c10, c11].drop 11).take (Tryd.prog.cellsOf 3)) = some y3 := hf 3 _ rfl
  rw [cellsInt1] at f2 f3
  rw [cellsFr9] at f1
  rw [cellsStr1] at f0
  obtain ⟨s0, e0, _, _⟩ := DataW.trod_string Tryd.underlying9 f0
  obtain ⟨i1, i2, i3, i4, i5, b6, i7, i8, i9, e1⟩ := fr_of_trod f1
  obtain ⟨i10, e2, _, _⟩ := DataW.trod_int Tryd.underlying3 f2
  obtain ⟨i11, e3, _, w3⟩ := DataW.trod_int Tryd.underlying3 f3
  simp at e0 e1 e2 e3
  obtain ⟨g1, g2, g3, g4, g5, g6, g7, g8, g9⟩ := e1
  subst e0 g1 g2 g3 g4 g5 g6 g7 g8 g9 e2 e3
  exact ⟨⟨s0, i1, i2, i3, i4, i5, b6, i7, i8, i9, i10, i11⟩, rfl, int_le_of_wf w3⟩
set_option maxRecDepth 100000 in
theorem sacts_of_trod {H : Type} {enc : TypeId × Value → H} {W : World} {a : Option Addr} {len cap fuel : Nat} {d : DataW H} {p : List MemPlace} {sp : Nat → Bool} {held : Bool}
    (hf : DataW.trod enc Tryd.prog W 0 sp held fuel 22 (Value.slice a len cap).cells.toList = some (d, p)) : ∃ xs : List Act12, xs.length = len ∧ xs.length ≤ maxLen ∧ SActsIn W a xs := by
  rcases Deep.open_slice Tryd.underlying22 hf with ⟨hcs, _⟩ | ⟨x, l, c, m, n, D, Pl, hcs, _, hl, hm, hmm, _, hx⟩
  · simp [Value.cells] at hcs
    obtain ⟨rfl, rfl, rfl⟩ := hcs
    exact ⟨[], rfl, Nat.zero_le _, fun i h => absurd h (Nat.not_lt_zero _)⟩
  · simp [Value.cells] at hcs
    obtain ⟨rfl, rfl, rfl⟩ := hcs
    have hlm : len ≤ m := by rw [hmm]; split <;> omega
    have each : ∀ i, i < len → ∃ t : Act12, ∃ b off, some x = some ⟨b, off, none⟩ ∧ (∀ j, j < 12 → W.cell? ⟨b, off + i * 12 + j, none⟩ = (act12L t)[j]?) ∧ t.n ≤ 9223372036854775807 := by
      intro i hi
      obtain ⟨cs, h1, h2⟩ := hx i (by omega)
      obtain ⟨t, rfl, g1⟩ := sact_of_trod h2
      rw [cellsSAct] at h1
      obtain ⟨_, _, h3⟩ := World.cells?_some h1
      obtain ⟨b, off, spot⟩ := x
      obtain ⟨cs0, g3, g4⟩ := hx 0 (by omega)
      obtain ⟨t0, rfl, _⟩ := sact_of_trod g4
      rw [cellsSAct] at g3
      obtain ⟨_, _, g5⟩ := World.cells?_some g3
      have hz := g5 0 (by omega)
      have hsp : spot = none := by
        cases spot with
        | none => rfl
        | some k => unfold World.cell? Addr.add at hz; simp [act12L] at hz; revert hz; split <;> simp
      subst hsp
      refine ⟨t, b, off, rfl, fun j hj => ?_, g1⟩
      have q := h3 j hj
      simp only [Addr.add_lit] at q
      exact q
    have : Inhabited Act12 := ⟨⟨⟨#[]⟩, 0, 0, 0, 0, 0, false, 0, 0, 0, 0, 0⟩⟩
    obtain ⟨f, hf⟩ := Deep.choose_lt each
    refine ⟨(List.range len).map f, by simp, by simp; omega, fun i h => ?_⟩
    have hi : i < len := by simpa using h
    simpa using hf i hi
end Go.Proofs.YtnnknplmjiahhabDoor
namespace Go.Proofs.YtnnknplmjiahhabDoor
open Go.RowKit

theorem Tryd.infoBo : (Tryd.prog.info? 4).map (fun i => (i.zero, i.size, i.bytes)) = some (some (.bool false), 1, 1) := by kernel_rfl
theorem made_bo : madeCells (Value.bool false).cells 6 = #[.bool false, .bool false, .bool false, .bool false, .bool false, .bool false] := by first | rfl | kernel_rfl
theorem mkBo (w : World) : (Instr.makeSlice 48 (.int .i64 6) (.int .i64 6)).run Tryd.prog w = .ok (.slice (some ⟨w.heap.size, 0, none⟩) 6 6) (w.alloc (.cells #[.bool false, .bool false, .bool false, .bool false, .bool false, .bool false] 4)) := by
  obtain ⟨i0, hi, hz0, hz1, hz2⟩ := info_parts Tryd.infoBo
  have hr := run_make (P := Tryd.prog) w 48 4 i0 _ Tryd.underlying48 hi hz0 .i64 .i64 6 6 (by omega) (Int.le_refl _) (by rw [hz2]; decide) (by decide)
  rw [hz1, show Int.toNat 6 * 1 = 6 from rfl, made_bo] at hr
  exact hr
/-- Six bools in block b. -/
def VR (w : World) (b : Nat) (V : Nat → Bool) : Prop := w.heap[b]? = some (.cells #[.bool (V 0), .bool (V 1), .bool (V 2), .bool (V 3), .bool (V 4), .bool (V 5)] 4 (0, 0))
def updB (V : Nat → Bool) (d : Nat) (x : Bool) : Nat → Bool := fun e => if e = d then x else V e
section
variable {w w' : World} {b d : Nat} {V : Nat → Bool}
theorem VR.lt (h : VR w b V) : b < w.heap.size := row_ltJ h
theorem VR.later (h : VR w b V) (hb : Below w.heap.size w w') : VR w' b V := (hb.block b (row_ltJ h)).trans h
theorem VR.at_ (h : VR w b V) (hd : d < 6) : w.cell? ⟨b, d, none⟩ = some (.bool (V d)) := by
  rw [cell_of_row _ _ _ _ _ _ h]
  rcases six hd with rfl | rfl | rfl | rfl | rfl | rfl <;> rfl
theorem VR.fz (h : VR w b V) (i : Nat) : w.frozen? ⟨b, i, none⟩ = false := frozen_of_row w b i _ _ h
theorem VR.set (h : VR w b V) (hd : d < 6) (x : Bool) : VR (w.setCell ⟨b, d, none⟩ (.bool x)) b (updB V d x) := by
  unfold VR
  rw [heap_setCell_same w b d _ _ (.bool x) h]
  rcases six hd with rfl | rfl | rfl | rfl | rfl | rfl <;> rfl
theorem VR.new (w : World) : VR (w.alloc (.cells #[.bool false, .bool false, .bool false, .bool false, .bool false, .bool false] 4)) w.heap.size (fun _ => false) := heap_alloc_new w _
end
end Go.Proofs.YtnnknplmjiahhabDoor
namespace Go.Proofs.YtnnknplmjiahhabDoor
open Go.RowKit

theorem Tryd.infoI6 : (Tryd.prog.info? 3).map (fun i => (i.zero, i.size, i.bytes)) = some (some (.int .i64 0), 1, 8) := by kernel_rfl
theorem made_i6 : madeCells (Value.int .i64 0).cells 6 = #[.int .i64 0, .int .i64 0, .int .i64 0, .int .i64 0, .int .i64 0, .int .i64 0] := by first | rfl | kernel_rfl
theorem mkI6 (w : World) : (Instr.makeSlice 47 (.int .i64 6) (.int .i64 6)).run Tryd.prog w = .ok (.slice (some ⟨w.heap.size, 0, none⟩) 6 6) (w.alloc (.cells #[.int .i64 0, .int .i64 0, .int .i64 0, .int .i64 0, .int .i64 0, .int .i64 0] 3)) := by
  obtain ⟨i0, hi, hz0, hz1, hz2⟩ := info_parts Tryd.infoI6
  have hr := run_make (P := Tryd.prog) w 47 3 i0 _ Tryd.underlying47 hi hz0 .i64 .i64 6 6 (by omega) (Int.le_refl _) (by rw [hz2]; decide) (by decide)
  rw [hz1, show Int.toNat 6 * 1 = 6 from rfl, made_i6] at hr
  exact hr
/-- Six numbers in block b. -/
def IR (w : World) (b : Nat) (P : Nat → Nat) : Prop := w.heap[b]? = some (.cells #[.int .i64 (P 0 : Int), .int .i64 (P 1 : Int), .int .i64 (P 2 : Int), .int .i64 (P 3 : Int), .int .i64 (P 4 : Int), .int .i64 (P 5 : Int)] 3 (0, 0))
def updI (P : Nat → Nat) (d x : Nat) : Nat → Nat := fun e => if e = d then x else P e
section
variable {w w' : World} {b d : Nat} {P : Nat → Nat}
theorem IR.lt (h : IR w b P) : b < w.heap.size := row_ltJ h
theorem IR.later (h : IR w b P) (hb : Below w.heap.size w w') : IR w' b P := (hb.block b (row_ltJ h)).trans h
theorem IR.at_ (h : IR w b P) (hd : d < 6) : w.cell? ⟨b, d, none⟩ = some (.int .i64 (P d : Int)) := by
  rw [cell_of_row _ _ _ _ _ _ h]
  rcases six hd with rfl | rfl | rfl | rfl | rfl | rfl <;> rfl
theorem IR.fz (h : IR w b P) (i : Nat) : w.frozen? ⟨b, i, none⟩ = false := frozen_of_row w b i _ _ h
theorem IR.set (h : IR w b P) (hd : d < 6) (x : Nat) : IR (w.setCell ⟨b, d, none⟩ (.int .i64 (x : Int))) b (updI P d x) := by
  unfold IR
  rw [heap_setCell_same w b d _ _ (.int .i64 (x : Int)) h]
  rcases six hd with rfl | rfl | rfl | rfl | rfl | rfl <;> rfl
theorem IR.new (w : World) : IR (w.alloc (.cells #[.int .i64 0, .int .i64 0, .int .i64 0, .int .i64 0, .int .i64 0, .int .i64 0] 3)) w.heap.size (fun _ => 0) := heap_alloc_new w _
end
/-- Along the law: the site, its plate; what it promised, whether it voted yes. -/
structure KI (w0 w : World) (s j mb p q pb vb n : Nat) (R : Nat → Bool) (over : Bool) (B : ByteArray) (l : Int) (m : Nat) (P : Nat → Nat) (V : Nat → Bool) : Prop where
  sp : SP w0 w s j mb p q (0 : Nat) R n (dealL B.data.toList) over B l
  well : Well B over l m
  hn : n ≤ m
  ir : IR w pb P
  vr : VR w vb V
  le : ∀ d, d < 6 → P d ≤ (dealL B.data.toList d).2.pr
  p0 : w0.heap.size ≤ pb
  v0 : w0.heap.size ≤ vb
  pv : pb ≠ vb
  ps : pb ≠ s
  pm : pb ≠ mb
  pj : ¬ In3 j p q pb
  vs : vb ≠ s
  vm : vb ≠ mb
  vj : ¬ In3 j p q vb
section
variable {w0 w w' : World} {s j mb p q pb vb n m : Nat} {R : Nat → Bool} {over : Bool} {B : ByteArray} {l : Int} {P : Nat → Nat} {V : Nat → Bool}
theorem KI.later (h : KI w0 w s j mb p q pb vb n R over B l m P V) (hb : Below w.heap.size w w') : KI w0 w' s j mb p q pb vb n R over B l m P V :=
  ⟨h.sp.later hb, h.well, h.hn, h.ir.later hb, h.vr.later hb, h.le, h.p0, h.v0, h.pv, h.ps, h.pm, h.pj, h.vs, h.vm, h.vj⟩
theorem KI.drew (h : KI w0 w s j mb p q pb vb n R over B l m P V) : KI w0 w.drew s j mb p q pb vb n R over B l m P V := h.later (Below.refl _ _).drew
theorem KI.mono {k : Nat} (h : KI w0 w s j mb p q pb vb n R over B l m P V) (hk : m ≤ k) : KI w0 w s j mb p q pb vb n R over B l k P V :=
  ⟨h.sp, h.well.mono hk, Nat.le_trans h.hn hk, h.ir, h.vr, h.le, h.p0, h.v0, h.pv, h.ps, h.pm, h.pj, h.vs, h.vm, h.vj⟩
theorem KI.bel (h : KI w0 w s j mb p q pb vb n R over B l m P V) : Below w0.heap.size w0 w := h.sp.jp.bel
theorem KI.turn {over' : Bool} {B' : ByteArray} {l' : Int} {m' : Nat} (h : KI w0 w s j mb p q pb vb n R over B l m P V) (hs : SP w0 w' s j mb p q (0 : Nat) R n (dealL B'.data.toList) over' B' l') (hk : Kept (In3 j p q) w w') (hw : Well B' over' l' m') (hm : m ≤ m') (hle : ∀ d, d < 6 → (dealL B.data.toList d).2.pr ≤ (dealL B'.data.toList d).2.pr) : KI w0 w' s j mb p q pb vb n R over' B' l' m' P V :=
  ⟨hs, hw, Nat.le_trans h.hn hm, hk.row h.ir h.pj, hk.row h.vr h.vj, fun d hd => Nat.le_trans (h.le d hd) (hle d hd), h.p0, h.v0, h.pv, h.ps, h.pm, h.pj, h.vs, h.vm, h.vj⟩
theorem KI.refuse {d : Nat} (h : KI w0 w s j mb p q pb vb n R over B l m P V) (hr : SR w' s j mb (0 : Nat) (updR R d) (n + 1)) (hk : Kept (In1 mb) w w') : KI w0 w' s j mb p q pb vb (n + 1) (updR R d) over B l (m + 1) P V :=
  ⟨h.sp.refuse hr hk, h.well.mono (Nat.le_succ _), Nat.succ_le_succ h.hn, hk.row h.ir (fun e => h.pm e), hk.row h.vr (fun e => h.vm e), h.le, h.p0, h.v0, h.pv, h.ps, h.pm, h.pj, h.vs, h.vm, h.vj⟩
theorem KI.boot {s' j' mb' : Nat} {w1 : World} (h : KI w0 w1 s j mb p q pb vb n R over B l m P V) (hs : SP w0 w' s' j' mb' p q (0 : Nat) (fun _ => false) 0 (dealL B.data.toList) false B (-1)) (hb : Below w1.heap.size w1 w') (h1 : w1.heap.size ≤ j') (h2 : w1.heap.size ≤ s') (h3 : w1.heap.size ≤ mb') :
    KI w0 w' s' j' mb' p q pb vb 0 (fun _ => false) false B (-1) m P V := by
  have e1 := h.ir.lt
  have e2 := h.vr.lt
  have g2 := h.pj
  have g3 := h.vj
  refine ⟨hs, h.well.boot, Nat.zero_le _, h.ir.later hb, h.vr.later hb, h.le, h.p0, h.v0, h.pv, by omega, by omega, fun g => ?_, by omega, by omega, fun g => ?_⟩
  · unfold In3 at g g2
    omega
  · unfold In3 at g g3
    omega
/-- A promise is written down. -/
theorem KI.setP (h : KI w0 w s j mb p q pb vb n R over B l m P V) {d : Nat} (hd : d < 6) (x : Nat) (hx : x ≤ (dealL B.data.toList d).2.pr) : KI w0 (w.setCell ⟨pb, d, none⟩ (.int .i64 (x : Int))) s j mb p q pb vb n R over B l m (updI P d x) V := by
  have hk : Kept (In1 pb) w (w.setCell ⟨pb, d, none⟩ (.int .i64 (x : Int))) := (Kept.refl _ _).set1 d _
  refine ⟨h.sp.far hk (fun y e => by unfold In1 at e; rw [e]; exact h.p0) (fun y hy e => by unfold In1 at e; exact h.pj (e ▸ hy)) (fun e => h.ps e.symm) (fun e => h.pm e.symm), h.well, h.hn, h.ir.set hd x, hk.row h.vr (fun e => h.pv e.symm), fun e he => ?_, h.p0, h.v0, h.pv, h.ps, h.pm, h.pj, h.vs, h.vm, h.vj⟩
  unfold updI
  by_cases g : e = d
  · rw [if_pos g, g]; exact hx
  · rw [if_neg g]; exact h.le e he
/-- A vote is written down. -/
theorem KI.setV (h : KI w0 w s j mb p q pb vb n R over B l m P V) {d : Nat} (hd : d < 6) (x : Bool) : KI w0 (w.setCell ⟨vb, d, none⟩ (.bool x)) s j mb p q pb vb n R over B l m P (updB V d x) := by
  have hk : Kept (In1 vb) w (w.setCell ⟨vb, d, none⟩ (.bool x)) := (Kept.refl _ _).set1 d _
  exact ⟨h.sp.far hk (fun y e => by unfold In1 at e; rw [e]; exact h.v0) (fun y hy e => by unfold In1 at e; exact h.vj (e ▸ hy)) (fun e => h.vs e.symm) (fun e => h.vm e.symm), h.well, h.hn, hk.row h.ir (fun e => h.pv e), h.vr.set hd x, h.le, h.p0, h.v0, h.pv, h.ps, h.pm, h.pj, h.vs, h.vm, h.vj⟩
end
/-- Where the loop begins. -/
theorem ki_start {w0 w2 : World} {p q s j mb : Nat} {B : ByteArray} (h : SP w0 w2 s j mb p q (0 : Nat) (fun _ => false) 0 (dealL B.data.toList) false B (-1)) (hB : B = zeroB 512) :
    KI w0 ((w2.alloc (.cells #[.int .i64 0, .int .i64 0, .int .i64 0, .int .i64 0, .int .i64 0, .int .i64 0] 3)).alloc (.cells #[.bool false, .bool false, .bool false, .bool false, .bool false, .bool false] 4)) s j mb p q w2.heap.size (w2.heap.size + 1) 0 (fun _ => false) false B (-1) 0 (fun _ => 0) (fun _ => false) := by
  obtain ⟨e1, e2, e3, e4, e5⟩ := h.lts
  obtain ⟨W, HW⟩ : ∃ W, w2.alloc (.cells #[.int .i64 0, .int .i64 0, .int .i64 0, .int .i64 0, .int .i64 0, .int .i64 0] 3) = W := ⟨_, rfl⟩
  have hs : W.heap.size = w2.heap.size + 1 := by rw [← HW]; simp
  have hi : IR W w2.heap.size (fun _ => 0) := by rw [← HW]; exact IR.new w2
  have hb : Below w2.heap.size w2 W := by rw [← HW]; exact (Below.refl _ _).alloc (Nat.le_refl _) _
  have hb2 := (Below.refl W.heap.size W).alloc (Nat.le_refl _) (.cells #[.bool false, .bool false, .bool false, .bool false, .bool false, .bool false] 4)
  have hv := VR.new W
  have e6 := h.jp.bel.size
  rw [HW]
  rw [hs] at hv
  exact ⟨(h.later hb).later hb2, by rw [hB]; exact well_zero 512 (by omega), Nat.le_refl _, hi.later hb2, hv, fun d _ => Nat.zero_le _, e6, by omega, by omega, by omega, by omega, fun g => by unfold In3 at g; omega, by omega, by omega, fun g => by unfold In3 at g; omega⟩
theorem hear_kinds (s : St) (r : Bool) (k a ph : Nat) : (hearL s r k a ph).k = 0 ∨ (hearL s r k a ph).k = 2 ∨ (hearL s r k a ph).k = 4 ∨ (hearL s r k a ph).k = 6 := by
  unfold hearL
  repeat' split
  all_goals simp
/-- What a right frame makes of the states. -/
theorem hear_keeps {B : ByteArray} {over : Bool} {l : Int} {m d k a ph : Nat} {r : Bool} {g : HOut} {o : POut} (hB : 216 ≤ B.size) (h : Well B over l m) (hm : m < 1000) (hd : d < 6) (ha : a ≤ 1048576) (hp : ph ≤ 5) (hg : hearL (dealL B.data.toList d).2 r k a ph = g) (ho : pOut (dealL B.data.toList) over B l d g.st.ph g.st.pr g.st.at_ = o) :
    o.e = dealL o.b.data.toList ∧ Well o.b o.over o.l (m + 1) ∧ (∀ e, e < 6 → (dealL B.data.toList e).2.pr ≤ (dealL o.b.data.toList e).2.pr) ∧ (o.c = 0 → (dealL o.b.data.toList d).2 = g.st) ∧
    (g.k = 4 → g.yes = true → (dealL B.data.toList d).2.pr < a ∧ g.st.pr = a) ∧ (g.k = 6 → g.yes = true → (dealL B.data.toList d).2.pr ≤ a ∧ g.st.pr = a) ∧ (g.k = 2 → g.yes = false → g.st.ph = 3) := by
  subst hg
  obtain ⟨hgood, h1, h2, h3⟩ := hear_good (dealL B.data.toList d).2 r k a ph (h.good d hd) ha hp
  obtain ⟨e1, e2, e3, e4⟩ := put_well hB h hm hd hgood ho
  refine ⟨e1, e2, fun e he => ?_, fun hc => ?_, hear_tell _ r k a ph, hear_ack _ r k a ph, hear_vote _ r k a ph⟩
  · by_cases c : e = d
    · subst c
      rcases e4 with ⟨-, q⟩ | ⟨-, q⟩
      · rw [q]; exact h1
      · rw [q]; exact Nat.le_refl _
    · rw [e3 e c]; exact Nat.le_refl _
  · rcases e4 with ⟨-, q⟩ | ⟨c, -⟩
    · exact q
    · rw [c] at hc; cases hc
end Go.Proofs.YtnnknplmjiahhabDoor
