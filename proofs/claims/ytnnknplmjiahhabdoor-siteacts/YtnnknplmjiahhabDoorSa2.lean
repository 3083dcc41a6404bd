/-
  THE DOCUMENT's SITE opened (threefoldref2's NewSite); it refuses a deal.
  NUMBERS AND STATES THAT CAME IN, opened.
  A FRAME THAT CAME IN, opened.
  A LIST OF A SITE's ACTS in memory, and as it came in.
  BOTH SITES ALIKE, side by side: what stands along the law SiteActs.
  THE WALK of the law SiteActs: where it ends early.
-/
import Derived.Test.YtnnknplmjiahhabDoorSa1
import Derived.Test.YtnnknplmjiahhabDoorBa1
import Derived.Test.YtnnknplmjiahhabDoorBa13
import Derived.Test.YtnnknplmjiahhabDoorBa15
import Derived.ChangeShapes
import Derived.WideShapes
import Derived.RowKit
import Derived.Deep.Slices
import Derived.Deep.CutBlock
namespace Go.Proofs.YtnnknplmjiahhabDoor
open Go.RowKit

theorem RJ.lts {w : World} {m gn gs r : Nat} {E : Nat → Nat × St} {dead : Bool} (h : RJ w m gn gs r E dead) : m < w.heap.size ∧ gn < w.heap.size ∧ gs < w.heap.size := by
  obtain ⟨⟨cn, cs, r1⟩, ⟨N, n1, _⟩, ⟨T, t1, _⟩, _, _, _⟩ := h
  exact ⟨row_ltJ r1, row_ltJ n1, row_ltJ t1⟩
theorem alloc_two (w : World) (o1 o2 : Obj) : ((w.alloc o1).alloc o2).heap[w.heap.size]? = some o1 ∧ ((w.alloc o1).alloc o2).heap[w.heap.size + 1]? = some o2 ∧ Below w.heap.size w ((w.alloc o1).alloc o2) := by
  have hs : (w.alloc o1).heap.size = w.heap.size + 1 := by simp
  refine ⟨?_, ?_, ((Below.refl _ _).alloc (Nat.le_refl _) _).alloc (by omega) _⟩
  · rw [Below.heap_alloc _ _ _ (by omega)]; exact heap_alloc_new w _
  · rw [← hs]; exact heap_alloc_new _ _
set_option maxHeartbeats 2000000 in
set_option maxRecDepth 100000 in
theorem rsnew_rp (r : Nat) (B : ByteArray) (off cuts : Bool) (l2 id : Int) (w : World) (h : RP w r B off l2 cuts) (hB : B.size ≤ 1000) (h6 : 216 ≤ B.size) :
    Calls Tryd.prog 18 #[.int .i64 id, .pointer (some ⟨r, 0, none⟩)] w fun e w' => ∃ t m gn gs gb, e = .returned (.pointer (some ⟨t, 0, none⟩)) ∧ RJ w' m gn gs r (dealL B.data.toList) false ∧ RSt w' t m gb id (fun _ => false) ∧ Below w.heap.size w w' ∧ w.heap.size ≤ m ∧ w.heap.size ≤ gn ∧ w.heap.size ≤ gs ∧ w.heap.size ≤ gb ∧
      t ≠ m ∧ t ≠ gn ∧ t ≠ gs ∧ t ≠ gb ∧ w.heap.size ≤ t ∧ gb ≠ m ∧ gb ≠ gn ∧ gb ≠ gs := by
  have H := hid h
  clear h
  have hmb := mkBo
  obtain ⟨V, HV⟩ : ∃ V, Hid (w.alloc (.cells #[.bool false, .bool false, .bool false, .bool false, .bool false, .bool false] 4) = V) := ⟨_, rfl⟩
  have HBV : Hid (Below w.heap.size w V) := by rw [← HV.out]; exact (Below.refl _ _).alloc (Nat.le_refl _) _
  have HRV : Hid (V.heap[w.heap.size]? = some (.cells #[.bool false, .bool false, .bool false, .bool false, .bool false, .bool false] 4 (0, 0))) := by rw [← HV.out]; exact heap_alloc_new w _
  have HVP := hid (H.out.kept (S := fun _ => False) (Kept.of_below HBV.out) (fun x => x))
  have hV := HV.out
  go_enter Tryd.func18, Tryd.ntmps18
  go_wp2_with fail
  go_region_held3 (fun _ => True) (trivial) (first | (go_at_call 31; (with_reducible refine (ropen_any r B off cuts l2 _ H.out.drew hB h6).mono ?_); rintro e w1 ⟨m, gn, gs, rfl, hrj, hb, b1, b2, b3⟩) | (go_at_call 31; (with_reducible refine (ropen_any r B off cuts l2 _ HVP.out.drew hB h6).mono ?_); rintro e w1 ⟨m, gn, gs, rfl, hrj, hb, b1, b2, b3⟩))
  all_goals go_wp2_with fail
  all_goals go_ret
  · obtain ⟨q1, q2, q3⟩ := alloc_two w1 (.cells #[.bool false, .bool false, .bool false, .bool false, .bool false, .bool false] 4) (.cells #[.int .i64 id, .pointer (some ⟨m, 0, none⟩), .slice (some ⟨w1.heap.size, 0, none⟩) 6 6] 59)
    obtain ⟨e1, e2, e3⟩ := hrj.lts
    have hz : w.heap.size ≤ w1.heap.size := hb.size
    have b1' : w.heap.size ≤ m := b1
    have b2' : w.heap.size ≤ gn := b2
    have b3' : w.heap.size ≤ gs := b3
    exact ⟨w1.heap.size + 1, m, gn, gs, w1.heap.size, rfl, hrj.kept (S := fun _ => False) (Kept.of_below q3) (fun x => x) (fun x => x) (fun x => x), ⟨q2, q1⟩, ((Below.refl w.heap.size w).drew.trans hb).trans (q3.mono hz), b1', b2', b3', hz, by omega, by omega, by omega, by omega, by omega, by omega, by omega, by omega⟩
  · obtain ⟨e1, e2, e3⟩ := hrj.lts
    have hz0 : V.heap.size ≤ w1.heap.size := hb.size
    have hz1 := row_ltJ HRV.out
    have hz2 := HBV.out.size
    have b1' : V.heap.size ≤ m := b1
    have b2' : V.heap.size ≤ gn := b2
    have b3' : V.heap.size ≤ gs := b3
    have q3 := (Below.refl w1.heap.size w1).alloc (Nat.le_refl _) (.cells #[.int .i64 id, .pointer (some ⟨m, 0, none⟩), .slice (some ⟨w.heap.size, 0, none⟩) 6 6] 59)
    have q1 : w1.heap[w.heap.size]? = some (.cells #[.bool false, .bool false, .bool false, .bool false, .bool false, .bool false] 4 (0, 0)) := (hb.block _ hz1).trans HRV.out
    have hbw : Below w.heap.size w w1 := HBV.out.drew.trans (hb.mono hz2)
    exact ⟨w1.heap.size, m, gn, gs, w.heap.size, rfl, hrj.kept (S := fun _ => False) (Kept.of_below q3) (fun x => x) (fun x => x) (fun x => x), ⟨heap_alloc_new w1 _, (q3.block _ (by omega)).trans q1⟩, hbw.trans (q3.mono hbw.size), by omega, by omega, by omega, Nat.le_refl _, by omega, by omega, by omega, by omega, by omega, by omega, by omega, by omega⟩
/-- A deal more is refused. -/
theorem RSt.refuse {w : World} {t m gb d : Nat} {id : Int} {R : Nat → Bool} (h : RSt w t m gb id R) (hd : d < 6) (ht : t ≠ gb) : RSt (w.setCell ⟨gb, d, none⟩ (.bool true)) t m gb id (fun e => if e = d then true else R e) := by
  refine ⟨by rw [heap_setCell_other _ _ _ _ ht]; exact h.row, ?_⟩
  rw [heap_setCell_same w gb d _ _ (.bool true) h.refs]
  rcases six hd with rfl | rfl | rfl | rfl | rfl | rfl <;> rfl
end Go.Proofs.YtnnknplmjiahhabDoor
namespace Go.Proofs.YtnnknplmjiahhabDoor
open Go.ChangeShapes Go.WideShapes Go.RowKit

theorem cellsSt3 : Tryd.prog.cellsOf 34 = 3 := by kernel_rfl
theorem cellsInt1 : Tryd.prog.cellsOf 3 = 1 := by kernel_rfl
theorem cellsBool1 : Tryd.prog.cellsOf 4 = 1 := by kernel_rfl
theorem listOf3 {α : Type} : ∀ (l : List α), l.length = 3 → ∃ a b c, l = [a, b, c]
  | [a, b, c], _ => ⟨a, b, c, rfl⟩
theorem listOf4 {α : Type} : ∀ (l : List α), l.length = 4 → ∃ a b c d, l = [a, b, c, d]
  | [a, b, c, d], _ => ⟨a, b, c, d, rfl⟩
theorem listOf6 {α : Type} : ∀ (l : List α), l.length = 6 → ∃ a b c d e f, l = [a, b, c, d, e, f]
  | [a, b, c, d, e, f], _ => ⟨a, b, c, d, e, f, rfl⟩
theorem int_le_of_wf {n : Int} (w3 : (Lit.int .i64 n).wf = true) : n ≤ 9223372036854775807 := by
  have hmx : IntKind.i64.max = 9223372036854775807 := by decide
  have hw : decide (IntKind.i64.min ≤ n) = true ∧ decide (n ≤ IntKind.i64.max) = true := by simpa only [Lit.wf, Bool.and_eq_true] using w3
  have h2 := of_decide_eq_true hw.2
  rw [hmx] at h2
  exact h2
theorem st_of_trod {H : Type} {enc : TypeId × Value → H} {W : World} {base fuel : Nat} {cs : List Value} {x : DataW H × List MemPlace} {sp : Nat → Bool} {held : Bool}
    (h : DataW.trod enc Tryd.prog W base sp held fuel 34 cs = some x) : ∃ a b c : Int, cs = [.int .i64 a, .int .i64 b, .int .i64 c] := by
  obtain ⟨ys, n, _, _, hl, hlen, hf⟩ := DataW.trod_struct Tryd.underlying34 h
  rw [cellsSt3] at hl
  obtain ⟨c0, c1, c2, rfl⟩ := listOf3 cs hl
  obtain ⟨y0, y1, y2, rfl⟩ := listOf3 ys hlen
  have f0 : DataW.trod enc Tryd.prog W base sp held n 3 (([c0, c1, c2].drop 0).take (Tryd.prog.cellsOf 3)) = some y0 := hf 0 _ rfl
  have f1 : DataW.trod enc Tryd.prog W base sp held n 3 (([c0, c1, c2].drop 1).take (Tryd.prog.cellsOf 3)) = some y1 := hf 1 _ rfl
  have f2 : DataW.trod enc Tryd.prog W base sp held n 3 (([c0, c1, c2].drop 2).take (Tryd.prog.cellsOf 3)) = some y2 := hf 2 _ rfl
  rw [cellsInt1] at f0 f1 f2
  obtain ⟨i0, e0, _, _⟩ := DataW.trod_int Tryd.underlying3 f0
  obtain ⟨i1, e1, _, _⟩ := DataW.trod_int Tryd.underlying3 f1
  obtain ⟨i2, e2, _, _⟩ := DataW.trod_int Tryd.underlying3 f2
  simp at e0 e1 e2
  subst e0 e1 e2
  exact ⟨i0, i1, i2, rfl⟩
end Go.Proofs.YtnnknplmjiahhabDoor
namespace Go.Proofs.YtnnknplmjiahhabDoor
open Go.ChangeShapes Go.WideShapes Go.RowKit

theorem cellsFr9 : Tryd.prog.cellsOf 36 = 9 := by kernel_rfl
theorem listOf7 {α : Type} : ∀ (l : List α), l.length = 7 → ∃ a b c d e f g, l = [a, b, c, d, e, f, g]
  | [a, b, c, d, e, f, g], _ => ⟨a, b, c, d, e, f, g, rfl⟩
theorem listOf9 {α : Type} : ∀ (l : List α), l.length = 9 → ∃ a b c d e f g h i, l = [a, b, c, d, e, f, g, h, i]
  | [a, b, c, d, e, f, g, h, i], _ => ⟨a, b, c, d, e, f, g, h, i, rfl⟩
set_option maxRecDepth 100000 in
theorem fr_of_trod {H : Type} {enc : TypeId × Value → H} {W : World} {base fuel : Nat} {cs : List Value} {x : DataW H × List MemPlace} {sp : Nat → Bool} {held : Bool}
    (h : DataW.trod enc Tryd.prog W base sp held fuel 36 cs = some x) : ∃ (f t d k a : Int) (y : Bool) (ph pr pa : Int), cs = [.int .i64 f, .int .i64 t, .int .i64 d, .int .i64 k, .int .i64 a, .bool y, .int .i64 ph, .int .i64 pr, .int .i64 pa] := by
  obtain ⟨ys, n, _, _, hl, hlen, hf⟩ := DataW.trod_struct Tryd.underlying36 h
  rw [cellsFr9] at hl
  obtain ⟨c0, c1, c2, c3, c4, c5, c6, c7, c8, rfl⟩ := listOf9 cs hl
  obtain ⟨y0, y1, y2, y3, y4, y5, y6, rfl⟩ := listOf7 ys hlen
  have f0 : DataW.trod enc Tryd.prog W base sp held n 3 (([c0, c1, c2, c3, c4, c5, c6, c7, c8].drop 0).take (Tryd.prog.cellsOf 3)) = some y0 := hf 0 _ rfl
  have f1 : DataW.trod enc Tryd.prog W base sp held n 3 (([c0, c1, c2, c3, c4, c5, c6, c7, c8].drop 1).take (Tryd.prog.cellsOf 3)) = some y1 := hf 1 _ rfl
  have f2 : DataW.trod enc Tryd.prog W base sp held n 3 (([c0, c1, c2, c3, c4, c5, c6, c7, c8].drop 2).take (Tryd.prog.cellsOf 3)) = some y2 := hf 2 _ rfl
  have f3 : DataW.trod enc Tryd.prog W base sp held n 3 (([c0, c1, c2, c3, c4, c5, c6, c7, c8].drop 3).take (Tryd.prog.cellsOf 3)) = some y3 := hf 3 _ rfl
  have f4 : DataW.trod enc Tryd.prog W base sp held n 3 (([c0, c1, c2, c3, c4, c5, c6, c7, c8].drop 4).take (Tryd.prog.cellsOf 3)) = some y4 := hf 4 _ rfl
  have f5 : DataW.trod enc Tryd.prog W base sp held n 4 (([c0, c1, c2, c3, c4, c5, c6, c7, c8].drop 5).take (Tryd.prog.cellsOf 4)) = some y5 := hf 5 _ rfl
  have f6 : DataW.trod enc Tryd.prog W base sp held n 34 (([c0, c1, c2, c3, c4, c5, c6, c7, c8].drop 6).take (Tryd.prog.cellsOf 34)) = some y6 := hf 6 _ rfl
  rw [cellsInt1] at f0 f1 f2 f3 f4
  rw [cellsBool1] at f5
  rw [cellsSt3] at f6
  obtain ⟨i0, e0, _, _⟩ := DataW.trod_int Tryd.underlying3 f0
  obtain ⟨i1, e1, _, _⟩ := DataW.trod_int Tryd.underlying3 f1
  obtain ⟨i2, e2, _, _⟩ := DataW.trod_int Tryd.underlying3 f2
  obtain ⟨i3, e3, _, _⟩ := DataW.trod_int Tryd.underlying3 f3
  obtain ⟨i4, e4, _, _⟩ := DataW.trod_int Tryd.underlying3 f4
  obtain ⟨b5, e5, _⟩ := DataW.trod_bool Tryd.underlying4 f5
  obtain ⟨s0, s1, s2, es⟩ := st_of_trod f6
  simp at e0 e1 e2 e3 e4 e5 es
  obtain ⟨es0, es1, es2⟩ := es
  subst e0 e1 e2 e3 e4 e5 es0 es1 es2
  exact ⟨i0, i1, i2, i3, i4, b5, s0, s1, s2, rfl⟩
set_option maxRecDepth 100000 in
theorem fr_of_arg {H : Type} {enc : TypeId × Value → H} {W : World} {r : Reach} {base b2 fuel : Nat} {v : Value} {x : DataW H × List MemPlace} {sp : Nat → Bool} {held : Bool}
    (hv : Value.okWide Tryd.prog W r b2 36 v) (h : DataW.trod enc Tryd.prog W base sp held fuel 36 v.cells.toList = some x) : ∃ (f t d k a : Int) (y : Bool) (ph pr pa : Int), v = frV f t d k a y ph pr pa := by
  obtain ⟨cs, rfl, _⟩ := okWide_struct Tryd.underlying36 hv
  obtain ⟨f, t, d, k, a, y, ph, pr, pa, hc⟩ := fr_of_trod h
  refine ⟨f, t, d, k, a, y, ph, pr, pa, ?_⟩
  have e : cs.toList = [.int .i64 f, .int .i64 t, .int .i64 d, .int .i64 k, .int .i64 a, .bool y, .int .i64 ph, .int .i64 pr, .int .i64 pa] := by simpa [Value.cells] using hc
  show Value.agg cs = _
  rw [show cs = #[.int .i64 f, .int .i64 t, .int .i64 d, .int .i64 k, .int .i64 a, .bool y, .int .i64 ph, .int .i64 pr, .int .i64 pa] from by rw [← Array.toArray_toList (xs := cs), e]]
end Go.Proofs.YtnnknplmjiahhabDoor
namespace Go.Proofs.YtnnknplmjiahhabDoor
open Go.ChangeShapes Go.WideShapes Go.RowKit

/-- An act of the laws' list. -/
structure Act12 where
  kind : ByteArray
  f : Int
  t : Int
  d : Int
  k : Int
  a : Int
  y : Bool
  ph : Int
  pr : Int
  pa : Int
  deal : Int
  n : Int
def act12L (x : Act12) : List Value := [.string x.kind, .int .i64 x.f, .int .i64 x.t, .int .i64 x.d, .int .i64 x.k, .int .i64 x.a, .bool x.y, .int .i64 x.ph, .int .i64 x.pr, .int .i64 x.pa, .int .i64 x.deal, .int .i64 x.n]
/-- The acts xs lie behind the address. -/
def SActsIn (w : World) (ad : Option Addr) (xs : List Act12) : Prop := ∀ i (h : i < xs.length), ∃ b off, ad = some ⟨b, off, none⟩ ∧ (∀ j, j < 12 → w.cell? ⟨b, off + i * 12 + j, none⟩ = (act12L (xs[i]'h))[j]?) ∧ (xs[i]'h).n ≤ 9223372036854775807
theorem twelve {w : World} {b o : Nat} {x : Act12} (h : ∀ j, j < 12 → w.cell? ⟨b, o + j, none⟩ = (act12L x)[j]?) :
    w.cell? ⟨b, o, none⟩ = some (.string x.kind) ∧ w.cell? ⟨b, o + 1, none⟩ = some (.int .i64 x.f) ∧ w.cell? ⟨b, o + 2, none⟩ = some (.int .i64 x.t) ∧ w.cell? ⟨b, o + 3, none⟩ = some (.int .i64 x.d) ∧ w.cell? ⟨b, o + 4, none⟩ = some (.int .i64 x.k) ∧ w.cell? ⟨b, o + 5, none⟩ = some (.int .i64 x.a) ∧
    w.cell? ⟨b, o + 6, none⟩ = some (.bool x.y) ∧ w.cell? ⟨b, o + 7, none⟩ = some (.int .i64 x.ph) ∧ w.cell? ⟨b, o + 8, none⟩ = some (.int .i64 x.pr) ∧ w.cell? ⟨b, o + 9, none⟩ = some (.int .i64 x.pa) ∧ w.cell? ⟨b, o + 10, none⟩ = some (.int .i64 x.deal) ∧ w.cell? ⟨b, o + 11, none⟩ = some (.int .i64 x.n) :=
  ⟨h 0 (by omega), h 1 (by omega), h 2 (by omega), h 3 (by omega), h 4 (by omega), h 5 (by omega), h 6 (by omega), h 7 (by omega), h 8 (by omega), h 9 (by omega), h 10 (by omega), h 11 (by omega)⟩
theorem twelveR {w : World} {g : Nat} {k : ByteArray} {f t d kk a : Int} {y : Bool} {ph pr pa dl n : Int} {ty : TypeId} {fr : Nat × Nat} (h : w.heap[g]? = some (.cells #[.string k, .int .i64 f, .int .i64 t, .int .i64 d, .int .i64 kk, .int .i64 a, .bool y, .int .i64 ph, .int .i64 pr, .int .i64 pa, .int .i64 dl, .int .i64 n] ty fr)) :
    w.cell? ⟨g, 0, none⟩ = some (.string k) ∧ w.cell? ⟨g, 1, none⟩ = some (.int .i64 f) ∧ w.cell? ⟨g, 2, none⟩ = some (.int .i64 t) ∧ w.cell? ⟨g, 3, none⟩ = some (.int .i64 d) ∧ w.cell? ⟨g, 4, none⟩ = some (.int .i64 kk) ∧ w.cell? ⟨g, 5, none⟩ = some (.int .i64 a) ∧
    w.cell? ⟨g, 6, none⟩ = some (.bool y) ∧ w.cell? ⟨g, 7, none⟩ = some (.int .i64 ph) ∧ w.cell? ⟨g, 8, none⟩ = some (.int .i64 pr) ∧ w.cell? ⟨g, 9, none⟩ = some (.int .i64 pa) ∧ w.cell? ⟨g, 10, none⟩ = some (.int .i64 dl) ∧ w.cell? ⟨g, 11, none⟩ = some (.int .i64 n) := by
  refine ⟨?_, ?_, ?_, ?_, ?_, ?_, ?_, ?_, ?_, ?_, ?_, ?_⟩ <;> rw [cell_of_row _ _ _ _ _ _ h] <;> rfl
theorem cellsSAct : Tryd.prog.cellsOf 38 = 12 := by kernel_rfl
theorem cellsStr1 : Tryd.prog.cellsOf 9 = 1 := by kernel_rfl
theorem listOf12 {α : Type} : ∀ (l : List α), l.length = 12 → ∃ a b c d e f g h i j k m, l = [a, b, c, d, e, f, g, h, i, j, k, m]
  | [a, b, c, d, e, f, g, h, i, j, k, m], _ => ⟨a, b, c, d, e, f, g, h, i, j, k, m, rfl⟩
set_option maxRecDepth 100000 in
theorem sact_of_trod {H : Type} {enc : TypeId × Value → H} {W : World} {base fuel : Nat} {cs : List Value} {x : DataW H × List MemPlace} {sp : Nat → Bool} {held : Bool}
    (h : DataW.trod enc Tryd.prog W base sp held fuel 38 cs = some x) : ∃ t : Act12, cs = act12L t ∧ t.n ≤ 9223372036854775807 := by
  obtain ⟨ys, n, _, _, hl, hlen, hf⟩ := DataW.trod_struct Tryd.underlying38 h
  rw [cellsSAct] at hl
  obtain ⟨c0, c1, c2, c3, c4, c5, c6, c7, c8, c9, c10, c11, rfl⟩ := listOf12 cs hl
  obtain ⟨y0, y1, y2, y3, rfl⟩ := listOf4 ys hlen
  have f0 : DataW.trod enc Tryd.prog W base sp held n 9 (([c0, c1, c2, c3, c4, c5, c6, c7, c8, c9, c10, c11].drop 0).take (Tryd.prog.cellsOf 9)) = some y0 := hf 0 _ rfl
  have f1 : DataW.trod enc Tryd.prog W base sp held n 36 (([c0, c1, c2, c3, c4, c5, c6, c7, c8, c9, c10, c11].drop 1).take (Tryd.prog.cellsOf 36)) = some y1 := hf 1 _ rfl
  have f2 : DataW.trod enc Tryd.prog W base sp held n 3 (([c0, c1, c2, c3, c4, c5, c6, c7, c8, c9, c10, c11].drop 10).take (Tryd.prog.cellsOf 3)) = some y2 := hf 2 _ rfl
  have f3 : DataW.trod enc Tryd.prog W base sp held n 3 (([c0, c1, c2, c3, c4, c5, c6, c7, c8, c9, c10, c11].drop 11).take (Tryd.prog.cellsOf 3)) = some y3 := hf 3 _ rfl
  rw [cellsInt1] at f2 f3
  rw [cellsFr9] at f1
  rw [cellsStr1] at f0
  obtain ⟨s0, e0, _, _⟩ := DataW.trod_string Tryd.underlying9 f0
  obtain ⟨i1, i2, i3, i4, i5, b6, i7, i8, i9, e1⟩ := fr_of_trod f1
  obtain ⟨i10, e2, _, _⟩ := DataW.trod_int Tryd.underlying3 f2
  obtain ⟨i11, e3, _, w3⟩ := DataW.trod_int Tryd.underlying3 f3
  simp at e0 e1 e2 e3
  obtain ⟨g1, g2, g3, g4, g5, g6, g7, g8, g9⟩ := e1
  subst e0 g1 g2 g3 g4 g5 g6 g7 g8 g9 e2 e3
  exact ⟨⟨s0, i1, i2, i3, i4, i5, b6, i7, i8, i9, i10, i11⟩, rfl, int_le_of_wf w3⟩
set_option maxRecDepth 100000 in
theorem sacts_of_trod {H : Type} {enc : TypeId × Value → H} {W : World} {a : Option Addr} {len cap fuel : Nat} {d : DataW H} {p : List MemPlace} {sp : Nat → Bool} {held : Bool}
    (hf : DataW.trod enc Tryd.prog W 0 sp held fuel 22 (Value.slice a len cap).cells.toList = some (d, p)) : ∃ xs : List Act12, xs.length = len ∧ xs.length ≤ maxLen ∧ SActsIn W a xs := by
  rcases Deep.open_slice Tryd.underlying22 hf with ⟨hcs, _⟩ | ⟨x, l, c, m, n, D, Pl, hcs, _, hl, hm, hmm, _, hx⟩
  · simp [Value.cells] at hcs
    obtain ⟨rfl, rfl, rfl⟩ := hcs
    exact ⟨[], rfl, Nat.zero_le _, fun i h => absurd h (Nat.not_lt_zero _)⟩
  · simp [Value.cells] at hcs
    obtain ⟨rfl, rfl, rfl⟩ := hcs
    have hlm : len ≤ m := by rw [hmm]; split <;> omega
    have each : ∀ i, i < len → ∃ t : Act12, ∃ b off, some x = some ⟨b, off, none⟩ ∧ (∀ j, j < 12 → W.cell? ⟨b, off + i * 12 + j, none⟩ = (act12L t)[j]?) ∧ t.n ≤ 9223372036854775807 := by
      intro i hi
      obtain ⟨cs, h1, h2⟩ := hx i (by omega)
      obtain ⟨t, rfl, g1⟩ := sact_of_trod h2
      rw [cellsSAct] at h1
      obtain ⟨_, _, h3⟩ := World.cells?_some h1
      obtain ⟨b, off, spot⟩ := x
      obtain ⟨cs0, g3, g4⟩ := hx 0 (by omega)
      obtain ⟨t0, rfl, _⟩ := sact_of_trod g4
      rw [cellsSAct] at g3
      obtain ⟨_, _, g5⟩ := World.cells?_some g3
      have hz := g5 0 (by omega)
      have hsp : spot = none := by
        cases spot with
        | none => rfl
        | some k => unfold World.cell? Addr.add at hz; simp [act12L] at hz; revert hz; split <;> simp
      subst hsp
      refine ⟨t, b, off, rfl, fun j hj => ?_, g1⟩
      have q := h3 j hj
      simp only [Addr.add_lit] at q
      exact q
    have : Inhabited Act12 := ⟨⟨⟨#[]⟩, 0, 0, 0, 0, 0, false, 0, 0, 0, 0, 0⟩⟩
    obtain ⟨f, hf⟩ := Deep.choose_lt each
    refine ⟨(List.range len).map f, by simp, by simp; omega, fun i h => ?_⟩
    have hi : i < len := by simpa using h
    simpa using hf i hi
end Go.Proofs.YtnnknplmjiahhabDoor
namespace Go.Proofs.YtnnknplmjiahhabDoor
open Go.RowKit

/-- The document's blocks; the program's. -/
def Dc (m gn gs r t gb x : Nat) : Prop := In4 m gn gs r x ∨ x = t ∨ x = gb
def Pg (j p q s mb x : Nat) : Prop := In3 j p q x ∨ x = s ∨ x = mb
structure BI (w0 w : World) (s j mb p q n t m gn gs r gb id : Nat) (R : Nat → Bool) (E : Nat → Nat × St) (over : Bool) (B : ByteArray) (l : Int) : Prop where
  sp : SP w0 w s j mb p q (id : Int) R n E over B l
  rk : RK w m gn gs r E over B l
  rs : RSt w t m gb (id : Int) R
  en : ∀ d, d < 6 → (E d).1 < 4294967296
  apart : ∀ x, Pg j p q s mb x → ¬ Dc m gn gs r t gb x
  low : ∀ x, Dc m gn gs r t gb x → w0.heap.size ≤ x
  nt : ¬ In4 m gn gs r t
  ng : ¬ In4 m gn gs r gb
  tg : t ≠ gb
section
variable {w0 w w' : World} {s j mb p q n t m gn gs r gb id : Nat} {R : Nat → Bool} {E E' : Nat → Nat × St} {over over' : Bool} {B B' : ByteArray} {l l' : Int}
theorem BI.later (h : BI w0 w s j mb p q n t m gn gs r gb id R E over B l) (hb : Below w.heap.size w w') : BI w0 w' s j mb p q n t m gn gs r gb id R E over B l :=
  ⟨h.sp.later hb, h.rk.later hb, h.rs.later hb, h.en, h.apart, h.low, h.nt, h.ng, h.tg⟩
theorem BI.drew (h : BI w0 w s j mb p q n t m gn gs r gb id R E over B l) : BI w0 w.drew s j mb p q n t m gn gs r gb id R E over B l := h.later (Below.refl _ _).drew
theorem BI.bel (h : BI w0 w s j mb p q n t m gn gs r gb id R E over B l) : Below w0.heap.size w0 w := h.sp.jp.bel
theorem BI.d34 (h : BI w0 w s j mb p q n t m gn gs r gb id R E over B l) : ∀ x, In3 j p q x → ¬ In4 m gn gs r x := fun x hx hy => h.apart x (.inl hx) (.inl hy)
theorem BI.i3t (h : BI w0 w s j mb p q n t m gn gs r gb id R E over B l) : ¬ In3 j p q t := fun hx => h.apart t (.inl hx) (.inr (.inl rfl))
theorem BI.i3g (h : BI w0 w s j mb p q n t m gn gs r gb id R E over B l) : ¬ In3 j p q gb := fun hx => h.apart gb (.inl hx) (.inr (.inr rfl))
theorem BI.l4 (h : BI w0 w s j mb p q n t m gn gs r gb id R E over B l) : ∀ x, In4 m gn gs r x → w0.heap.size ≤ x := fun x hx => h.low x (.inl hx)
theorem BI.i4s (h : BI w0 w s j mb p q n t m gn gs r gb id R E over B l) : ¬ In4 m gn gs r s := fun hx => h.apart s (.inr (.inl rfl)) (.inl hx)
theorem BI.i4m (h : BI w0 w s j mb p q n t m gn gs r gb id R E over B l) : ¬ In4 m gn gs r mb := fun hx => h.apart mb (.inr (.inr rfl)) (.inl hx)
/-- The program's journal and plate were written: the document's are as they were. -/
theorem BI.docKept (h : BI w0 w s j mb p q n t m gn gs r gb id R E over B l) (hk : Kept (In3 j p q) w w') : RK w' m gn gs r E over B l ∧ RSt w' t m gb (id : Int) R :=
  ⟨h.rk.far hk h.d34, h.rs.kept hk h.i3t h.i3g⟩
/-- Both were written alike. -/
theorem BI.both (h : BI w0 w s j mb p q n t m gn gs r gb id R E over B l) {w1 w2 : World} (hs : SP w0 w1 s j mb p q (id : Int) R n E' over' B' l') (hk1 : Kept (In3 j p q) w w1) (hr : RK w2 m gn gs r E' over' B' l') (hk2 : Kept (In4 m gn gs r) w1 w2) (hn : ∀ d, d < 6 → (E' d).1 < 4294967296) : BI w0 w2 s j mb p q n t m gn gs r gb id R E' over' B' l' :=
  ⟨hs.far hk2 h.l4 h.d34 h.i4s h.i4m, hr, (h.docKept hk1).2.kept hk2 h.nt h.ng, hn, h.apart, h.low, h.nt, h.ng, h.tg⟩
/-- A deal is refused by both. -/
theorem BI.refuse (h : BI w0 w s j mb p q n t m gn gs r gb id R E over B l) {w1 : World} {d : Nat} (hd : d < 6) (hr : SR w1 s j mb (id : Int) (updR R d) (n + 1)) (hk : Kept (In1 mb) w w1) :
    RSt w1 t m gb (id : Int) R ∧ BI w0 (w1.setCell ⟨gb, d, none⟩ (.bool true)) s j mb p q (n + 1) t m gn gs r gb id (updR R d) E over B l := by
  have a1 : ¬ In1 mb t := fun e => h.apart mb (.inr (.inr rfl)) (.inr (.inl e.symm))
  have a2 : ¬ In1 mb gb := fun e => h.apart mb (.inr (.inr rfl)) (.inr (.inr e.symm))
  have rs1 := h.rs.kept hk a1 a2
  have hk2 : Kept (In1 gb) w1 (w1.setCell ⟨gb, d, none⟩ (.bool true)) := (Kept.refl _ _).set1 d _
  have sp1 := h.sp.refuse hr hk
  refine ⟨rs1, sp1.far hk2 (fun x e => by unfold In1 at e; rw [e]; exact h.low gb (.inr (.inr rfl))) (fun x hx e => by unfold In1 at e; subst e; exact h.i3g hx) (fun e => h.apart s (.inr (.inl rfl)) (.inr (.inr e))) (fun e => h.apart mb (.inr (.inr rfl)) (.inr (.inr e))), ?_, rs1.refuse hd h.tg, h.en, h.apart, h.low, h.nt, h.ng, h.tg⟩
  exact (h.rk.far hk (fun x e => by unfold In1 at e; rw [e]; exact h.i4m)).far hk2 (fun x e => by unfold In1 at e; rw [e]; exact h.ng)
end
/-- Where both are new. -/
theorem bi_new {w0 w1 w2 : World} {s j mb p q t m gn gs r gb id : Nat} {B : ByteArray} {l : Int} (hs : SP w0 w1 s j mb p q (id : Int) (fun _ => false) 0 (dealL B.data.toList) false B l) (hb : Below w1.heap.size w1 w2) (hrj : RK w2 m gn gs r (dealL B.data.toList) false B l) (hrs : RSt w2 t m gb (id : Int) (fun _ => false))
    (hr0 : w0.heap.size ≤ r) (hr1 : r < w1.heap.size) (nrj : r ≠ j) (nrp : r ≠ p) (nrq : r ≠ q) (nrs : r ≠ s) (nrm : r ≠ mb) (b1 : w1.heap.size ≤ m) (b2 : w1.heap.size ≤ gn) (b3 : w1.heap.size ≤ gs) (b4 : w1.heap.size ≤ gb) (b5 : w1.heap.size ≤ t)
    (t1 : t ≠ m) (t2 : t ≠ gn) (t3 : t ≠ gs) (t4 : t ≠ gb) (g1 : gb ≠ m) (g2 : gb ≠ gn) (g3 : gb ≠ gs) : BI w0 w2 s j mb p q 0 t m gn gs r gb id (fun _ => false) (dealL B.data.toList) false B l := by
  obtain ⟨e1, e2, e3, e4, e5⟩ := hs.lts
  have e6 := hs.jp.bel.size
  refine ⟨hs.later hb, hrj, hrs, fun d _ => deal_lt _ d, fun x hx hy => ?_, fun x hx => ?_, fun g => ?_, fun g => ?_, t4⟩
  · unfold Pg In3 at hx
    unfold Dc In4 at hy
    omega
  · unfold Dc In4 at hx
    omega
  · unfold In4 at g; omega
  · unfold In4 at g; omega
/-- An answer's row is none of the document's blocks. -/
theorem AnsV.kept {w w' : World} {v : Value} {c : Nat} {id f d a : Int} {h : HOut} {m gn gs r : Nat} {E : Nat → Nat × St} {over : Bool} {B : ByteArray} {l : Int} (x : AnsV w v c id f d a h) (hk : Kept (In4 m gn gs r) w w') (hr : RK w m gn gs r E over B l) : AnsV w' v c id f d a h := by
  unfold AnsV at *
  split
  · rename_i hc
    rw [if_pos hc] at x
    obtain ⟨g, cap, e, row⟩ := x
    refine ⟨g, cap, e, hk.row row (fun hg => ?_)⟩
    obtain ⟨⟨⟨cn, cs, r1⟩, ⟨N, n1, _⟩, ⟨T, t1, _⟩, _, _, _⟩, ⟨off, l', cuts, p1, _⟩, _⟩ := hr
    unfold RP at p1
    rcases hg with hg | hg | hg | hg
    · rw [hg, r1] at row; injection row with row; injection row with _ q; exact absurd q (by decide)
    · rw [hg, n1] at row; injection row with row; injection row with _ q; exact absurd q (by decide)
    · rw [hg, t1] at row; injection row with row; injection row with _ q; exact absurd q (by decide)
    · rw [hg, p1] at row; injection row with row; injection row with _ q; exact absurd q (by decide)
  · rename_i hc
    rw [if_neg hc] at x
    exact x
theorem same_ans (w : World) (v1 v2 : Value) (c : Nat) (id f d a : Int) (h : HOut) (x1 : AnsV w v1 c id f d a h) (x2 : AnsV w v2 c id f d a h) : Calls Tryd.prog 22 #[v1, v2] w fun e w' => e = .returned (.bool true) ∧ Below w.heap.size w w' := by
  unfold AnsV at x1 x2
  by_cases hc : c = 0 ∧ h.k ≠ 0
  · rw [if_pos hc] at x1 x2
    obtain ⟨g1, c1, rfl, r1⟩ := x1
    obtain ⟨g2, c2, rfl, r2⟩ := x2
    exact same_one g1 g2 c1 c2 id f d h.k a h.yes h.st.ph h.st.pr h.st.at_ w r1 r2
  · rw [if_neg hc] at x1 x2
    subst x1 x2
    exact same_none w
/-- A cut, by its numbers. -/
theorem scut_is {w0 w : World} {j p q : Nat} {E : Nat → Nat × St} {over : Bool} {B : ByteArray} {l : Int} {A : Nat → Addr} (x : Int) (c : Nat) (l2 : Int) (h : JP w0 w j p q E over B l) (hE : HeldE w0 A) (hx : x ≤ 9223372036854775807) (hc : cC l x = c) (hl : cL l x = l2) :
    Calls Tryd.prog 10 #[.pointer (some ⟨p, 0, none⟩), .int .i64 x] w fun e w' => e = .returned (ev A c) ∧ JP w0 w' j p q E over B l2 ∧ Kept (In3 j p q) w w' := by
  subst hc hl
  exact scut_jp x h hE hx
end Go.Proofs.YtnnknplmjiahhabDoor
namespace Go.Proofs.YtnnknplmjiahhabDoor
open Go.RowKit

set_option maxHeartbeats 4000000 in
set_option maxRecDepth 100000 in
theorem sacts_early (A : Nat → Addr) (id : Int) (s : ByteArray) (ad : Option Addr) (n cap : Nat) (w : World) (hE : Held9 w A) (hm : n ≤ 9223372036854775807) (hs : 512 < s.size ∨ 60 < n) :
    Calls Tryd.prog 5 #[.int .i64 id, .string s, .slice ad n cap] w fun e w' => e = .returned (.bool true) ∧ Below w.heap.size w w' := by
  have HE := hid hE
  clear hE
  by_cases h1 : 512 < s.size
  · have hg : decide ((512 : Int) < (s.size : Int)) = true := decide_eq_true (by omega)
    go_enter Tryd.func5, Tryd.ntmps5
    go_wp2_with fail
    refine (votes_any A w HE.out.toE).mono ?_
    rintro e w1 ⟨rfl, hb1⟩
    have HB1 := hid hb1
    clear hb1
    go_wp2_with fail
    go_ret
    exact ⟨rfl, HB1.out⟩
  · have hg : decide ((512 : Int) < (s.size : Int)) = false := decide_eq_false (by omega)
    have hg2 : decide ((60 : Int) < (n : Int)) = true := decide_eq_true (by omega)
    go_enter Tryd.func5, Tryd.ntmps5
    go_wp2_with fail
    refine (votes_any A w HE.out.toE).mono ?_
    rintro e w1 ⟨rfl, hb1⟩
    have HB1 := hid hb1
    clear hb1
    go_wp2_with fail
    go_ret
    exact ⟨rfl, HB1.out⟩
set_option maxHeartbeats 4000000 in
set_option maxRecDepth 100000 in
theorem sacts_bad (A : Nat → Addr) (id : Int) (s : ByteArray) (ad : Option Addr) (n cap : Nat) (w : World) (hE : Held9 w A) (hs : s.size ≤ 512) (hn : n ≤ 60) (hid0 : id < 0 ∨ 7 ≤ id) :
    Calls Tryd.prog 5 #[.int .i64 id, .string s, .slice ad n cap] w fun e w' => e = .returned (.bool true) ∧ Below w.heap.size w w' := by
  have HE := hid hE
  clear hE
  have hg : decide ((512 : Int) < (s.size : Int)) = false := decide_eq_false (by omega)
  have hg2 : decide ((60 : Int) < (n : Int)) = false := decide_eq_false (by omega)
  go_enter Tryd.func5, Tryd.ntmps5
  go_wp2_with fail
  refine (votes_any A w HE.out.toE).mono ?_
  rintro e w1 ⟨rfl, hb1⟩
  have HB1 := hid hb1
  clear hb1
  go_wp2_with fail
  refine (pfrom_ok s w1 (by omega)).mono ?_
  rintro e w2 ⟨rfl, hP, hb2, -⟩
  have HB2 := hid (HB1.out.trans (hb2.mono HB1.out.size))
  have hpq := HB1.out.size
  obtain ⟨p, Hp⟩ : ∃ p, Hid (w1.heap.size + 1 = p) := ⟨_, rfl⟩
  obtain ⟨q, Hq⟩ : ∃ q, Hid (w1.heap.size = q) := ⟨_, rfl⟩
  have p0 : w.heap.size ≤ p := by rw [← Hp.out]; omega
  have q0 : w.heap.size ≤ q := by rw [← Hq.out]; omega
  rw [Hp.out, Hq.out] at hP
  have HP := hid hP
  have hpp := Hp.out
  clear hP hb2
  go_wp2_with fail
  refine (snew_bad A id _ w2 (HE.out.later HB2.out).toE hid0).mono ?_
  rintro e w3 ⟨rfl, hb3⟩
  have HB3 := hid (HB2.out.trans (hb3.mono HB2.out.size))
  clear hb3
  unfold ev
  obtain ⟨X, HXw⟩ : ∃ X, Hid (w3.alloc (.cells #[.string s, .bool false, .int .i64 0, .bool false] 52) = X) := ⟨_, rfl⟩
  have HRX : Hid (RP X w3.heap.size s false 0 false) := by rw [← HXw.out]; exact heap_alloc_new w3 _
  have HBX : Hid (Below w.heap.size w X) := by rw [← HXw.out]; exact HB3.out.alloc HB3.out.size _
  go_wp2_with fail
  rw [HXw.out]
  refine (ropenerr_any w3.heap.size s false false 0 X HRX.out (by omega)).mono ?_
  rintro e wx ⟨rfl, hx⟩
  subst wx
  obtain ⟨ec, Hec⟩ : ∃ ec : Int, Hid ((if s.size < 216 then 2 else if false then 6 else 0) = ec) := ⟨_, rfl⟩
  rw [Hec.out]
  by_cases h0 : id < 0
  · clear hid0
    go_wp2_with fail
    refine (coded_ev A 2 X (HE.out.later HBX.out) (by omega)).mono ?_
    rintro e w5 ⟨rfl, hb5⟩
    have HB5 := hid (HBX.out.trans (hb5.mono HBX.out.size))
    clear hb5
    go_wp2_with fail
    go_ret
    exact ⟨rfl, HB5.out⟩
  · have h7 : 7 ≤ id := by omega
    clear hid0
    go_wp2_with fail
    refine (coded_ev A 2 X (HE.out.later HBX.out) (by omega)).mono ?_
    rintro e w5 ⟨rfl, hb5⟩
    have HB5 := hid (HBX.out.trans (hb5.mono HBX.out.size))
    clear hb5
    go_wp2_with fail
    go_ret
    exact ⟨rfl, HB5.out⟩
set_option maxHeartbeats 4000000 in
set_option maxRecDepth 100000 in
theorem sacts_short (A : Nat → Addr) (id : Int) (s : ByteArray) (ad : Option Addr) (n cap : Nat) (w : World) (hE : Held9 w A) (hs : s.size < 216) (hn : n ≤ 60) (i0 : 0 ≤ id) (i7 : id < 7) :
    Calls Tryd.prog 5 #[.int .i64 id, .string s, .slice ad n cap] w fun e w' => e = .returned (.bool true) ∧ Below w.heap.size w w' := by
  have HrC : Hid (rC s (-1) 0 216 = 1 + 1) := by unfold Hid rC; rw [if_pos (by omega)]
  have HE := hid hE
  clear hE
  have hg : decide ((512 : Int) < (s.size : Int)) = false := decide_eq_false (by omega)
  have hg2 : decide ((60 : Int) < (n : Int)) = false := decide_eq_false (by omega)
  go_enter Tryd.func5, Tryd.ntmps5
  go_wp2_with fail
  refine (votes_any A w HE.out.toE).mono ?_
  rintro e w1 ⟨rfl, hb1⟩
  have HB1 := hid hb1
  clear hb1
  go_wp2_with fail
  refine (pfrom_ok s w1 (by omega)).mono ?_
  rintro e w2 ⟨rfl, hP, hb2, -⟩
  have HB2 := hid (HB1.out.trans (hb2.mono HB1.out.size))
  have hpq := HB1.out.size
  obtain ⟨p, Hp⟩ : ∃ p, Hid (w1.heap.size + 1 = p) := ⟨_, rfl⟩
  obtain ⟨q, Hq⟩ : ∃ q, Hid (w1.heap.size = q) := ⟨_, rfl⟩
  have p0 : w.heap.size ≤ p := by rw [← Hp.out]; omega
  have q0 : w.heap.size ≤ q := by rw [← Hq.out]; omega
  rw [Hp.out, Hq.out] at hP
  have HP := hid hP
  have hpp := Hp.out
  clear hP hb2
  go_wp2_with fail
  refine (snew_err A id p q s (-1) 1 w2 HP.out (HE.out.later HB2.out).toE (by omega) HrC.out i0 i7).mono ?_
  rintro e w3 ⟨rfl, hw3⟩
  have HB3 := HB2
  subst hw3
  obtain ⟨X, HXw⟩ : ∃ X, Hid (w3.alloc (.cells #[.string s, .bool false, .int .i64 0, .bool false] 52) = X) := ⟨_, rfl⟩
  have HRX : Hid (RP X w3.heap.size s false 0 false) := by rw [← HXw.out]; exact heap_alloc_new w3 _
  have HBX : Hid (Below w.heap.size w X) := by rw [← HXw.out]; exact HB3.out.alloc HB3.out.size _
  go_wp2_with fail
  rw [HXw.out]
  refine (ropenerr_any w3.heap.size s false false 0 X HRX.out (by omega)).mono ?_
  rw [if_pos hs]
  rintro e wx ⟨rfl, hx⟩
  subst wx
  go_wp2_with fail
  refine (coded_ev A 2 X (HE.out.later HBX.out) (by omega)).mono ?_
  rintro e w5 ⟨rfl, hb5⟩
  have HB5 := hid (HBX.out.trans (hb5.mono HBX.out.size))
  clear hb5
  go_wp2_with fail
  go_ret
  exact ⟨rfl, HB5.out⟩
end Go.Proofs.YtnnknplmjiahhabDoor
