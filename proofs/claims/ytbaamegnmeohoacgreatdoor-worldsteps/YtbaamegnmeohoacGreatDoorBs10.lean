/-
  On the way to WStepsProof: JQ RTE JS RVP S6 S5 S7 KA KS.
-/
import Derived.Test.YtbaamegnmeohoacGreatDoorBs9
import Derived.Test.YtbaamegnmeohoacGreatDoorBs1
import Derived.Test.YtbaamegnmeohoacGreatDoorBs4
import Derived.Test.YtbaamegnmeohoacGreatDoorBs5
import Derived.Test.YtbaamegnmeohoacGreatDoorBs7
import Derived.Test.YtbaamegnmeohoacGreatDoorBs6
import Derived.Deep.CutRange
import Derived.Maps.OwnSet
namespace Go.Proofs.YtbaamegnmeohoacGreatDoor
open Go.RowKit
section
variable {w0 w w1 w2 : World} {j p q : Nat} {E : Nat → Nat × St} {over : Bool} {B : ByteArray} {l : Int} {A : Nat → Addr}
theorem jp_new (hb : Below w0.heap.size w0 w1) (h : Pl w1 p q B l) (hp : w0.heap.size ≤ p) (hq : w0.heap.size ≤ q) (hj : JR w2 j p E over) (hb2 : Below w1.heap.size w1 w2) (hj0 : w1.heap.size ≤ j) (h0 : -2 ≤ l) (h1 : l ≤ 9223372036854775807) (hs : B.size ≤ 1000) (h6 : 216 ≤ B.size) : JP w0 w2 j p q E over B l := by
  have e1 := row_lt h.head
  have e2 := row_lt h.row
  exact ⟨hb.trans (hb2.mono hb.size), hj, h.kept (S := fun _ => False) (Kept.of_below hb2) (fun x => x) (fun x => x), by omega, by omega, Nat.le_trans hb.size hj0, hp, hq, h0, h1, hs, h6⟩
end
theorem keptC {g : Nat} {w w' : World} {a : Addr} {v : Value} (h : Kept (In1 g) w w') (hc : w.cell? a = some v) (hs : a.block ≠ g) : w'.cell? a = some v := by
  rw [World.cell?_of_block (h.block _ (cell_lt hc) (fun e => hs e))]; exact hc
theorem keptF {g b : Nat} {w w' : World} {i : Nat} {o : Obj} (h : Kept (In1 g) w w') (hr : w.heap[b]? = some o) (hs : b ≠ g) : w'.frozen? ⟨b, i, none⟩ = w.frozen? ⟨b, i, none⟩ := World.frozen?_of_block (h.block b (row_ltJ hr) (fun e => hs e))
theorem st_eql (x0 x1 x2 y0 y1 y2 : Int) (b : Bool) (h : decide (x0 = y0 ∧ x1 = y1 ∧ x2 = y2) = b) (w : World) :
    (binOp .eql 113 (.agg #[.int .i64 x0, .int .i64 x1, .int .i64 x2]) (.agg #[.int .i64 y0, .int .i64 y1, .int .i64 y2])).run Tryz.prog w = .ok (.bool b) w := by
  subst h
  by_cases h0 : x0 = y0 <;> by_cases h1 : x1 = y1 <;> by_cases h2 : x2 = y2
  all_goals
    simp only [h0, h1, h2, and_true, and_self, and_false, decide_true, decide_false]
    go_simp
def sts (B : ByteArray) : Nat → St := fun d => (dealL B.data.toList d).2
theorem st_neq (x0 x1 x2 : Int) (w : World) :
    (binOp .neq 113 (.agg #[.int .i64 x0, .int .i64 x1, .int .i64 x2]) (.agg #[.int .i64 x0, .int .i64 x1, .int .i64 x2])).run Tryz.prog w = .ok (.bool false) w := by
  go_simp
theorem get_is (j p d : Nat) (E : Nat → Nat × St) (over : Bool) (h1 h2 h3 : Nat) (w : World) (h : JR w j p E over) (hd : d < 6) (hs : (E d).2 = ⟨h1, h2, h3⟩) :
    Calls Tryz.prog 151 #[.pointer (some ⟨j, 0, none⟩), .int .i64 (d : Int)] w fun e w' => e = .returned (.tuple #[.agg #[.int .i64 (h1 : Int), .int .i64 (h2 : Int), .int .i64 (h3 : Int)], .nilIface]) ∧ Below w.heap.size w w' := by
  have := get_ok j p d E over w h hd
  rw [hs] at this
  exact this
end Go.Proofs.YtbaamegnmeohoacGreatDoor
namespace Go.Proofs.YtbaamegnmeohoacGreatDoor
open Go.RowKit
def pOut (E : Nat → Nat × St) (over : Bool) (B : ByteArray) (l : Int) (dl ph pr a : Int) : POut :=
  if over = true then ⟨6, E, true, B, l⟩ else if (0 ≤ dl ∧ dl < 6) ∧ fitsB ph pr a = true then putIn E B l dl.toNat ⟨ph.toNat, pr.toNat, a.toNat⟩ else ⟨2, E, false, B, l⟩
section
variable {w0 w w' : World} {j p q m gn gs r : Nat} {E : Nat → Nat × St} {over dead : Bool} {B : ByteArray} {l : Int} {A : Nat → Addr}
theorem in_nat {dl ph pr a : Int} (h : (0 ≤ dl ∧ dl < 6) ∧ fitsB ph pr a = true) : ∃ d h1 h2 h3 : Nat, dl = d ∧ ph = h1 ∧ pr = h2 ∧ a = h3 := by
  obtain ⟨b1, b2, b3, b4, b5, b6⟩ := of_decide_eq_true h.2
  exact ⟨dl.toNat, ph.toNat, pr.toNat, a.toNat, by omega, by omega, by omega, by omega⟩
theorem jput_any (dl ph pr a : Int) (o : POut) (ho : pOut E over B l dl ph pr a = o) (h : JP w0 w j p q E over B l) (hE : HeldE w0 A) (hn : ∀ d, d < 6 → (E d).1 < 4294967296) :
    Calls Tryz.prog 229 #[.pointer (some ⟨j, 0, none⟩), .int .i64 dl, .agg #[.int .i64 ph, .int .i64 pr, .int .i64 a]] w fun e w' => e = .returned (ev A o.c) ∧ JP w0 w' j p q o.e o.over o.b o.l ∧ Kept (In3 j p q) w w' := by
  subst ho
  unfold pOut
  cases over with
  | true => rw [if_pos rfl]; exact put_over A w0 w j p q E B l dl ph pr a h hE
  | false =>
    rw [if_neg (by decide)]
    by_cases hb : (0 ≤ dl ∧ dl < 6) ∧ fitsB ph pr a = true
    · rw [if_pos hb]
      obtain ⟨d, h1, h2, h3, rfl, rfl, rfl, rfl⟩ := in_nat hb
      simp only [Int.toNat_natCast]
      exact put_in A w0 w j p q E B l d ⟨h1, h2, h3⟩ h hE (by omega) hb.2 (hn d (by omega))
    · rw [if_neg hb]; exact put_bound A w0 w j p q E B l dl ph pr a h hE hb
theorem JP.far {S : Nat → Prop} (h : JP w0 w j p q E over B l) (k : Kept S w w') (hS : ∀ x, S x → w0.heap.size ≤ x) (hd : ∀ x, In3 j p q x → ¬ S x) : JP w0 w' j p q E over B l :=
  ⟨k.below h.bel.size hS h.bel, k.row h.jr (hd j (.inl rfl)), h.pl.kept k (hd p (.inr (.inl rfl))) (hd q (.inr (.inr rfl))), h.jp, h.jq, h.j0, h.p0, h.q0, h.l0, h.l1, h.sz, h.s6⟩
theorem In2.in3 {x : Nat} (h : In2 p q x) : In3 j p q x := .inr h
end
end Go.Proofs.YtbaamegnmeohoacGreatDoor
namespace Go.Proofs.YtbaamegnmeohoacGreatDoor
theorem good_fits {s : St} (h : s.good) : fitsB s.ph s.pr s.at_ = true := by
  obtain ⟨h1, h2, h3⟩ := h
  exact decide_eq_true (by omega)
structure Well (B : ByteArray) (over : Bool) (l : Int) (m : Nat) : Prop where
  good : ∀ d, d < 6 → (dealL B.data.toList d).2.good
  num : ∀ d, d < 6 → (dealL B.data.toList d).1 ≤ m
  pow : over = false → l ≠ -2
theorem Well.mono {B : ByteArray} {over : Bool} {l : Int} {m k : Nat} (h : Well B over l m) (hk : m ≤ k) : Well B over l k := ⟨h.good, fun d hd => Nat.le_trans (h.num d hd) hk, h.pow⟩
theorem Well.on {B : ByteArray} {over : Bool} {l : Int} {m : Nat} (h : Well B over l m) : Well B over (-1) m := ⟨h.good, h.num, fun _ => by omega⟩
theorem Well.cut {B : ByteArray} {over : Bool} {l : Int} {m : Nat} (n : Int) (h : Well B over l m) : Well B over (cL l n) m := by
  refine ⟨h.good, h.num, fun ho => ?_⟩
  have := h.pow ho
  unfold cL
  rw [if_neg this]
  split
  · exact this
  · omega
theorem well_zero (n : Nat) (h : 216 ≤ n) : Well (zeroB n) false (-1) 0 :=
  ⟨fun d hd => by rw [deal_zero n d (by omega)]; exact ⟨by decide, by decide, by decide⟩, fun d hd => by rw [deal_zero n d (by omega)]; exact Nat.le_refl _, fun _ => by omega⟩
end Go.Proofs.YtbaamegnmeohoacGreatDoor
namespace Go.Proofs.YtbaamegnmeohoacGreatDoor
open Go.RowKit
theorem mlaw : Maps.Keyed Tryz.prog 3 := Maps.int_keyed Tryz.underlying3
theorem munit (w : World) : (zeroValue 198).run Tryz.prog w = .ok (.agg #[]) w := by kernel_rfl
theorem mkey {a : Int} (h : -9223372036854775808 ≤ a ∧ a ≤ 9223372036854775807) : keyOf Tryz.prog 3 (.int .i64 a) = some (.int .i64 a) := by
  refine Maps.keyOf_int_mk Tryz.underlying3 ?_
  have h1 : IntKind.i64.min = -9223372036854775808 := by decide
  have h2 : IntKind.i64.max = 9223372036854775807 := by decide
  simp only [Lit.wf, Bool.and_eq_true, decide_eq_true_eq, h1, h2]
  exact h
theorem mkeyN {d : Nat} (h : d < 6) : keyOf Tryz.prog 3 (.int .i64 (d : Int)) = some (.int .i64 (d : Int)) := mkey (by omega)
structure SR (w : World) (s j mb : Nat) (id : Int) (R : Nat → Bool) (n : Nat) : Prop where
  row : w.heap[s]? = some (.cells #[.pointer (some ⟨j, 0, none⟩), .int .i64 id, .map (some mb)] 160 (0, 0))
  ref : ∃ D : DataW Unit, w.ownsMap Tryz.prog 3 unitElem mb n D ∧ ∀ d : Nat, d < 6 → Maps.has D (.int .i64 (d : Int)) = R d
theorem ownsMap_kept {S : Nat → Prop} {w w' : World} {P : Program} {k : TypeId} {H : Type} {R : Value → Option (DataW H × List MemPlace)} {b n : Nat} {D : DataW H} (h : w.ownsMap P k R b n D) (hk : Kept S w w') (hs : ¬ S b) : w'.ownsMap P k R b n D := by
  obtain ⟨es, cl, hb, r⟩ := h
  exact ⟨es, cl, hk.row hb hs, r⟩
section
variable {w w' : World} {s j mb n : Nat} {id : Int} {R : Nat → Bool}
theorem SR.kept {S : Nat → Prop} (h : SR w s j mb id R n) (k : Kept S w w') (h1 : ¬ S s) (h2 : ¬ S mb) : SR w' s j mb id R n := by
  obtain ⟨r, D, hD, hh⟩ := h
  exact ⟨k.row r h1, D, ownsMap_kept hD k h2, hh⟩
theorem SR.later (h : SR w s j mb id R n) (hb : Below w.heap.size w w') : SR w' s j mb id R n := h.kept (S := fun _ => False) (Kept.of_below hb) (fun x => x) (fun x => x)
theorem SR.drew (h : SR w s j mb id R n) : SR w.drew s j mb id R n := h.later (Below.refl _ _).drew
theorem SR.mono {m : Nat} (h : SR w s j mb id R n) (hn : n ≤ m) : SR w s j mb id R m := by
  obtain ⟨r, D, hD, hh⟩ := h
  exact ⟨r, D, hD.mono hn, hh⟩
theorem SR.cells (h : SR w s j mb id R n) : w.cell? ⟨s, 0, none⟩ = some (.pointer (some ⟨j, 0, none⟩)) ∧ w.cell? ⟨s, 1, none⟩ = some (.int .i64 id) ∧ w.cell? ⟨s, 2, none⟩ = some (.map (some mb)) := by
  refine ⟨?_, ?_, ?_⟩ <;> rw [cell_of_row _ _ _ _ _ _ h.row] <;> rfl
theorem SR.lts (h : SR w s j mb id R n) : s < w.heap.size ∧ mb < w.heap.size := by
  obtain ⟨r, D, hD, _⟩ := h
  exact ⟨row_ltJ r, hD.lt⟩
end
def updR (R : Nat → Bool) (d : Nat) : Nat → Bool := fun e => if e = d then true else R e
structure SP (w0 w : World) (s j mb p q : Nat) (id : Int) (R : Nat → Bool) (n : Nat) (E : Nat → Nat × St) (over : Bool) (B : ByteArray) (l : Int) : Prop where
  jp : JP w0 w j p q E over B l
  sr : SR w s j mb id R n
  ns : ¬ In3 j p q s
  nm : ¬ In3 j p q mb
  sm : s ≠ mb
  s0 : w0.heap.size ≤ s
  m0 : w0.heap.size ≤ mb
section
variable {w0 w w' : World} {s j mb p q n : Nat} {id : Int} {R : Nat → Bool} {E E' : Nat → Nat × St} {over over' : Bool} {B B' : ByteArray} {l l' : Int}
theorem SP.later (h : SP w0 w s j mb p q id R n E over B l) (hb : Below w.heap.size w w') : SP w0 w' s j mb p q id R n E over B l := ⟨h.jp.later hb, h.sr.later hb, h.ns, h.nm, h.sm, h.s0, h.m0⟩
theorem SP.drew (h : SP w0 w s j mb p q id R n E over B l) : SP w0 w.drew s j mb p q id R n E over B l := h.later (Below.refl _ _).drew
theorem SP.mono {m : Nat} (h : SP w0 w s j mb p q id R n E over B l) (hn : n ≤ m) : SP w0 w s j mb p q id R m E over B l := ⟨h.jp, h.sr.mono hn, h.ns, h.nm, h.sm, h.s0, h.m0⟩
theorem SP.turn (h : SP w0 w s j mb p q id R n E over B l) (hj : JP w0 w' j p q E' over' B' l') (hk : Kept (In3 j p q) w w') : SP w0 w' s j mb p q id R n E' over' B' l' := ⟨hj, h.sr.kept hk h.ns h.nm, h.ns, h.nm, h.sm, h.s0, h.m0⟩
theorem SP.far {S : Nat → Prop} (h : SP w0 w s j mb p q id R n E over B l) (k : Kept S w w') (hS : ∀ x, S x → w0.heap.size ≤ x) (hd : ∀ x, In3 j p q x → ¬ S x) (h1 : ¬ S s) (h2 : ¬ S mb) : SP w0 w' s j mb p q id R n E over B l := ⟨h.jp.far k hS hd, h.sr.kept k h1 h2, h.ns, h.nm, h.sm, h.s0, h.m0⟩
theorem SP.lts (h : SP w0 w s j mb p q id R n E over B l) : s < w.heap.size ∧ mb < w.heap.size ∧ j < w.heap.size ∧ p < w.heap.size ∧ q < w.heap.size := ⟨h.sr.lts.1, h.sr.lts.2, h.jp.jr.lt, row_lt h.jp.pl.head, row_lt h.jp.pl.row⟩
end
theorem isend_is (p : Nat) (b : Bool) (w : World) (h : finB p = b) : Calls Tryz.prog 253 #[.int .i64 (p : Int)] w fun e w' => e = .returned (.bool b) ∧ w' = w := by
  subst h
  unfold finB
  by_cases h2 : p = 2
  · subst h2
    go_enter Tryz.func253, Tryz.ntmps253
    go_wp2_with fail
    go_ret
    exact ⟨rfl, rfl⟩
  · by_cases h3 : p = 3
    · subst h3
      go_enter Tryz.func253, Tryz.ntmps253
      go_wp2_with fail
      go_ret
      exact ⟨rfl, rfl⟩
    · rw [decide_eq_false (by omega)]
      have g2 : ¬ (p : Int) = 2 := by omega
      have g3 : ¬ (p : Int) = 3 := by omega
      go_enter Tryz.func253, Tryz.ntmps253
      go_wp2_with fail
      go_ret
      exact ⟨by simp; omega, rfl⟩
abbrev agS (h p a : Nat) : Value := .agg #[.int .i64 (h : Int), .int .i64 (p : Int), .int .i64 (a : Int)]
structure In2r (w W : World) (x y z : Int) : Prop where
  a : W.heap[w.heap.size]? = some (.cells #[.int .i64 x, .int .i64 y, .int .i64 z] 113 (0, 0))
  r : W.heap[w.heap.size + 1]? = some (.cells #[.int .i64 0, .int .i64 0, .int .i64 0] 113 (0, 0))
  b : Below w.heap.size w W
theorem in2r (w : World) (x y z : Int) : In2r w ((w.alloc (.cells #[.int .i64 x, .int .i64 y, .int .i64 z] 113)).alloc (.cells #[.int .i64 0, .int .i64 0, .int .i64 0] 113)) x y z := by
  have hs : (w.alloc (.cells #[.int .i64 x, .int .i64 y, .int .i64 z] 113)).heap.size = w.heap.size + 1 := by simp
  refine ⟨?_, ?_, ((Below.refl _ _).alloc (Nat.le_refl _) _).alloc (by omega) _⟩
  · rw [Below.heap_alloc _ _ _ (by omega)]; exact heap_alloc_new w _
  · rw [← hs]; exact heap_alloc_new _ _
section
variable {w W : World} {x y z : Int}
theorem In2r.cells (h : In2r w W x y z) : W.cell? ⟨w.heap.size, 0, none⟩ = some (.int .i64 x) ∧ W.cell? ⟨w.heap.size, 1, none⟩ = some (.int .i64 y) ∧ W.cell? ⟨w.heap.size, 2, none⟩ = some (.int .i64 z) := by
  refine ⟨?_, ?_, ?_⟩ <;> rw [cell_of_row _ _ _ _ _ _ h.a] <;> rfl
theorem In2r.rcells (h : In2r w W x y z) : W.cell? ⟨w.heap.size + 1, 0, none⟩ = some (.int .i64 0) ∧ W.cell? ⟨w.heap.size + 1, 1, none⟩ = some (.int .i64 0) ∧ W.cell? ⟨w.heap.size + 1, 2, none⟩ = some (.int .i64 0) := by
  refine ⟨?_, ?_, ?_⟩ <;> rw [cell_of_row _ _ _ _ _ _ h.r] <;> rfl
theorem In2r.fz (h : In2r w W x y z) : W.frozen? ⟨w.heap.size, 0, none⟩ = false ∧ W.frozen? ⟨w.heap.size, 1, none⟩ = false ∧ W.frozen? ⟨w.heap.size + 1, 0, none⟩ = false ∧ W.frozen? ⟨w.heap.size + 1, 1, none⟩ = false ∧ W.frozen? ⟨w.heap.size + 1, 2, none⟩ = false :=
  ⟨frozen_of_row _ _ 0 _ _ h.a, frozen_of_row _ _ 1 _ _ h.a, frozen_of_row _ _ 0 _ _ h.r, frozen_of_row _ _ 1 _ _ h.r, frozen_of_row _ _ 2 _ _ h.r⟩
theorem In2r.set (h : In2r w W x y z) (i : Nat) (v : Value) : (W.setCell ⟨w.heap.size, i, none⟩ v).heap[w.heap.size + 1]? = some (.cells #[.int .i64 0, .int .i64 0, .int .i64 0] 113 (0, 0)) := (heap_setCell_other _ _ _ _ (by simp)).trans h.r
theorem In2r.out (h : In2r w W x y z) (a b c : Value) : Below w.heap.size w (((W.setCell ⟨w.heap.size + 1, 0, none⟩ a).setCell ⟨w.heap.size + 1, 1, none⟩ b).setCell ⟨w.heap.size + 1, 2, none⟩ c) := ((h.b.setCell (Nat.le_succ _) _).setCell (Nat.le_succ _) _).setCell (Nat.le_succ _) _
theorem In2r.out1 (h : In2r w W x y z) (i : Nat) (v a b c : Value) : Below w.heap.size w ((((W.setCell ⟨w.heap.size, i, none⟩ v).setCell ⟨w.heap.size + 1, 0, none⟩ a).setCell ⟨w.heap.size + 1, 1, none⟩ b).setCell ⟨w.heap.size + 1, 2, none⟩ c) := (((h.b.setCell (Nat.le_refl _) _).setCell (Nat.le_succ _) _).setCell (Nat.le_succ _) _).setCell (Nat.le_succ _) _
end
theorem promise_no (sh sp sa a : Nat) (w : World) (h : ¬ sp < a) :
    Calls Tryz.prog 246 #[agS sh sp sa, .int .i64 (a : Int)] w fun e w' => e = .returned (.tuple #[agS sh sp sa, .bool false]) ∧ Below w.heap.size w w' := by
  obtain ⟨W, HW⟩ : ∃ W, Hid (((w.alloc (.cells #[.int .i64 (sh : Int), .int .i64 (sp : Int), .int .i64 (sa : Int)] 113)).alloc (.cells #[.int .i64 0, .int .i64 0, .int .i64 0] 113)) = W) := ⟨_, rfl⟩
  have HI : Hid (In2r w W sh sp sa) := by rw [← HW.out]; exact in2r w _ _ _
  obtain ⟨c0, c1, c2⟩ := HI.out.cells
  obtain ⟨r0, r1, r2⟩ := HI.out.rcells
  obtain ⟨f0, f1, z0, z1, z2⟩ := HI.out.fz
  have hW := HW.out
  have hi : (a : Int) ≤ (sp : Int) := by omega
  go_enter Tryz.func246, Tryz.ntmps246
  go_wp2_with fail
  refine bodyPost_ret (results_row2 rfl _ _ (w.heap.size + 1) 113 _ (0, 0) _ rfl (set3 HI.out.r _ _ _) Tryz.underlying113 rfl sizeState) rfl ?_
  exact ⟨rfl, HI.out.out _ _ _⟩
theorem promise_yes (sh sp sa a : Nat) (w : World) (h : sp < a) :
    Calls Tryz.prog 246 #[agS sh sp sa, .int .i64 (a : Int)] w fun e w' => e = .returned (.tuple #[agS sh a sa, .bool true]) ∧ Below w.heap.size w w' := by
  obtain ⟨W, HW⟩ : ∃ W, Hid (((w.alloc (.cells #[.int .i64 (sh : Int), .int .i64 (sp : Int), .int .i64 (sa : Int)] 113)).alloc (.cells #[.int .i64 0, .int .i64 0, .int .i64 0] 113)) = W) := ⟨_, rfl⟩
  have HI : Hid (In2r w W sh sp sa) := by rw [← HW.out]; exact in2r w _ _ _
  obtain ⟨c0, c1, c2⟩ := HI.out.cells
  obtain ⟨r0, r1, r2⟩ := HI.out.rcells
  obtain ⟨f0, f1, z0, z1, z2⟩ := HI.out.fz
  have hW := HW.out
  have hi : ¬ (a : Int) ≤ (sp : Int) := by omega
  go_enter Tryz.func246, Tryz.ntmps246
  go_wp2_with fail
  refine bodyPost_ret (results_row2 rfl _ _ (w.heap.size + 1) 113 _ (0, 0) _ rfl (set3 (HI.out.set 1 _) _ _ _) Tryz.underlying113 rfl sizeState) rfl ?_
  exact ⟨rfl, HI.out.out1 _ _ _ _ _⟩
theorem prepare_no (sh sp sa ph a : Nat) (fb : Bool) (w : World) (hf : finB sh = fb) (h : ¬ (sp ≤ a ∧ fb = false)) :
    Calls Tryz.prog 247 #[agS sh sp sa, .int .i64 (ph : Int), .int .i64 (a : Int)] w fun e w' => e = .returned (.tuple #[agS sh sp sa, .bool false]) ∧ Below w.heap.size w w' := by
  obtain ⟨W, HW⟩ : ∃ W, Hid (((w.alloc (.cells #[.int .i64 (sh : Int), .int .i64 (sp : Int), .int .i64 (sa : Int)] 113)).alloc (.cells #[.int .i64 0, .int .i64 0, .int .i64 0] 113)) = W) := ⟨_, rfl⟩
  have HI : Hid (In2r w W sh sp sa) := by rw [← HW.out]; exact in2r w _ _ _
  obtain ⟨c0, c1, c2⟩ := HI.out.cells
  obtain ⟨r0, r1, r2⟩ := HI.out.rcells
  obtain ⟨f0, f1, z0, z1, z2⟩ := HI.out.fz
  have hW := HW.out
  have HF := hid hf
  clear hf
  by_cases hpa : sp ≤ a
  · obtain rfl : fb = true := by cases fb with | true => rfl | false => exact absurd ⟨hpa, rfl⟩ h
    clear h
    have hi : ¬ (a : Int) < (sp : Int) := by omega
    go_enter Tryz.func247, Tryz.ntmps247
    go_wp2_with (go_at_call 253; (with_reducible refine (isend_is sh true _ HF.out).mono ?_); rintro e wx ⟨rfl, hx⟩; subst wx)
    refine bodyPost_ret (results_row2 rfl _ _ (w.heap.size + 1) 113 _ (0, 0) _ rfl (set3 HI.out.r _ _ _) Tryz.underlying113 rfl sizeState) rfl ?_
    exact ⟨rfl, HI.out.out _ _ _⟩
  · clear h
    have hi : (a : Int) < (sp : Int) := by omega
    go_enter Tryz.func247, Tryz.ntmps247
    go_wp2_with (go_at_call 253; (with_reducible refine (isend_is sh fb _ HF.out).mono ?_); rintro e wx ⟨rfl, hx⟩; subst wx)
    refine bodyPost_ret (results_row2 rfl _ _ (w.heap.size + 1) 113 _ (0, 0) _ rfl (set3 HI.out.r _ _ _) Tryz.underlying113 rfl sizeState) rfl ?_
    exact ⟨rfl, HI.out.out _ _ _⟩
theorem prepare_yes (sh sp sa ph a : Nat) (w : World) (hf : finB sh = false) (h : sp ≤ a) :
    Calls Tryz.prog 247 #[agS sh sp sa, .int .i64 (ph : Int), .int .i64 (a : Int)] w fun e w' => e = .returned (.tuple #[agS ph a a, .bool true]) ∧ Below w.heap.size w w' := by
  obtain ⟨W, HW⟩ : ∃ W, Hid (((w.alloc (.cells #[.int .i64 (sh : Int), .int .i64 (sp : Int), .int .i64 (sa : Int)] 113)).alloc (.cells #[.int .i64 0, .int .i64 0, .int .i64 0] 113)) = W) := ⟨_, rfl⟩
  have HI : Hid (In2r w W sh sp sa) := by rw [← HW.out]; exact in2r w _ _ _
  obtain ⟨c0, c1, c2⟩ := HI.out.cells
  obtain ⟨r0, r1, r2⟩ := HI.out.rcells
  obtain ⟨f0, f1, z0, z1, z2⟩ := HI.out.fz
  have hW := HW.out
  have HF := hid hf
  clear hf
  have hi : ¬ (a : Int) < (sp : Int) := by omega
  go_enter Tryz.func247, Tryz.ntmps247
  go_wp2_with (go_at_call 253; (with_reducible refine (isend_is sh false _ HF.out).mono ?_); rintro e wx ⟨rfl, hx⟩; subst wx)
  refine bodyPost_ret (results_row2 rfl _ _ (w.heap.size + 1) 113 _ (0, 0) _ rfl (set3 HI.out.r _ _ _) Tryz.underlying113 rfl sizeState) rfl ?_
  exact ⟨rfl, HI.out.out _ _ _⟩
theorem decide_no (sh sp sa ph : Nat) (fb fc : Bool) (w : World) (hf : finB sh = fb) (hc : finB ph = fc) (h : ¬ (fc = true ∧ fb = false)) :
    Calls Tryz.prog 248 #[agS sh sp sa, .int .i64 (ph : Int)] w fun e w' => e = .returned (agS sh sp sa) ∧ Below w.heap.size w w' := by
  obtain ⟨W, HW⟩ : ∃ W, Hid (((w.alloc (.cells #[.int .i64 (sh : Int), .int .i64 (sp : Int), .int .i64 (sa : Int)] 113)).alloc (.cells #[.int .i64 0, .int .i64 0, .int .i64 0] 113)) = W) := ⟨_, rfl⟩
  have HI : Hid (In2r w W sh sp sa) := by rw [← HW.out]; exact in2r w _ _ _
  obtain ⟨c0, c1, c2⟩ := HI.out.cells
  obtain ⟨r0, r1, r2⟩ := HI.out.rcells
  obtain ⟨f0, f1, z0, z1, z2⟩ := HI.out.fz
  have hW := HW.out
  have HF := hid hf
  have HC := hid hc
  clear hf hc
  cases fc with
  | false =>
    clear h
    go_enter Tryz.func248, Tryz.ntmps248
    go_wp2_with (go_at_call 253; (with_reducible refine (isend_is ph false _ HC.out).mono ?_); rintro e wx ⟨rfl, hx⟩; subst wx)
    refine bodyPost_ret (results_cell_row rfl _ _ (w.heap.size + 1) 113 _ (0, 0) _ rfl (set3 HI.out.r _ _ _) Tryz.underlying113 rfl sizeState) rfl ?_
    exact ⟨rfl, HI.out.out _ _ _⟩
  | true =>
    obtain rfl : fb = true := by cases fb with | true => rfl | false => exact absurd ⟨rfl, rfl⟩ h
    clear h
    go_enter Tryz.func248, Tryz.ntmps248
    go_wp2_with (go_at_call 253; first | ((with_reducible refine (isend_is ph true _ HC.out).mono ?_); rintro e wx ⟨rfl, hx⟩; subst wx) | ((with_reducible refine (isend_is sh true _ HF.out).mono ?_); rintro e wx ⟨rfl, hx⟩; subst wx))
    refine bodyPost_ret (results_cell_row rfl _ _ (w.heap.size + 1) 113 _ (0, 0) _ rfl (set3 HI.out.r _ _ _) Tryz.underlying113 rfl sizeState) rfl ?_
    exact ⟨rfl, HI.out.out _ _ _⟩
theorem decide_yes (sh sp sa ph : Nat) (w : World) (hf : finB sh = false) (hc : finB ph = true) :
    Calls Tryz.prog 248 #[agS sh sp sa, .int .i64 (ph : Int)] w fun e w' => e = .returned (agS ph sp sa) ∧ Below w.heap.size w w' := by
  obtain ⟨W, HW⟩ : ∃ W, Hid (((w.alloc (.cells #[.int .i64 (sh : Int), .int .i64 (sp : Int), .int .i64 (sa : Int)] 113)).alloc (.cells #[.int .i64 0, .int .i64 0, .int .i64 0] 113)) = W) := ⟨_, rfl⟩
  have HI : Hid (In2r w W sh sp sa) := by rw [← HW.out]; exact in2r w _ _ _
  obtain ⟨c0, c1, c2⟩ := HI.out.cells
  obtain ⟨r0, r1, r2⟩ := HI.out.rcells
  obtain ⟨f0, f1, z0, z1, z2⟩ := HI.out.fz
  have hW := HW.out
  have HF := hid hf
  have HC := hid hc
  clear hf hc
  go_enter Tryz.func248, Tryz.ntmps248
  go_wp2_with (go_at_call 253; first | ((with_reducible refine (isend_is ph true _ HC.out).mono ?_); rintro e wx ⟨rfl, hx⟩; subst wx) | ((with_reducible refine (isend_is sh false _ HF.out).mono ?_); rintro e wx ⟨rfl, hx⟩; subst wx))
  refine bodyPost_ret (results_cell_row rfl _ _ (w.heap.size + 1) 113 _ (0, 0) _ rfl (set3 (HI.out.set 0 _) _ _ _) Tryz.underlying113 rfl sizeState) rfl ?_
  exact ⟨rfl, HI.out.out1 _ _ _ _ _⟩
theorem between_is (n l m : Int) (b : Bool) (w : World) (h : decide (l ≤ n ∧ n ≤ m) = b) :
    Calls Tryz.prog 205 #[.int .i64 n, .int .i64 l, .int .i64 m] w fun e w' => e = .returned (.bool b) ∧ w' = w := by
  subst h
  by_cases h1 : l ≤ n
  · by_cases h2 : n ≤ m
    · rw [decide_eq_true ⟨h1, h2⟩]
      go_enter Tryz.func205, Tryz.ntmps205
      go_wp2
      go_ret
      exact ⟨rfl, rfl⟩
    · rw [decide_eq_false (fun h => h2 h.2)]
      go_enter Tryz.func205, Tryz.ntmps205
      go_wp2
      go_ret
      exact ⟨rfl, rfl⟩
  · rw [decide_eq_false (fun h => h1 h.1)]
    go_enter Tryz.func205, Tryz.ntmps205
    go_wp2
    go_ret
    exact ⟨rfl, rfl⟩
abbrev stOk (ph pr pa : Int) : Prop := (0 ≤ ph ∧ ph ≤ 5) ∧ (0 ≤ pr ∧ pr ≤ 1048576) ∧ (0 ≤ pa ∧ pa ≤ 1048576)
abbrev frOk (f t d k a ph pr pa : Int) : Prop := (0 ≤ f ∧ f ≤ 6) ∧ (0 ≤ t ∧ t ≤ 6) ∧ (0 ≤ d ∧ d ≤ 5) ∧ (1 ≤ k ∧ k ≤ 7) ∧ (0 ≤ a ∧ a ≤ 1048576) ∧ stOk ph pr pa
theorem dec_and3 (p q r : Prop) [Decidable p] [Decidable q] [Decidable r] (i : Decidable (p ∧ q ∧ r)) : @decide _ i = (decide p && (decide q && decide r)) := by
  by_cases hp : p <;> by_cases hq : q <;> by_cases hr : r <;> simp [hp, hq, hr]
theorem ite_bool {p : Prop} [Decidable p] {b : Bool} (h : p ↔ b = true) (x y : Nat) : (if p then x else y) = if b = true then x else y := by
  by_cases hp : p
  · rw [if_pos hp, if_pos (h.1 hp)]
  · rw [if_neg hp, if_neg (fun g => hp (h.2 g))]
theorem bools3 (a b c : Bool) : a = false ∨ (a = true ∧ b = false) ∨ (a = true ∧ b = true ∧ c = false) ∨ (a = true ∧ b = true ∧ c = true) := by cases a <;> cases b <;> cases c <;> simp
theorem bools2 (a b : Bool) : a = false ∨ (a = true ∧ b = false) ∨ (a = true ∧ b = true) := by cases a <;> cases b <;> simp
set_option maxHeartbeats 2000000 in
set_option maxRecDepth 100000 in
theorem wfits_is (ph pr pa : Int) (b : Bool) (w : World) (h : decide (stOk ph pr pa) = b) :
    Calls Tryz.prog 207 #[.agg #[.int .i64 ph, .int .i64 pr, .int .i64 pa]] w fun e w' => e = .returned (.bool b) ∧ Below w.heap.size w w' := by
  have HB : Hid (Below w.heap.size w (w.alloc (.cells #[.int .i64 ph, .int .i64 pr, .int .i64 pa] 113))) := (Below.refl _ _).alloc (Nat.le_refl _) _
  obtain ⟨b1, H1⟩ : ∃ b : Bool, Hid (decide (0 ≤ ph ∧ ph ≤ 5) = b) := ⟨_, hid (Eq.refl _)⟩
  obtain ⟨b2, H2⟩ : ∃ b : Bool, Hid (decide (0 ≤ pr ∧ pr ≤ 1048576) = b) := ⟨_, hid (Eq.refl _)⟩
  obtain ⟨b3, H3⟩ : ∃ b : Bool, Hid (decide (0 ≤ pa ∧ pa ≤ 1048576) = b) := ⟨_, hid (Eq.refl _)⟩
  have HH : Hid (b = (b1 && (b2 && b3))) := by
    unfold Hid
    rw [← h, ← H1.out, ← H2.out, ← H3.out]
    exact dec_and3 _ _ _ _
  clear h
  rcases bools3 b1 b2 b3 with rfl | ⟨rfl, rfl⟩ | ⟨rfl, rfl, rfl⟩ | ⟨rfl, rfl, rfl⟩
  all_goals
    go_enter Tryz.func207, Tryz.ntmps207
    go_wp2_with (go_at_call 205; first | (with_reducible refine (between_is ph 0 5 _ _ H1.out).mono ?_; rintro e wx ⟨rfl, hx⟩; subst wx) | (with_reducible refine (between_is pr 0 1048576 _ _ H2.out).mono ?_; rintro e wx ⟨rfl, hx⟩; subst wx) | (with_reducible refine (between_is pa 0 1048576 _ _ H3.out).mono ?_; rintro e wx ⟨rfl, hx⟩; subst wx))
    go_ret
    exact ⟨by rw [HH.out]; rfl, HB.out⟩
set_option maxHeartbeats 8000000 in
set_option maxRecDepth 100000 in
theorem wcheck_e (A : Nat → Addr) (f t d k a : Int) (y : Bool) (ph pr pa : Int) (c : Nat) (w : World) (hE : HeldE w A) (h : (if frOk f t d k a ph pr pa then 0 else 2) = c) :
    Calls Tryz.prog 175 #[frV f t d k a y ph pr pa] w fun e w' => e = .returned (ev A c) ∧ Below w.heap.size w w' := by
  obtain ⟨W, HW⟩ : ∃ W, Hid (w.alloc (.cells #[.int .i64 f, .int .i64 t, .int .i64 d, .int .i64 k, .int .i64 a, .bool y, .int .i64 ph, .int .i64 pr, .int .i64 pa] 130) = W) := ⟨_, rfl⟩
  have HB : Hid (Below w.heap.size w W) := by rw [← HW.out]; exact (Below.refl _ _).alloc (Nat.le_refl _) _
  have HR : Hid (W.heap[w.heap.size]? = some (.cells #[.int .i64 f, .int .i64 t, .int .i64 d, .int .i64 k, .int .i64 a, .bool y, .int .i64 ph, .int .i64 pr, .int .i64 pa] 130 (0, 0))) := by rw [← HW.out]; exact heap_alloc_new w _
  have HG : Hid (∀ wx, Below W.heap.size W wx → wx.cell? ⟨0, 0, none⟩ = some (.iface 342 (.pointer (some (A 1)))) ∧ Below w.heap.size w wx) := fun wx hx => ⟨(hE.later (HB.out.trans (hx.mono HB.out.size))).g1, HB.out.trans (hx.mono HB.out.size)⟩
  clear hE
  obtain ⟨b1, H1⟩ : ∃ b : Bool, Hid (decide (0 ≤ f ∧ f ≤ 6) = b) := ⟨_, hid (Eq.refl _)⟩
  obtain ⟨b2, H2⟩ : ∃ b : Bool, Hid (decide (0 ≤ t ∧ t ≤ 6) = b) := ⟨_, hid (Eq.refl _)⟩
  obtain ⟨b3, H3⟩ : ∃ b : Bool, Hid (decide (0 ≤ d ∧ d ≤ 5) = b) := ⟨_, hid (Eq.refl _)⟩
  obtain ⟨b4, H4⟩ : ∃ b : Bool, Hid (decide (1 ≤ k ∧ k ≤ 7) = b) := ⟨_, hid (Eq.refl _)⟩
  obtain ⟨b5, H5⟩ : ∃ b : Bool, Hid (decide (0 ≤ a ∧ a ≤ 1048576) = b) := ⟨_, hid (Eq.refl _)⟩
  obtain ⟨b6, H6⟩ : ∃ b : Bool, Hid (decide (stOk ph pr pa) = b) := ⟨_, hid (Eq.refl _)⟩
  have HC : Hid (c = if (b1 && (b2 && (b3 && (b4 && (b5 && b6))))) = true then 0 else 2) := by
    unfold Hid
    rw [← h]
    refine ite_bool ?_ 0 2
    rw [← H1.out, ← H2.out, ← H3.out, ← H4.out, ← H5.out, ← H6.out]
    simp only [frOk, decide_eq_true_eq, Bool.and_eq_true]
  clear h
  have hW := HW.out
  have c0 : W.cell? ⟨w.heap.size, 0, none⟩ = some (.int .i64 f) := by rw [cell_of_row _ _ _ _ _ _ HR.out]; rfl
  have c1 : W.cell? ⟨w.heap.size, 1, none⟩ = some (.int .i64 t) := by rw [cell_of_row _ _ _ _ _ _ HR.out]; rfl
  have c2 : W.cell? ⟨w.heap.size, 2, none⟩ = some (.int .i64 d) := by rw [cell_of_row _ _ _ _ _ _ HR.out]; rfl
  have c3 : W.cell? ⟨w.heap.size, 3, none⟩ = some (.int .i64 k) := by rw [cell_of_row _ _ _ _ _ _ HR.out]; rfl
  have c4 : W.cell? ⟨w.heap.size, 4, none⟩ = some (.int .i64 a) := by rw [cell_of_row _ _ _ _ _ _ HR.out]; rfl
  have c6 : W.cell? ⟨w.heap.size, 6, none⟩ = some (.int .i64 ph) := by rw [cell_of_row _ _ _ _ _ _ HR.out]; rfl
  have c7 : W.cell? ⟨w.heap.size, 7, none⟩ = some (.int .i64 pr) := by rw [cell_of_row _ _ _ _ _ _ HR.out]; rfl
  have c8 : W.cell? ⟨w.heap.size, 8, none⟩ = some (.int .i64 pa) := by rw [cell_of_row _ _ _ _ _ _ HR.out]; rfl
  obtain ⟨g1W, hbW⟩ := HG.out W (Below.refl _ _)
  have HBW0 := hid hbW
  clear hbW
  have HX : (b1 && (b2 && (b3 && (b4 && b5)))) = true ∨ (b1 && (b2 && (b3 && (b4 && b5)))) = false := by cases (b1 && (b2 && (b3 && (b4 && b5)))) <;> simp
  rcases HX with HX | HX
  · simp only [Bool.and_eq_true] at HX
    obtain ⟨rfl, rfl, rfl, rfl, rfl⟩ := HX
    cases b6
    all_goals
      go_enter Tryz.func175, Tryz.ntmps175
      go_wp2_with (first | (go_at_call 205; first | (with_reducible refine (between_is f 0 6 _ _ H1.out).mono ?_; rintro e wx ⟨rfl, hx⟩; subst wx) | (with_reducible refine (between_is t 0 6 _ _ H2.out).mono ?_; rintro e wx ⟨rfl, hx⟩; subst wx) | (with_reducible refine (between_is d 0 5 _ _ H3.out).mono ?_; rintro e wx ⟨rfl, hx⟩; subst wx) | (with_reducible refine (between_is k 1 7 _ _ H4.out).mono ?_; rintro e wx ⟨rfl, hx⟩; subst wx) | (with_reducible refine (between_is a 0 1048576 _ _ H5.out).mono ?_; rintro e wx ⟨rfl, hx⟩; subst wx)) | (go_at_call 207; (with_reducible refine (wfits_is ph pr pa _ _ H6.out).mono ?_); rintro e wx ⟨rfl, hx⟩; obtain ⟨g1, hbw⟩ := HG.out wx hx; have HBW := hid hbw; clear hx hbw))
      go_ret
      refine ⟨by rw [HC.out]; rfl, Hid.out (by assumption)⟩
  · have HZ : Hid (c = 2) := by unfold Hid; rw [HC.out]; revert HX; cases b1 <;> cases b2 <;> cases b3 <;> cases b4 <;> cases b5 <;> cases b6 <;> decide
    rcases bools2 b1 b2 with rfl | ⟨rfl, rfl⟩ | ⟨rfl, rfl⟩
    all_goals rcases bools3 b3 b4 b5 with rfl | ⟨rfl, rfl⟩ | ⟨rfl, rfl, rfl⟩ | ⟨rfl, rfl, rfl⟩
    all_goals try (exact absurd HX (by decide))
    all_goals clear HX
    all_goals
      go_enter Tryz.func175, Tryz.ntmps175
      go_wp2_with (first | (go_at_call 205; first | (with_reducible refine (between_is f 0 6 _ _ H1.out).mono ?_; rintro e wx ⟨rfl, hx⟩; subst wx) | (with_reducible refine (between_is t 0 6 _ _ H2.out).mono ?_; rintro e wx ⟨rfl, hx⟩; subst wx) | (with_reducible refine (between_is d 0 5 _ _ H3.out).mono ?_; rintro e wx ⟨rfl, hx⟩; subst wx) | (with_reducible refine (between_is k 1 7 _ _ H4.out).mono ?_; rintro e wx ⟨rfl, hx⟩; subst wx) | (with_reducible refine (between_is a 0 1048576 _ _ H5.out).mono ?_; rintro e wx ⟨rfl, hx⟩; subst wx)) | (go_at_call 207; (with_reducible refine (wfits_is ph pr pa _ _ H6.out).mono ?_); rintro e wx ⟨rfl, hx⟩; obtain ⟨g1, hbw⟩ := HG.out wx hx; have HBW := hid hbw; clear hx hbw))
      go_ret
      exact ⟨by rw [HZ.out]; rfl, HBW0.out⟩
theorem kept9 (w : World) (g : Nat) (x0 x1 x2 x3 x4 x5 x6 x7 x8 : Value) :
    Kept (In1 g) w (((((((((w.setCell ⟨g, 0, none⟩ x0).setCell ⟨g, 1, none⟩ x1).setCell ⟨g, 2, none⟩ x2).setCell ⟨g, 3, none⟩ x3).setCell ⟨g, 4, none⟩ x4).setCell ⟨g, 5, none⟩ x5).setCell ⟨g, 6, none⟩ x6).setCell ⟨g, 7, none⟩ x7).setCell ⟨g, 8, none⟩ x8) :=
  (((((((((Kept.refl _ _).set1 0 _).set1 1 _).set1 2 _).set1 3 _).set1 4 _).set1 5 _).set1 6 _).set1 7 _).set1 8 _
theorem stored9 {X : World} {g : Nat} {a0 a1 a2 a3 a4 a5 a6 a7 a8 : Value} (h : X.heap[g]? = some (.cells #[a0, a1, a2, a3, a4, a5, a6, a7, a8] 130 (0, 0))) (f t d k a : Int) (y : Bool) (ph pr pa : Int) :
    ∃ Y, Hid ((((((((((X.setCell ⟨g, 0, none⟩ (.int .i64 f)).setCell ⟨g, 1, none⟩ (.int .i64 t)).setCell ⟨g, 2, none⟩ (.int .i64 d)).setCell ⟨g, 3, none⟩ (.int .i64 k)).setCell ⟨g, 4, none⟩ (.int .i64 a)).setCell ⟨g, 5, none⟩ (.bool y)).setCell ⟨g, 6, none⟩ (.int .i64 ph)).setCell ⟨g, 7, none⟩ (.int .i64 pr)).setCell ⟨g, 8, none⟩ (.int .i64 pa)) = Y) ∧
      Hid (Y.heap[g]? = some (.cells #[.int .i64 f, .int .i64 t, .int .i64 d, .int .i64 k, .int .i64 a, .bool y, .int .i64 ph, .int .i64 pr, .int .i64 pa] 130 (0, 0))) ∧ Hid (Kept (In1 g) X Y) :=
  ⟨_, rfl, set9 h _ _ _ _ _ _ _ _ _, kept9 _ _ _ _ _ _ _ _ _ _ _⟩
theorem frozen9 {X : World} {g : Nat} {cs : Array Value} {t : TypeId} (h : X.heap[g]? = some (.cells cs t (0, 0))) : X.frozen? ⟨g, 0, none⟩ = false ∧ X.frozen? ⟨g, 1, none⟩ = false ∧ X.frozen? ⟨g, 2, none⟩ = false ∧ X.frozen? ⟨g, 3, none⟩ = false ∧ X.frozen? ⟨g, 4, none⟩ = false ∧ X.frozen? ⟨g, 5, none⟩ = false ∧ X.frozen? ⟨g, 6, none⟩ = false ∧ X.frozen? ⟨g, 7, none⟩ = false ∧ X.frozen? ⟨g, 8, none⟩ = false :=
  ⟨frozen_of_row X g 0 _ _ h, frozen_of_row X g 1 _ _ h, frozen_of_row X g 2 _ _ h, frozen_of_row X g 3 _ _ h, frozen_of_row X g 4 _ _ h, frozen_of_row X g 5 _ _ h, frozen_of_row X g 6 _ _ h, frozen_of_row X g 7 _ _ h, frozen_of_row X g 8 _ _ h⟩
end Go.Proofs.YtbaamegnmeohoacGreatDoor
