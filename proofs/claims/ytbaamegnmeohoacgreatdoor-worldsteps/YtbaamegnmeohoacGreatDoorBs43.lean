/-
  On the way to WStepsProof: X6C.
-/
import Derived.Test.YtbaamegnmeohoacGreatDoorBs42
import Derived.Test.YtbaamegnmeohoacGreatDoorBs22
namespace Go.Proofs.YtbaamegnmeohoacGreatDoor
open Go.RowKit
abbrev nwOps : Array Oper := #[{ dst := some 19, op := Op.move (Operand.tmp 3), type := 33, pos := "world.go:231", after := #[], guard := none },
  { dst := some 20, op := Op.move (Operand.tmp 3), type := 33, pos := "world.go:231", after := #[], guard := none },
  { dst := some 21, op := Op.nilCheck (Operand.tmp 20), type := 0, pos := "world.go:231", after := #[{ on := 1, ground := Ground.data }], guard := none },
  { dst := some 22, op := Op.fieldAddr 72 (Operand.tmp 21) 1, type := 0, pos := "world.go:231", after := #[{ on := 2, ground := Ground.data }], guard := none },
  { dst := some 23, op := Op.load 69 (Operand.tmp 22), type := 69, pos := "world.go:231", after := #[{ on := 3, ground := Ground.data }], guard := none },
  { dst := some 24, op := Op.move (Operand.tmp 4), type := 3, pos := "world.go:231", after := #[], guard := none },
  { dst := some 25, op := Op.move (Operand.tmp 5), type := 95, pos := "world.go:231", after := #[], guard := none },
  { dst := some 26, op := Op.call { callee := Callee.value (Operand.func 41), args := #[Operand.tmp 24, Operand.tmp 25], argTypes := #[3, 95] }, type := 100, pos := "world.go:231", after := #[{ on := 5, ground := Ground.data }, { on := 6, ground := Ground.data }], guard := none },
  { dst := some 27, op := Op.move (Operand.tmp 5), type := 95, pos := "world.go:231", after := #[], guard := none },
  { dst := some 28, op := Op.makeSlice 102 (Operand.const (Value.int IntKind.i64 6)) (Operand.const (Value.int IntKind.i64 6)), type := 102, pos := "world.go:231", after := #[], guard := none },
  { dst := some 29, op := Op.makeSlice 103 (Operand.const (Value.int IntKind.i64 6)) (Operand.const (Value.int IntKind.i64 6)), type := 103, pos := "world.go:231", after := #[], guard := none },
  { dst := some 30, op := Op.build 105 #[(0, Operand.tmp 26), (1, Operand.tmp 27), (2, Operand.tmp 28), (3, Operand.tmp 29)], type := 105, pos := "world.go:231", after := #[{ on := 7, ground := Ground.data }, { on := 8, ground := Ground.data }, { on := 9, ground := Ground.data }, { on := 10, ground := Ground.data }], guard := none },
  { dst := some 31, op := Op.box 105 (Operand.tmp 30), type := 99, pos := "world.go:231", after := #[{ on := 11, ground := Ground.data }], guard := none },
  { dst := some 32, op := Op.buildSlice 69 1 #[(0, Operand.tmp 31)], type := 69, pos := "world.go:231", after := #[{ on := 12, ground := Ground.data }], guard := none },
  { dst := some 33, op := Op.call { callee := Callee.builtin Builtin.append, args := #[Operand.tmp 23, Operand.tmp 32], argTypes := #[69, 69] }, type := 69, pos := "world.go:231", after := #[{ on := 4, ground := Ground.data }, { on := 13, ground := Ground.data }, { on := 7, ground := Ground.chain }], guard := none },
  { dst := some 34, op := Op.nilCheck (Operand.tmp 19), type := 0, pos := "world.go:231", after := #[{ on := 0, ground := Ground.data }, { on := 0, ground := Ground.phase }, { on := 1, ground := Ground.phase }, { on := 2, ground := Ground.phase }, { on := 3, ground := Ground.phase }, { on := 4, ground := Ground.phase }, { on := 5, ground := Ground.phase }, { on := 6, ground := Ground.phase }, { on := 7, ground := Ground.phase }, { on := 8, ground := Ground.phase }, { on := 9, ground := Ground.phase }, { on := 10, ground := Ground.phase }, { on := 11, ground := Ground.phase }, { on := 12, ground := Ground.phase }, { on := 13, ground := Ground.phase }, { on := 14, ground := Ground.phase }], guard := none },
  { dst := some 35, op := Op.fieldAddr 72 (Operand.tmp 34) 1, type := 0, pos := "world.go:231", after := #[{ on := 15, ground := Ground.data }, { on := 0, ground := Ground.phase }, { on := 1, ground := Ground.phase }, { on := 2, ground := Ground.phase }, { on := 3, ground := Ground.phase }, { on := 4, ground := Ground.phase }, { on := 5, ground := Ground.phase }, { on := 6, ground := Ground.phase }, { on := 7, ground := Ground.phase }, { on := 8, ground := Ground.phase }, { on := 9, ground := Ground.phase }, { on := 10, ground := Ground.phase }, { on := 11, ground := Ground.phase }, { on := 12, ground := Ground.phase }, { on := 13, ground := Ground.phase }, { on := 14, ground := Ground.phase }], guard := none },
  { dst := none, op := Op.store 69 (Operand.tmp 35) (Operand.tmp 33), type := 0, pos := "world.go:231", after := #[{ on := 16, ground := Ground.data }, { on := 14, ground := Ground.data }, { on := 14, ground := Ground.chain }, { on := 0, ground := Ground.phase }, { on := 1, ground := Ground.phase }, { on := 2, ground := Ground.phase }, { on := 3, ground := Ground.phase }, { on := 4, ground := Ground.phase }, { on := 5, ground := Ground.phase }, { on := 6, ground := Ground.phase }, { on := 7, ground := Ground.phase }, { on := 8, ground := Ground.phase }, { on := 9, ground := Ground.phase }, { on := 10, ground := Ground.phase }, { on := 11, ground := Ground.phase }, { on := 12, ground := Ground.phase }, { on := 13, ground := Ground.phase }, { on := 14, ground := Ground.phase }], guard := none }]
def Sm (a0 a : Act) : Prop := a.tmps.size = a0.tmps.size ∧ a.defers = a0.defers ∧ ∀ i : Nat, (i < 19 ∨ i = 36) → a.eval (.tmp i) = a0.eval (.tmp i)
theorem Sm.put {a0 a : Act} {d : Nat} {v : Value} (h : Sm a0 a) (h1 : 19 ≤ d) (h2 : d ≤ 35) : Sm a0 (a.put (some d) v) :=
  ⟨(Act.size_put _ _ _).trans h.1, (Act.defers_put' _ _ _).trans h.2.1, fun i hi => (Act.eval_put_ne a d i v (show d ≠ i by omega)).trans (h.2.2 i hi)⟩
structure NwI (a0 : Act) (W w : World) (a : Act) (nv : Value) (xb k r : Nat) (ld cl lL lD : Bool) (t mm gn gs gb ls dn : Nat) : Prop where
  sm : Sm a0 a
  sz : a0.tmps.size = 37
  e19 : a.eval (.tmp 19) = .pointer (some ⟨xb, 0, none⟩)
  e22 : a.eval (.tmp 22) = .pointer (some ⟨xb, 1, none⟩)
  e24 : a.eval (.tmp 24) = .int .i64 (k : Int)
  e25 : a.eval (.tmp 25) = .pointer (some ⟨r, 0, none⟩)
  e27 : a.eval (.tmp 27) = .pointer (some ⟨r, 0, none⟩)
  bel : Below W.heap.size W w
  e23 : ld = true → a.eval (.tmp 23) = nv
  site : cl = true → a.eval (.tmp 26) = .pointer (some ⟨t, 0, none⟩) ∧ RJ w mm gn gs r (dealL (zeroB 512).data.toList) false ∧ RSt w t mm gb (k : Int) (fun _ => false) ∧ (W.heap.size ≤ t ∧ W.heap.size ≤ mm ∧ W.heap.size ≤ gn ∧ W.heap.size ≤ gs ∧ W.heap.size ≤ gb) ∧ (t ≠ mm ∧ t ≠ gn ∧ t ≠ gs ∧ t ≠ gb) ∧ (gb ≠ mm ∧ gb ≠ gn ∧ gb ≠ gs)
  leads : lL = true → a.eval (.tmp 28) = .slice (some ⟨ls, 0, none⟩) 6 6 ∧ w.heap[ls]? = some (.cells #[.pointer none, .pointer none, .pointer none, .pointer none, .pointer none, .pointer none] 169 (0, 0)) ∧ W.heap.size ≤ ls
  done : lD = true → a.eval (.tmp 29) = .slice (some ⟨dn, 0, none⟩) 6 6 ∧ w.heap[dn]? = some (.cells #[.bool false, .bool false, .bool false, .bool false, .bool false, .bool false] 4 (0, 0)) ∧ W.heap.size ≤ dn
  xLD : lL = true → lD = true → ls ≠ dn
  xLS : lL = true → cl = true → ls ≠ t ∧ ls ≠ mm ∧ ls ≠ gn ∧ ls ≠ gs ∧ ls ≠ gb
  xDS : lD = true → cl = true → dn ≠ t ∧ dn ≠ mm ∧ dn ≠ gn ∧ dn ≠ gs ∧ dn ≠ gb
section
variable {Q : Exit → Act → World → Prop} {a0 : Act} {W w : World} {a : Act} {nv : Value} {xb k r : Nat} {ld cl lL lD : Bool} {t mm gn gs gb ls dn : Nat} {K : Act → World → Prop}
theorem NwI.size (h : NwI a0 W w a nv xb k r ld cl lL lD t mm gn gs gb ls dn) : a.tmps.size = 37 := h.sm.1.trans h.sz
theorem NwI.load (h : NwI a0 W w a nv xb k r ld cl lL lD t mm gn gs gb ls dn) : NwI a0 W w (a.put (some 23) nv) nv xb k r true cl lL lD t mm gn gs gb ls dn := by
  have hz := h.size
  have ne : ∀ j, j ≠ 23 → (a.put (some 23) nv).eval (.tmp j) = a.eval (.tmp j) := fun j hj => Act.eval_put_ne _ _ _ _ (Ne.symm hj)
  exact ⟨h.sm.put (by omega) (by omega), h.sz, (ne _ (by decide)).trans h.e19, (ne _ (by decide)).trans h.e22, (ne _ (by decide)).trans h.e24, (ne _ (by decide)).trans h.e25, (ne _ (by decide)).trans h.e27, h.bel, fun _ => Act.eval_put_same _ _ _ (by omega), fun q => ⟨(ne _ (by decide)).trans (h.site q).1, (h.site q).2⟩, fun q => ⟨(ne _ (by decide)).trans (h.leads q).1, (h.leads q).2⟩, fun q => ⟨(ne _ (by decide)).trans (h.done q).1, (h.done q).2⟩, h.xLD, h.xLS, h.xDS⟩
theorem NwI.lead (h : NwI a0 W w a nv xb k r ld cl false lD t mm gn gs gb ls dn) : NwI a0 W (w.alloc (.cells #[.pointer none, .pointer none, .pointer none, .pointer none, .pointer none, .pointer none] 169)) (a.put (some 28) (.slice (some ⟨w.heap.size, 0, none⟩) 6 6)) nv xb k r ld cl true lD t mm gn gs gb w.heap.size dn := by
  have hz := h.size
  have ne : ∀ j, j ≠ 28 → (a.put (some 28) (.slice (some ⟨w.heap.size, 0, none⟩) 6 6)).eval (.tmp j) = a.eval (.tmp j) := fun j hj => Act.eval_put_ne _ _ _ _ (Ne.symm hj)
  have hb : Below w.heap.size w (w.alloc (.cells #[.pointer none, .pointer none, .pointer none, .pointer none, .pointer none, .pointer none] 169)) := (Below.refl _ _).alloc (Nat.le_refl _) _
  refine ⟨h.sm.put (by omega) (by omega), h.sz, (ne _ (by decide)).trans h.e19, (ne _ (by decide)).trans h.e22, (ne _ (by decide)).trans h.e24, (ne _ (by decide)).trans h.e25, (ne _ (by decide)).trans h.e27, h.bel.trans (hb.mono h.bel.size), fun q => (ne _ (by decide)).trans (h.e23 q), fun q => ?_, fun _ => ⟨Act.eval_put_same _ _ _ (by omega), heap_alloc_new w _, h.bel.size⟩, fun q => ⟨(ne _ (by decide)).trans (h.done q).1, row_alloc (h.done q).2.1, (h.done q).2.2⟩, fun _ q => ?_, fun _ q => ?_, h.xDS⟩
  · obtain ⟨s1, s2, s3, s4⟩ := h.site q
    exact ⟨(ne _ (by decide)).trans s1, s2.at hb, s3.later hb, s4⟩
  · have := row_ltJ (h.done q).2.1; omega
  · obtain ⟨s1, s2, s3, s4⟩ := h.site q
    obtain ⟨j1, j2, j3⟩ := s2.lts
    have j4 := row_ltJ s3.row; have j5 := row_ltJ s3.refs
    omega
theorem NwI.dn_ (h : NwI a0 W w a nv xb k r ld cl lL false t mm gn gs gb ls dn) : NwI a0 W (w.alloc (.cells #[.bool false, .bool false, .bool false, .bool false, .bool false, .bool false] 4)) (a.put (some 29) (.slice (some ⟨w.heap.size, 0, none⟩) 6 6)) nv xb k r ld cl lL true t mm gn gs gb ls w.heap.size := by
  have hz := h.size
  have ne : ∀ j, j ≠ 29 → (a.put (some 29) (.slice (some ⟨w.heap.size, 0, none⟩) 6 6)).eval (.tmp j) = a.eval (.tmp j) := fun j hj => Act.eval_put_ne _ _ _ _ (Ne.symm hj)
  have hb : Below w.heap.size w (w.alloc (.cells #[.bool false, .bool false, .bool false, .bool false, .bool false, .bool false] 4)) := (Below.refl _ _).alloc (Nat.le_refl _) _
  refine ⟨h.sm.put (by omega) (by omega), h.sz, (ne _ (by decide)).trans h.e19, (ne _ (by decide)).trans h.e22, (ne _ (by decide)).trans h.e24, (ne _ (by decide)).trans h.e25, (ne _ (by decide)).trans h.e27, h.bel.trans (hb.mono h.bel.size), fun q => (ne _ (by decide)).trans (h.e23 q), fun q => ?_, fun q => ⟨(ne _ (by decide)).trans (h.leads q).1, row_alloc (h.leads q).2.1, (h.leads q).2.2⟩, fun _ => ⟨Act.eval_put_same _ _ _ (by omega), heap_alloc_new w _, h.bel.size⟩, fun q _ => ?_, h.xLS, fun _ q => ?_⟩
  · obtain ⟨s1, s2, s3, s4⟩ := h.site q
    exact ⟨(ne _ (by decide)).trans s1, s2.at hb, s3.later hb, s4⟩
  · have := row_ltJ (h.leads q).2.1; omega
  · obtain ⟨s1, s2, s3, s4⟩ := h.site q
    obtain ⟨j1, j2, j3⟩ := s2.lts
    have j4 := row_ltJ s3.row; have j5 := row_ltJ s3.refs
    omega
theorem NwI.call {w1 : World} {t' m' n' s' b' : Nat} (h : NwI a0 W w a nv xb k r ld false lL lD t mm gn gs gb ls dn) (hj : RJ w1 m' n' s' r (dealL (zeroB 512).data.toList) false) (hs : RSt w1 t' m' b' (k : Int) (fun _ => false)) (hb : Below w.heap.size w w1) (q1 : w.heap.size ≤ m') (q2 : w.heap.size ≤ n') (q3 : w.heap.size ≤ s') (q4 : w.heap.size ≤ b') (ht : t' ≠ m' ∧ t' ≠ n' ∧ t' ≠ s' ∧ t' ≠ b') (q5 : w.heap.size ≤ t') (hg : b' ≠ m' ∧ b' ≠ n' ∧ b' ≠ s') :
    NwI a0 W w1 (a.put (some 26) (.pointer (some ⟨t', 0, none⟩))) nv xb k r ld true lL lD t' m' n' s' b' ls dn := by
  have hz := h.size
  have hW := h.bel.size
  have ne : ∀ j, j ≠ 26 → (a.put (some 26) (.pointer (some ⟨t', 0, none⟩))).eval (.tmp j) = a.eval (.tmp j) := fun j hj => Act.eval_put_ne _ _ _ _ (Ne.symm hj)
  refine ⟨h.sm.put (by omega) (by omega), h.sz, (ne _ (by decide)).trans h.e19, (ne _ (by decide)).trans h.e22, (ne _ (by decide)).trans h.e24, (ne _ (by decide)).trans h.e25, (ne _ (by decide)).trans h.e27, h.bel.trans (hb.mono h.bel.size), fun q => (ne _ (by decide)).trans (h.e23 q), fun _ => ⟨Act.eval_put_same _ _ _ (by omega), hj, hs, ⟨by omega, by omega, by omega, by omega, by omega⟩, ht, hg⟩, fun q => ⟨(ne _ (by decide)).trans (h.leads q).1, row_below hb (h.leads q).2.1, (h.leads q).2.2⟩, fun q => ⟨(ne _ (by decide)).trans (h.done q).1, row_below hb (h.done q).2.1, (h.done q).2.2⟩, h.xLD, fun q _ => ?_, fun q _ => ?_⟩
  · have := row_ltJ (h.leads q).2.1; omega
  · have := row_ltJ (h.done q).2.1; omega
set_option maxRecDepth 100000 in
theorem nw_load (h : NwI a0 W w a nv xb k r ld cl lL lD t mm gn gs gb ls dn) (hc : w.cell? ⟨xb, 1, none⟩ = some nv) (hK : ∀ a', NwI a0 W w a' nv xb k r true cl lL lD t mm gn gs gb ls dn → K a' w) : wpOp Tryz.prog nwOps Q 4 K a w := by
  refine wpOp_step (o := { dst := some 23, op := Op.load 69 (Operand.tmp 22), type := 69, pos := "world.go:231", after := #[{ on := 3, ground := Ground.data }], guard := none }) rfl (fun K' hK' => ?_)
  have e0 := eval_form h.e22
  have HK := hid (hK' _ _ (hK _ h.load))
  clear hK hK' h
  go_simp
  exact HK.out
set_option maxRecDepth 100000 in
theorem nw_lead (h : NwI a0 W w a nv xb k r ld cl false lD t mm gn gs gb ls dn) (hK : ∀ a' w' ls', NwI a0 W w' a' nv xb k r ld cl true lD t mm gn gs gb ls' dn → K a' w') : wpOp Tryz.prog nwOps Q 9 K a w := by
  refine wpOp_step (o := { dst := some 28, op := Op.makeSlice 102 (Operand.const (Value.int IntKind.i64 6)) (Operand.const (Value.int IntKind.i64 6)), type := 102, pos := "world.go:231", after := #[], guard := none }) rfl (fun K' hK' => ?_)
  have hm := mkRL w
  have HK := hid (hK' _ _ (hK _ _ _ h.lead))
  clear hK hK' h
  go_simp
  exact HK.out
set_option maxRecDepth 100000 in
theorem nw_done (h : NwI a0 W w a nv xb k r ld cl lL false t mm gn gs gb ls dn) (hK : ∀ a' w' dn', NwI a0 W w' a' nv xb k r ld cl lL true t mm gn gs gb ls dn' → K a' w') : wpOp Tryz.prog nwOps Q 10 K a w := by
  refine wpOp_step (o := { dst := some 29, op := Op.makeSlice 103 (Operand.const (Value.int IntKind.i64 6)) (Operand.const (Value.int IntKind.i64 6)), type := 103, pos := "world.go:231", after := #[], guard := none }) rfl (fun K' hK' => ?_)
  have hm := mkBo w
  have HK := hid (hK' _ _ (hK _ _ _ h.dn_))
  clear hK hK' h
  go_simp
  exact HK.out
set_option maxRecDepth 100000 in
theorem nw_call (h : NwI a0 W w a nv xb k r ld false lL lD t mm gn gs gb ls dn) (hr : RP W r (zeroB 512) false 0 false) (hK : ∀ a' w' t' m' n' s' b', NwI a0 W w' a' nv xb k r ld true lL lD t' m' n' s' b' ls dn → K a' w') : wpOp Tryz.prog nwOps Q 7 K a w := by
  refine wpOp_step (o := { dst := some 26, op := Op.call { callee := Callee.value (Operand.func 41), args := #[Operand.tmp 24, Operand.tmp 25], argTypes := #[3, 95] }, type := 100, pos := "world.go:231", after := #[{ on := 5, ground := Ground.data }, { on := 6, ground := Ground.data }], guard := none }) rfl (fun K' hK' => ?_)
  have e0 := eval_form h.e24
  have e1 := eval_form h.e25
  have HC := hid (rsnew_rp r (zeroB 512) false false 0 (k : Int) w (hr.kept (S := fun _ => False) (Kept.of_below h.bel) (fun x => x)) (by rw [zeroB_size]; omega) (by rw [zeroB_size]; omega))
  have H := hid h
  have HK := hid hK
  have HK' := hid hK'
  clear hK hK' h hr
  go_simp
  refine HC.out.mono ?_
  rintro e w1 ⟨t', m', n', s', b', rfl, hj, hs, hb, q1, q2, q3, q4, t1, t2, t3, t4, q5, g1, g2, g3⟩
  exact HK'.out _ _ (HK.out _ _ _ _ _ _ _ (H.out.call hj hs hb q1 q2 q3 q4 ⟨t1, t2, t3, t4⟩ q5 ⟨g1, g2, g3⟩))
end
end Go.Proofs.YtbaamegnmeohoacGreatDoor
