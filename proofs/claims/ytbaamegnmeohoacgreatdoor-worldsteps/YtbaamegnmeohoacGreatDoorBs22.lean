/-
  On the way to WStepsProof: LA.
-/
import Derived.Test.YtbaamegnmeohoacGreatDoorBs4
import Derived.Test.YtbaamegnmeohoacGreatDoorBs21
import Derived.Deep.RegionHeldLaw
import Derived.Great.Frames
namespace Go.Proofs.YtbaamegnmeohoacGreatDoor
open Go.RowKit
theorem eval_form {a : Act} {i : Nat} {v : Value} (h : a.eval (.tmp i) = v) : a.tmps[i]?.getD undef = v := by
  unfold Act.eval at h
  simpa using h
def reg14S (lb fb : Nat) (vh : Value) (F : F9) (w' : World) : Prop := w'.cell? ⟨lb, 6, none⟩ = some vh ∧ w'.cell? ⟨fb, 0, none⟩ = some (.int .i64 F.f) ∧ w'.cell? ⟨fb, 1, none⟩ = some (.int .i64 F.t) ∧ w'.cell? ⟨fb, 2, none⟩ = some (.int .i64 F.d) ∧ w'.cell? ⟨fb, 3, none⟩ = some (.int .i64 F.k) ∧ w'.cell? ⟨fb, 4, none⟩ = some (.int .i64 F.a) ∧ w'.cell? ⟨fb, 5, none⟩ = some (.bool F.y) ∧ w'.cell? ⟨fb, 6, none⟩ = some (.int .i64 F.ph) ∧ w'.cell? ⟨fb, 7, none⟩ = some (.int .i64 F.pr) ∧ w'.cell? ⟨fb, 8, none⟩ = some (.int .i64 F.pa)
set_option maxHeartbeats 2000000 in
set_option maxRecDepth 100000 in
theorem reg14 {Q : Exit → Act → World → Prop} (a : Act) (w : World) (lb fb : Nat) (vh : Value) (F : F9) (n : Nat) (xs : List Value) (base : Nat) (hz : 124 < a.tmps.size) (h0 : a.eval (.tmp 0) = .pointer (some ⟨lb, 0, none⟩)) (h3 : a.eval (.tmp 3) = .pointer (some ⟨fb, 0, none⟩)) (hS : reg14S lb fb vh F w) (hlb : lb < w.heap.size) (hfb : fb < w.heap.size) (hvb : vh.ownBlock ≠ some lb) (hvf : vh.ownBlock ≠ some fb)
    (hown : w.ownsRow base 130 9 vh n xs) (hn : n ≤ 1000000000000) (hb : base ≤ w.heap.size) (hQp : ∀ c (d : Nat) v (a : Act) w, Q (.panic c) (a.put (some d) v) w → Q (.panic c) a w)
    (hQ : ∀ a' ad' cap' w', w'.ownsRow base 130 9 (.slice ad' (n + 1) cap') (n + 1) (xs ++ f9L F) → (w.drew.alloc (.cells (f9L F).toArray 130)).grownBy w' vh.ownBlock → ((Value.slice ad' (n + 1) cap').ownBlock = vh.ownBlock ∨ (Value.slice ad' (n + 1) cap').ownBlock = some (w.drew.alloc (.cells (f9L F).toArray 130)).heap.size) →
      a' = (((((((a.put (some 118) (.pointer (some ⟨lb, 0, none⟩))).put (some 119) (.pointer (some ⟨lb, 0, none⟩))).put (some 120) (.pointer (some ⟨lb, 6, none⟩))).put (some 121) vh).put (some 122) (frV F.f F.t F.d F.k F.a F.y F.ph F.pr F.pa)).put (some 123) (.slice (some ⟨w.heap.size, 0, none⟩) 1 1)).put (some 124) (.slice ad' (n + 1) cap')).put (some 7) (.slice ad' (n + 1) cap') → Q .normal a' w') :
    (Code.region 14 #[{ dst := some 118, op := Op.move (Operand.tmp 0), type := 169, pos := "world.go:175", after := #[], guard := none },
      { dst := some 119, op := Op.nilCheck (Operand.tmp 118), type := 0, pos := "world.go:175", after := #[{ on := 0, ground := Ground.data }], guard := none },
      { dst := some 120, op := Op.fieldAddr 186 (Operand.tmp 119) 6, type := 0, pos := "world.go:175", after := #[{ on := 1, ground := Ground.data }], guard := none },
      { dst := some 121, op := Op.load 49 (Operand.tmp 120), type := 49, pos := "world.go:175", after := #[{ on := 2, ground := Ground.data }], guard := none },
      { dst := some 122, op := Op.load 130 (Operand.tmp 3), type := 130, pos := "world.go:175", after := #[], guard := none },
      { dst := some 123, op := Op.buildSlice 49 1 #[(0, Operand.tmp 122)], type := 49, pos := "world.go:175", after := #[{ on := 4, ground := Ground.data }], guard := none },
      { dst := some 124, op := Op.call { callee := Callee.builtin Builtin.append, args := #[Operand.tmp 121, Operand.tmp 123], argTypes := #[49, 49] }, type := 49, pos := "world.go:175", after := #[{ on := 3, ground := Ground.data }, { on := 5, ground := Ground.data }], guard := none },
      { dst := some 7, op := Op.assign (Operand.tmp 124), type := 49, pos := "world.go:175", after := #[{ on := 6, ground := Ground.data }, { on := 6, ground := Ground.chain }, { on := 0, ground := Ground.phase }, { on := 1, ground := Ground.phase }, { on := 2, ground := Ground.phase }, { on := 3, ground := Ground.phase }, { on := 4, ground := Ground.phase }, { on := 5, ground := Ground.phase }, { on := 6, ground := Ground.phase }], guard := none }] true).wp Tryz.prog Q a w := by
  refine wp_region_held_drew (S := reg14S lb fb vh F) (by kernel_rfl) hS (fun hHeld => ?_)
  refine wpAnyH_take (i := 0) (oi := { dst := some 118, op := Op.move (Operand.tmp 0), type := 169, pos := "world.go:175", after := #[], guard := none }) (v := (.pointer (some ⟨lb, 0, none⟩))) rfl (by kernel_rfl) (by kernel_rfl) (by kernel_rfl) (fun c a w h => hQp c _ _ a w h) (Or.inl ⟨by rfl, ?_⟩) hHeld ?_
  · intro w hSw
    unfold reg14S at hSw
    obtain ⟨s0, s1, s2, s3, s4, s5, s6, s7, s8, s9⟩ := hSw
    have e0 := eval_form h0
    clear hS hown hQ hQp
    go_simp
  change wpAnyH _ _ _ _ _ _ _ (Act.put a (some 118) (.pointer (some ⟨lb, 0, none⟩))) _
  obtain ⟨a1, Ha1⟩ : ∃ x, Hid (x = Act.put a (some 118) (.pointer (some ⟨lb, 0, none⟩))) := ⟨_, rfl⟩
  rw [← Ha1.out]
  have z1 : 124 < a1.tmps.size := by rw [Ha1.out, Act.size_put]; exact hz
  have e118 : a1.eval (.tmp 118) = (.pointer (some ⟨lb, 0, none⟩)) := by rw [Ha1.out]; exact Act.eval_put_same _ _ _ (by have := hz; omega)
  have g3_0 : a1.eval (.tmp 3) = .pointer (some ⟨fb, 0, none⟩) := by rw [Ha1.out, Act.eval_put_ne _ _ _ _ (by decide)]; exact h3
  refine wpAnyH_take (i := 1) (oi := { dst := some 119, op := Op.nilCheck (Operand.tmp 118), type := 0, pos := "world.go:175", after := #[{ on := 0, ground := Ground.data }], guard := none }) (v := (.pointer (some ⟨lb, 0, none⟩))) rfl (by kernel_rfl) (by kernel_rfl) (by kernel_rfl) (fun c a w h => hQp c _ _ a w h) (Or.inl ⟨by rfl, ?_⟩) hHeld ?_
  · intro w hSw
    unfold reg14S at hSw
    obtain ⟨s0, s1, s2, s3, s4, s5, s6, s7, s8, s9⟩ := hSw
    have e0 := eval_form e118
    clear hS hown hQ hQp
    go_simp
  change wpAnyH _ _ _ _ _ _ _ (Act.put a1 (some 119) (.pointer (some ⟨lb, 0, none⟩))) _
  obtain ⟨a2, Ha2⟩ : ∃ x, Hid (x = Act.put a1 (some 119) (.pointer (some ⟨lb, 0, none⟩))) := ⟨_, rfl⟩
  rw [← Ha2.out]
  have z2 : 124 < a2.tmps.size := by rw [Ha2.out, Act.size_put]; exact z1
  have e119 : a2.eval (.tmp 119) = (.pointer (some ⟨lb, 0, none⟩)) := by rw [Ha2.out]; exact Act.eval_put_same _ _ _ (by have := z1; omega)
  have g3_1 : a2.eval (.tmp 3) = .pointer (some ⟨fb, 0, none⟩) := by rw [Ha2.out, Act.eval_put_ne _ _ _ _ (by decide)]; exact g3_0
  refine wpAnyH_take (i := 2) (oi := { dst := some 120, op := Op.fieldAddr 186 (Operand.tmp 119) 6, type := 0, pos := "world.go:175", after := #[{ on := 1, ground := Ground.data }], guard := none }) (v := (.pointer (some ⟨lb, 6, none⟩))) rfl (by kernel_rfl) (by kernel_rfl) (by kernel_rfl) (fun c a w h => hQp c _ _ a w h) (Or.inl ⟨by rfl, ?_⟩) hHeld ?_
  · intro w hSw
    unfold reg14S at hSw
    obtain ⟨s0, s1, s2, s3, s4, s5, s6, s7, s8, s9⟩ := hSw
    have e0 := eval_form e119
    clear hS hown hQ hQp
    go_simp
  change wpAnyH _ _ _ _ _ _ _ (Act.put a2 (some 120) (.pointer (some ⟨lb, 6, none⟩))) _
  obtain ⟨a3, Ha3⟩ : ∃ x, Hid (x = Act.put a2 (some 120) (.pointer (some ⟨lb, 6, none⟩))) := ⟨_, rfl⟩
  rw [← Ha3.out]
  have z3 : 124 < a3.tmps.size := by rw [Ha3.out, Act.size_put]; exact z2
  have e120 : a3.eval (.tmp 120) = (.pointer (some ⟨lb, 6, none⟩)) := by rw [Ha3.out]; exact Act.eval_put_same _ _ _ (by have := z2; omega)
  have g3_2 : a3.eval (.tmp 3) = .pointer (some ⟨fb, 0, none⟩) := by rw [Ha3.out, Act.eval_put_ne _ _ _ _ (by decide)]; exact g3_1
  refine wpAnyH_take (i := 3) (oi := { dst := some 121, op := Op.load 49 (Operand.tmp 120), type := 49, pos := "world.go:175", after := #[{ on := 2, ground := Ground.data }], guard := none }) (v := vh) rfl (by kernel_rfl) (by kernel_rfl) (by kernel_rfl) (fun c a w h => hQp c _ _ a w h) (Or.inl ⟨by rfl, ?_⟩) hHeld ?_
  · intro w hSw
    unfold reg14S at hSw
    obtain ⟨s0, s1, s2, s3, s4, s5, s6, s7, s8, s9⟩ := hSw
    have e0 := eval_form e120
    clear hS hown hQ hQp
    go_simp
  change wpAnyH _ _ _ _ _ _ _ (Act.put a3 (some 121) vh) _
  obtain ⟨a4, Ha4⟩ : ∃ x, Hid (x = Act.put a3 (some 121) vh) := ⟨_, rfl⟩
  rw [← Ha4.out]
  have z4 : 124 < a4.tmps.size := by rw [Ha4.out, Act.size_put]; exact z3
  have e121 : a4.eval (.tmp 121) = vh := by rw [Ha4.out]; exact Act.eval_put_same _ _ _ (by have := z3; omega)
  have e3 : a4.eval (.tmp 3) = .pointer (some ⟨fb, 0, none⟩) := by rw [Ha4.out, Act.eval_put_ne _ _ _ _ (by decide)]; exact g3_2
  refine wpAnyH_take (i := 4) (oi := { dst := some 122, op := Op.load 130 (Operand.tmp 3), type := 130, pos := "world.go:175", after := #[], guard := none }) (v := (frV F.f F.t F.d F.k F.a F.y F.ph F.pr F.pa)) rfl (by kernel_rfl) (by kernel_rfl) (by kernel_rfl) (fun c a w h => hQp c _ _ a w h) (Or.inl ⟨by rfl, ?_⟩) hHeld ?_
  · intro w hSw
    unfold reg14S at hSw
    obtain ⟨s0, s1, s2, s3, s4, s5, s6, s7, s8, s9⟩ := hSw
    have e0 := eval_form e3
    clear hS hown hQ hQp
    go_simp
  change wpAnyH _ _ _ _ _ _ _ (Act.put a4 (some 122) (frV F.f F.t F.d F.k F.a F.y F.ph F.pr F.pa)) _
  obtain ⟨a5, Ha5⟩ : ∃ x, Hid (x = Act.put a4 (some 122) (frV F.f F.t F.d F.k F.a F.y F.ph F.pr F.pa)) := ⟨_, rfl⟩
  rw [← Ha5.out]
  have z5 : 124 < a5.tmps.size := by rw [Ha5.out, Act.size_put]; exact z4
  have e122 : a5.eval (.tmp 122) = (frV F.f F.t F.d F.k F.a F.y F.ph F.pr F.pa) := by rw [Ha5.out]; exact Act.eval_put_same _ _ _ (by have := z4; omega)
  have f121 : a5.eval (.tmp 121) = vh := by rw [Ha5.out, Act.eval_put_ne _ _ _ _ (by decide)]; exact e121
  obtain ⟨W2, HW2⟩ : ∃ W2, Hid (w.drew.alloc (.cells (f9L F).toArray 130) = W2) := ⟨_, rfl⟩
  have HB2 : Hid (Below w.heap.size w W2) := by rw [← HW2.out]; exact (Below.refl _ _).drew.alloc (Nat.le_refl _) _
  have HSf : Hid (∀ W, (∀ x, x < w.heap.size → vh.ownBlock ≠ some x → W.heap[x]? = w.heap[x]?) → reg14S lb fb vh F W) := by
    intro W hW
    have c1 := World.cell?_of_block (w := w) (w' := W) (a := ⟨lb, 6, none⟩) (hW lb hlb hvb)
    have c2 : ∀ j, W.cell? ⟨fb, j, none⟩ = w.cell? ⟨fb, j, none⟩ := fun j => World.cell?_of_block (w := w) (w' := W) (a := ⟨fb, j, none⟩) (hW fb hfb hvf)
    unfold reg14S at hS ⊢
    rw [c1, c2, c2, c2, c2, c2, c2, c2, c2, c2]
    exact hS
  have HS2 : Hid (reg14S lb fb vh F W2) := HSf.out W2 (fun x hx _ => HB2.out.block x hx)
  refine wpAnyH_ready (rs := [5]) (by kernel_rfl) (by simp) ?_
  refine AllReadyH.cons (o := { dst := some 123, op := Op.buildSlice 49 1 #[(0, Operand.tmp 122)], type := 49, pos := "world.go:175", after := #[{ on := 4, ground := Ground.data }], guard := none }) rfl (fun K hK => ?_) AllReadyH.nil
  have e0 := eval_form e122
  have hW2 := HW2.out
  have hW2' : w.drew.alloc (.cells #[.int .i64 F.f, .int .i64 F.t, .int .i64 F.d, .int .i64 F.k, .int .i64 F.a, .bool F.y, .int .i64 F.ph, .int .i64 F.pr, .int .i64 F.pa] 130) = W2 := hW2
  have HQ := hid hQ
  have HQp := hid hQp
  have HOw := hid hown
  have HS0 := hid hS
  clear hQ hQp hown hS hW2 hHeld
  go_simp
  refine hK.out _ _ HS2.out (fun hHeld => ?_)
  clear hK K
  change wpAnyH _ _ _ _ _ _ _ (Act.put a5 (some 123) (.slice (some ⟨w.heap.size, 0, none⟩) 1 1)) _
  obtain ⟨a6, Ha6⟩ : ∃ x, Hid (x = Act.put a5 (some 123) (.slice (some ⟨w.heap.size, 0, none⟩) 1 1)) := ⟨_, rfl⟩
  rw [← Ha6.out]
  have z6 : 124 < a6.tmps.size := by rw [Ha6.out, Act.size_put]; exact z5
  have e123 : a6.eval (.tmp 123) = .slice (some ⟨w.heap.size, 0, none⟩) 1 1 := by rw [Ha6.out]; exact Act.eval_put_same _ _ _ (by have := z5; omega)
  have g121 : a6.eval (.tmp 121) = vh := by rw [Ha6.out, Act.eval_put_ne _ _ _ _ (by decide)]; exact f121
  refine wpAnyH_ready (rs := [6]) (by kernel_rfl) (by simp) ?_
  refine AllReadyH.cons (o := { dst := some 124, op := Op.call { callee := Callee.builtin Builtin.append, args := #[Operand.tmp 121, Operand.tmp 123], argTypes := #[49, 49] }, type := 49, pos := "world.go:175", after := #[{ on := 3, ground := Ground.data }, { on := 5, ground := Ground.data }], guard := none }) rfl (fun K hK => ?_) AllReadyH.nil
  refine step_append_fr1 rfl (.tmp 121) (.tmp 123) rfl base n vh xs ⟨w.heap.size, 0, none⟩ 1 F g121 e123 (own_later HOw.out HB2.out (Nat.le_refl _)) (by rw [← HW2.out]; exact lit_cellsQ w.drew 130 (f9L F)) hn (Nat.le_trans hb HB2.out.size) ?_
  intro ad' cap' w3 hown3 hg3 hat3
  refine hK.out _ _ (HSf.out w3 (fun x hx hne => (hg3.block x (Nat.lt_of_lt_of_le hx HB2.out.size) (fun e => hne e.symm)).trans (HB2.out.block x hx))) (fun hHeld => ?_)
  clear hK K
  obtain ⟨a7, Ha7⟩ : ∃ x, Hid (x = Act.put a6 (some 124) (.slice ad' (n + 1) cap')) := ⟨_, rfl⟩
  change wpAnyH _ _ _ _ _ _ _ (Act.put a6 (some 124) (.slice ad' (n + 1) cap')) _
  rw [← Ha7.out]
  have e124 : a7.eval (.tmp 124) = .slice ad' (n + 1) cap' := by rw [Ha7.out]; exact Act.eval_put_same _ _ _ z6
  refine wpAnyH_take (i := 7) (oi := { dst := some 7, op := Op.assign (Operand.tmp 124), type := 49, pos := "world.go:175", after := #[{ on := 6, ground := Ground.data }, { on := 6, ground := Ground.chain }, { on := 0, ground := Ground.phase }, { on := 1, ground := Ground.phase }, { on := 2, ground := Ground.phase }, { on := 3, ground := Ground.phase }, { on := 4, ground := Ground.phase }, { on := 5, ground := Ground.phase }, { on := 6, ground := Ground.phase }], guard := none }) (v := .slice ad' (n + 1) cap') rfl (by kernel_rfl) (by kernel_rfl) (by kernel_rfl) (fun c a w h => HQp.out c _ _ a w h) (Or.inl ⟨by rfl, ?_⟩) hHeld ?_
  · intro w hSw
    have e0 := eval_form e124
    go_simp
  change wpAnyH _ _ _ _ _ _ _ (Act.put a7 (some 7) (.slice ad' (n + 1) cap')) _
  refine wpAnyH_done (by kernel_rfl) ?_ _
  refine HQ.out _ ad' cap' w3 hown3 (by rw [HW2.out]; exact hg3) (by rw [HW2.out]; exact hat3) ?_
  rw [Ha7.out, Ha6.out, Ha5.out, Ha4.out, Ha3.out, Ha2.out, Ha1.out]
end Go.Proofs.YtbaamegnmeohoacGreatDoor
