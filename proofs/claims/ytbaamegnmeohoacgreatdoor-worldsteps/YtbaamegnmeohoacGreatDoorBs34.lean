/-
  On the way to WStepsProof: XF XG UC UD.
-/
import Derived.Test.YtbaamegnmeohoacGreatDoorBs29
import Derived.Test.YtbaamegnmeohoacGreatDoorBs4
import Derived.Test.YtbaamegnmeohoacGreatDoorBs19
import Derived.Laws.Externs
import Derived.Lib.Overlaps
import Derived.Deep.RegionLaw
import Derived.Lib.AppendZerosOnto
namespace Go.Proofs.YtbaamegnmeohoacGreatDoor
open Go.RowKit
theorem own_lower {w : World} {b b' : Nat} {e : TypeId} {size n : Nat} {v : Value} {xs : List Value} (h : w.ownsRow b e size v n xs) (hb : b' ≤ b) : w.ownsRow b' e size v n xs := by
  refine ⟨h.1, ?_⟩
  rcases h.2 with hn | ⟨g, cap, cur, rfl, hb', rest⟩
  · exact .inl hn
  · exact .inr ⟨g, cap, cur, rfl, Nat.le_trans hb hb', rest⟩
theorem fr_take {w : World} {g o cap c k : Nat} {L : List F9} (h : IsFr w (.slice (some ⟨g, o, none⟩) L.length cap) L) (hk : k ≤ L.length) : IsFr w (.slice (some ⟨g, o, none⟩) k c) (L.take k) := by
  have hl : (L.take k).length = k := by rw [List.length_take]; omega
  obtain ⟨ad, cp, e, hf⟩ := h
  injection e with e1 e2 e3
  subst e1
  refine ⟨_, c, by rw [hl], fun i hi => ?_⟩
  rw [hl] at hi
  obtain ⟨b, off, e4, hc⟩ := hf i (by omega)
  refine ⟨b, off, e4, fun j hj => ?_⟩
  rw [hc j hj, List.getElem_take]
theorem fr_drop {w : World} {g o o2 cap c k : Nat} {L : List F9} (h : IsFr w (.slice (some ⟨g, o, none⟩) L.length cap) L) (hk : k ≤ L.length) (ho : k < L.length → o2 = o + k * 9) : IsFr w (.slice (some ⟨g, o2, none⟩) (L.length - k) c) (L.drop k) := by
  have hl : (L.drop k).length = L.length - k := by rw [List.length_drop]
  obtain ⟨ad, cp, e, hf⟩ := h
  injection e with e1 e2 e3
  subst e1
  refine ⟨_, c, by rw [hl], fun i hi => ?_⟩
  rw [hl] at hi
  obtain ⟨b, off, e4, hc⟩ := hf (k + i) (by omega)
  have e5 := Option.some.inj e4
  injection e5 with e6 e7
  subst e6 e7
  refine ⟨g, o2, rfl, fun j hj => ?_⟩
  have := hc j hj
  rw [ho (by omega), List.getElem_drop, ← this]
  congr 2
  omega
section
variable {w0 w w' : World} {C C' : Nat → Nat} {Y : YB} {aw : Option Addr} {cap m m' : Nat} {zs : List Int} {V V' : PX}
set_option maxHeartbeats 2000000 in
set_option maxRecDepth 100000 in
theorem rtake_ok (k : Nat) (F : F9) (h : RW w0 w C Y aw cap zs V m) (hk : k < V.fly.length) (hF : V.fly[k]'hk = F) (hm : m ≤ 100000000) :
    Calls Tryz.prog 116 #[.pointer (some ⟨Y.xb, 0, none⟩), .int .i64 (k : Int)] w fun e w' => e = .returned (.tuple #[frV F.f F.t F.d F.k F.a F.y F.ph F.pr F.pa, .bool true]) ∧ ROut w0 w w' C Y aw cap zs (takeX V k) m := by
  obtain ⟨g, cp, cur, hv, hbg, hrow, hnc, hcm, hcs, htk⟩ : ∃ g cp, ∃ cur : Array Value, Y.fv = .slice (some ⟨g, 0, none⟩) V.fly.length cp ∧ w0.heap.size ≤ g ∧ w.heap[g]? = some (.cells cur 130 (0, 0)) ∧ V.fly.length ≤ cp ∧ cp ≤ maxLen ∧ cur.size = cp * 9 ∧ cur.toList.take (V.fly.length * 9) = frCells V.fly := by
    rcases h.fly.2 with ⟨-, h0⟩ | h1
    · omega
    · exact h1
  have HFr := hid (IsFr.owned h.fly)
  rw [hv] at HFr
  have hcl : ∀ j, j < 9 → w.cell? ⟨g, k * 9 + j, none⟩ = (f9L F)[j]? := fun j hj => by
    rw [← hF, cell_of_row _ _ _ _ _ _ hrow, ← frCells_get V.fly k j hk hj, ← htk, List.getElem?_take_of_lt (by omega), Array.getElem?_toList]
  obtain ⟨ff, ft, fd, fk, fa, fy, fh, fp, fq⟩ := F
  obtain ⟨W1, HW1⟩ : ∃ W1, Hid (w.alloc (.cells #[.int .i64 0, .int .i64 0, .int .i64 0, .int .i64 0, .int .i64 0, .bool false, .int .i64 0, .int .i64 0, .int .i64 0] 130) = W1) := ⟨_, rfl⟩
  have HB1 : Hid (Below w.heap.size w W1) := by rw [← HW1.out]; exact (Below.refl _ _).alloc (Nat.le_refl _) _
  have HR1 : Hid (W1.heap[w.heap.size]? = some (.cells #[.int .i64 0, .int .i64 0, .int .i64 0, .int .i64 0, .int .i64 0, .bool false, .int .i64 0, .int .i64 0, .int .i64 0] 130 (0, 0))) := by rw [← HW1.out]; exact heap_alloc_new w _
  have hs1 : W1.heap.size = w.heap.size + 1 := by rw [← HW1.out]; simp
  obtain ⟨W2, HW2⟩ : ∃ W2, Hid (W1.alloc (.cells #[.int .i64 ff, .int .i64 ft, .int .i64 fd, .int .i64 fk, .int .i64 fa, .bool fy, .int .i64 fh, .int .i64 fp, .int .i64 fq] 130) = W2) := ⟨_, rfl⟩
  have HB2 : Hid (Below w.heap.size w W2) := by rw [← HW2.out]; exact HB1.out.alloc HB1.out.size _
  have HR2 : Hid (W2.heap[w.heap.size]? = some (.cells #[.int .i64 0, .int .i64 0, .int .i64 0, .int .i64 0, .int .i64 0, .bool false, .int .i64 0, .int .i64 0, .int .i64 0] 130 (0, 0))) := by rw [← HW2.out]; exact (Below.heap_alloc W1 _ _ (row_ltJ HR1.out)).trans HR1.out
  have HR3 : Hid (W2.heap[w.heap.size + 1]? = some (.cells #[.int .i64 ff, .int .i64 ft, .int .i64 fd, .int .i64 fk, .int .i64 fa, .bool fy, .int .i64 fh, .int .i64 fp, .int .i64 fq] 130 (0, 0))) := by rw [← HW2.out, ← hs1]; exact heap_alloc_new W1 _
  have H := hid h
  have HWD := hid (h.later HB2.out)
  obtain ⟨n, hn⟩ : ∃ n, Hid (V.fly.length = n) := ⟨_, rfl⟩
  have hbig : V.fly.length ≤ 1000000000000 := by have := h.inv.fl; omega
  have c3 := (h.cells).2.2.2.1
  rw [hv] at c3
  have c3W1 := cell_later HB1.out c3
  have c3W2 := cell_later HB2.out c3
  obtain ⟨b0, b1, b2, b3, b4, b5, b6, b7, b8⟩ := nineO (o := k * 9) hcl
  simp only at b0 b1 b2 b3 b4 b5 b6 b7 b8
  have y0 := cell_later HB1.out b0
  have y1 := cell_later HB1.out b1
  have y2 := cell_later HB1.out b2
  have y3 := cell_later HB1.out b3
  have y4 := cell_later HB1.out b4
  have y5 := cell_later HB1.out b5
  have y6 := cell_later HB1.out b6
  have y7 := cell_later HB1.out b7
  have y8 := cell_later HB1.out b8
  have HT1 := hid (fr_take (c := cp) (HFr.out.later HB2.out) (Nat.le_of_lt hk))
  obtain ⟨o2, ho2⟩ : ∃ o2, o2 = if cp = k + 1 then 0 else (k + 1) * 9 := ⟨_, rfl⟩
  have HT2 := hid (fr_drop (c := cp - (k + 1)) (o2 := o2) (k := k + 1) HFr.out hk (fun hx => by rw [ho2, if_neg (by omega)]; omega))
  have hA1 : (if cp = k + 1 then some (⟨g, 0, none⟩ : Addr) else some ⟨g, (k + 1) * 9, none⟩) = some ⟨g, o2, none⟩ := by rw [ho2]; split <;> rfl
  have HLs : Hid (V.fly.take k ++ V.fly.drop (k + 1) = V.fly.eraseIdx k) := (List.eraseIdx_eq_take_drop_succ V.fly k).symm
  have htl : (V.fly.take k).length = k := by rw [List.length_take]; omega
  have hdl : (V.fly.drop (k + 1)).length = V.fly.length - (k + 1) := by rw [List.length_drop]
  obtain ⟨LT, HLT⟩ : ∃ LT, Hid (V.fly.take k = LT) := ⟨_, rfl⟩
  obtain ⟨LD, HLD⟩ : ∃ LD, Hid (V.fly.drop (k + 1) = LD) := ⟨_, rfl⟩
  rw [HLT.out] at HT1 HLs htl
  rw [HLD.out] at HT2 HLs hdl
  rw [hn.out] at c3 c3W1 c3W2 hk hbig hnc hdl HT2
  have hw1 : IntKind.i64.wrap ((k : Int) + 1) = (k : Int) + 1 := by rw [IntKind.wrap_i64]; omega
  have hb1 : (0 : Int) ≤ (k : Int) + 1 := by omega
  have hb2 : (k : Int) + 1 ≤ (n : Int) := by omega
  have hb3 : (k : Int) ≤ (cp : Int) := by omega
  have hb4 : ((k : Int) + 1).toNat = k + 1 := by omega
  have hlx := row_ltJ h.row
  have HBg := hid (row_ltJ hrow)
  have hW1 := HW1.out
  have hW2 := HW2.out
  have HLtl := hid htl
  have HLdl := hid hdl
  have HV := hid hv
  clear h hv hbg hrow hcm hcs htk hcl hF ho2 b0 b1 b2 b3 b4 b5 b6 b7 b8 htl hdl
  have HX3 : Hid (∀ w3, W2.grownBy w3 none → w3.cell? ⟨Y.xb, 3, none⟩ = some (.slice (some ⟨g, 0, none⟩) n cp) ∧ Below W2.heap.size W2 w3) := by
    intro w3 hg
    have hb : Below W2.heap.size W2 w3 := Below.grown (Below.refl _ _) hg (Nat.le_refl _) (fun j hj => by cases hj)
    exact ⟨cell_later hb c3W2, hb⟩
  have HX4 : Hid (∀ (v3 : Value) (w3 w4 : World) (ys : List Value), w3.ownsRow W2.heap.size 130 9 v3 k ys → Below W2.heap.size W2 w3 → w3.grownBy w4 v3.ownBlock → w4.cell? ⟨Y.xb, 3, none⟩ = some (.slice (some ⟨g, 0, none⟩) n cp) ∧ w4.frozen? ⟨Y.xb, 3, none⟩ = false ∧ Below W2.heap.size W2 w4) := by
    intro v3 w3 w4 ys ho hb hg
    have hb4 : Below W2.heap.size W2 w4 := Below.grown hb hg hb.size (fun j hj => (ho.lt j hj).1)
    exact ⟨cell_later hb4 c3W2, frozen_of_row _ _ _ _ _ ((HWD.out.later hb4).row), hb4⟩
  have HEnd : Hid (∀ (v4 : Value) (w4 : World), w4.ownsRow W2.heap.size 130 9 v4 (k + (n - (k + 1))) (frCells LT ++ frCells LD) → Below W2.heap.size W2 w4 → ROut w0 W2 (w4.setCell ⟨Y.xb, 3, none⟩ v4) C Y aw cap zs (takeX V k) m) := by
    intro v4 w4 ho hb
    have hel : (V.fly.eraseIdx k).length = k + (n - (k + 1)) := by rw [← HLs.out, List.length_append, HLtl.out, HLdl.out]
    refine HWD.out.framed (F := V.fly.eraseIdx k) (S := fun _ => False) (Kept.of_below hb) (fun _ x => x.elim) ?_ ?_ (Nat.le_refl _) H.out.inv.take
    · rw [hel, ← HLs.out, frCells_append]
      exact own_lower ho (Nat.le_trans H.out.bel.size HB2.out.size)
    · cases hob : v4.ownBlock with
      | none => exact .inl rfl
      | some g4 => exact .inr (.inr ⟨g4, rfl, (ho.lt g4 hob).1⟩)
  have HRows : Hid (∀ (v4 : Value) (w4 : World), Below W2.heap.size W2 w4 → (w4.setCell ⟨Y.xb, 3, none⟩ v4).heap[w.heap.size]? = some (.cells #[.int .i64 0, .int .i64 0, .int .i64 0, .int .i64 0, .int .i64 0, .bool false, .int .i64 0, .int .i64 0, .int .i64 0] 130 (0, 0)) ∧ (w4.setCell ⟨Y.xb, 3, none⟩ v4).heap[w.heap.size + 1]? = some (.cells #[.int .i64 ff, .int .i64 ft, .int .i64 fd, .int .i64 fk, .int .i64 fa, .bool fy, .int .i64 fh, .int .i64 fp, .int .i64 fq] 130 (0, 0))) := by
    intro v4 w4 hb
    have hk1 : Kept (In1 Y.xb) w4 (w4.setCell ⟨Y.xb, 3, none⟩ v4) := (Kept.refl _ w4).set1 3 v4
    exact ⟨hk1.row ((hb.block _ (row_ltJ HR2.out)).trans HR2.out) (fun e => by have : w.heap.size = Y.xb := e; omega), hk1.row ((hb.block _ (row_ltJ HR3.out)).trans HR3.out) (fun e => by have : w.heap.size + 1 = Y.xb := e; omega)⟩
  have HNw : Hid (2000 ≤ C w.heap.size) := by
    rcases Nat.lt_or_ge (C w.heap.size) 2000 with q | q
    · have := H.out.lt _ q; omega
    · exact q
  go_enter Tryz.func116, Tryz.ntmps116
  go_wp2_with (first
    | (at_builtin; refine wpList_append_frs rfl _ _ rfl W2.heap.size 0 (.slice none 0 0) (.slice (some ⟨g, 0, none⟩) k cp) [] LT rfl rfl (World.ownsRow_nil _ _ _ _) HT1.out (by rw [HLtl.out]; omega) (Nat.le_refl _) ?_; rw [HLtl.out, Nat.zero_add]; intro ad' cap' w3 hown hg _; obtain ⟨c3W3, hb3⟩ := HX3.out w3 hg; have HS3 := hid (And.intro hown hb3); clear hown hg hb3)
    | (at_builtin; refine wpList_append_frs rfl _ _ rfl W2.heap.size k (.slice ad' k cap') (.slice (some ⟨g, o2, none⟩) (n - (k + 1)) (cp - (k + 1))) ([] ++ frCells LT) LD rfl rfl HS3.out.1 (HT2.out.later (HB2.out.trans (HS3.out.2.mono HB2.out.size))) (by rw [HLdl.out]; omega) HS3.out.2.size ?_; rw [HLdl.out, List.nil_append]; intro ad4 cap4 w4 hown4 hg4 _; obtain ⟨c3W4, z3W4, hb4⟩ := HX4.out _ w3 w4 _ HS3.out.1 HS3.out.2 hg4; have HS4 := hid (HEnd.out _ w4 hown4 hb4); obtain ⟨hz5, hr5⟩ := HRows.out (.slice ad4 (k + (n - (k + 1))) cap4) w4 hb4; obtain ⟨W5, HW5⟩ : ∃ W5, Hid (w4.setCell ⟨Y.xb, 3, none⟩ (.slice ad4 (k + (n - (k + 1))) cap4) = W5) := ⟨_, rfl⟩; rw [HW5.out] at HS4 hz5 hr5; have HZ5 := hid hz5; have HR5 := hid hr5; obtain ⟨z0, z1, z2, z3, z4, z5, z6, z7, z8⟩ := nine (f := 0) (t := 0) (d := 0) (k := 0) (a := 0) (y := false) (ph := 0) (pr := 0) (pa := 0) HZ5.out; obtain ⟨f0, f1, f2, f3, f4, f5, f6, f7, f8⟩ := frozen9 HZ5.out; obtain ⟨e0, e1, e2, e3, e4, e5, e6, e7, e8⟩ := nine HR5.out; have hW5 := HW5.out; clear hown4 hg4 hb4 hz5 hr5))
  obtain ⟨Yw, HY, HYR, HYK⟩ := stored9 HZ5.out ff ft fd fk fa fy fh fp fq
  rw [HY.out]
  refine bodyPost_ret (results_row2 rfl _ _ w.heap.size 130 _ (0, 0) _ rfl (HYR.out) Tryz.underlying130 rfl (by kernel_rfl)) rfl ?_
  refine ⟨rfl, ?_⟩
  obtain ⟨C', Y', g1, g2, g3', g4⟩ := HS4.out
  have g3 : Kept (OwnX C) w W5 := (Kept.of_below HB2.out).trans g3'
  have hn5 : 2000 ≤ C' w.heap.size := by rw [g4 _ (row_ltJ HR2.out)]; exact HNw.out
  exact ⟨C', Y', g1.far HYK.out (fun x hx => by rw [show x = w.heap.size from hx]; exact hn5) (fun x hx => by rw [show x = w.heap.size from hx]; exact H.out.bel.size), g2, ⟨HYK.out.os.trans g3.os, HYK.out.tape.trans g3.tape, HYK.out.output.trans g3.output, Nat.le_trans g3.size HYK.out.size, fun y hy hs => (HYK.out.block y (Nat.lt_of_lt_of_le hy g3.size) (fun e => by have : y = w.heap.size := e; omega)).trans (g3.block y hy hs)⟩, fun x hx => g4 x (Nat.lt_of_lt_of_le hx HB2.out.size)⟩
end
section
variable {w0 w w' : World} {C C' : Nat → Nat} {Y : YB} {aw : Option Addr} {cap m m' : Nat} {zs : List Int} {V V' : PX}
theorem RW.flyForm (h : RW w0 w C Y aw cap zs V m) : ∃ a c, Y.fv = .slice a V.fly.length c := by
  rcases h.fly.2 with ⟨h1, h0⟩ | ⟨g, cp, cur, h1, -⟩
  · exact ⟨none, 0, by rw [h1, h0]⟩
  · exact ⟨_, _, h1⟩
set_option maxHeartbeats 2000000 in
set_option maxRecDepth 100000 in
theorem rtake_no (s : Int) (h : RW w0 w C Y aw cap zs V m) (hs : ¬ (0 ≤ s ∧ s < V.fly.length)) (hm : m ≤ 100000000) :
    Calls Tryz.prog 116 #[.pointer (some ⟨Y.xb, 0, none⟩), .int .i64 s] w fun e w' => e = .returned (.tuple #[frV 0 0 0 0 0 false 0 0 0, .bool false]) ∧ Below w.heap.size w w' := by
  obtain ⟨a, c, hv⟩ := h.flyForm
  have c3 := (h.cells).2.2.2.1
  rw [hv] at c3
  obtain ⟨W1, HW1⟩ : ∃ W1, Hid (w.alloc (.cells #[.int .i64 0, .int .i64 0, .int .i64 0, .int .i64 0, .int .i64 0, .bool false, .int .i64 0, .int .i64 0, .int .i64 0] 130) = W1) := ⟨_, rfl⟩
  have HB1 : Hid (Below w.heap.size w W1) := by rw [← HW1.out]; exact (Below.refl _ _).alloc (Nat.le_refl _) _
  have HR1 : Hid (W1.heap[w.heap.size]? = some (.cells #[.int .i64 0, .int .i64 0, .int .i64 0, .int .i64 0, .int .i64 0, .bool false, .int .i64 0, .int .i64 0, .int .i64 0] 130 (0, 0))) := by rw [← HW1.out]; exact heap_alloc_new w _
  have c3W1 := cell_later HB1.out c3
  have hbig : V.fly.length ≤ 1000000000000 := by have := h.inv.fl; omega
  obtain ⟨n, hn⟩ : ∃ n, Hid (V.fly.length = n) := ⟨_, rfl⟩
  rw [hn.out] at c3 c3W1 hs hbig
  have hW1 := HW1.out
  obtain ⟨z0, z1, z2, z3, z4, z5, z6, z7, z8⟩ := nine (f := 0) (t := 0) (d := 0) (k := 0) (a := 0) (y := false) (ph := 0) (pr := 0) (pa := 0) HR1.out
  obtain ⟨f0, f1, f2, f3, f4, f5, f6, f7, f8⟩ := frozen9 HR1.out
  clear h hv
  by_cases hneg : s < 0
  · go_enter Tryz.func116, Tryz.ntmps116
    go_wp2_with fail
    obtain ⟨Yw, HY, HYR, HYK⟩ := stored9 HR1.out 0 0 0 0 0 false 0 0 0
    rw [HY.out]
    refine bodyPost_ret (results_row2 rfl _ _ w.heap.size 130 _ (0, 0) _ rfl (HYR.out) Tryz.underlying130 rfl (by kernel_rfl)) rfl ?_
    exact ⟨rfl, HYK.out.below HB1.out.size (fun y hy => Nat.le_of_eq (show y = w.heap.size from hy).symm) HB1.out⟩
  · have hge : (n : Int) ≤ s := by omega
    go_enter Tryz.func116, Tryz.ntmps116
    go_wp2_with fail
    obtain ⟨Yw, HY, HYR, HYK⟩ := stored9 HR1.out 0 0 0 0 0 false 0 0 0
    rw [HY.out]
    refine bodyPost_ret (results_row2 rfl _ _ w.heap.size 130 _ (0, 0) _ rfl (HYR.out) Tryz.underlying130 rfl (by kernel_rfl)) rfl ?_
    exact ⟨rfl, HYK.out.below HB1.out.size (fun y hy => Nat.le_of_eq (show y = w.heap.size from hy).symm) HB1.out⟩
theorem ROut.later {w2 : World} (h : ROut w0 w w' C Y aw cap zs V' m') (hb : Below w'.heap.size w' w2) : ROut w0 w w2 C Y aw cap zs V' m' := by
  obtain ⟨C1, Y1, g1, g2, g3, g4⟩ := h
  exact ROut.step g2 g3 g4 (g1.out hb (Nat.le_refl _))
theorem alloc9 (w : World) (f t d k a : Int) (y : Bool) (ph pr pa : Int) : Below w.heap.size w (w.alloc (.cells #[.int .i64 f, .int .i64 t, .int .i64 d, .int .i64 k, .int .i64 a, .bool y, .int .i64 ph, .int .i64 pr, .int .i64 pa] 130)) := (Below.refl _ _).alloc (Nat.le_refl _) _
set_option maxHeartbeats 2000000 in
set_option maxRecDepth 100000 in
theorem rdrop_ok (k : Nat) (h : RW w0 w C Y aw cap zs V m) (hk : k < V.fly.length) (hm : m ≤ 100000000) :
    Calls Tryz.prog 52 #[.pointer (some ⟨Y.xb, 0, none⟩), .int .i64 (k : Int)] w fun e w' => e = .returned (.int .i64 0) ∧ ROut w0 w w' C Y aw cap zs (takeX V k) m := by
  have H := hid h
  have HM := hid hm
  have HK := hid hk
  clear h hm hk
  go_enter Tryz.func52, Tryz.ntmps52
  go_wp2_with fail
  refine (rtake_ok k _ H.out HK.out rfl HM.out).mono ?_
  rintro e w1 ⟨rfl, h1⟩
  have H1 := hid (h1.later (alloc9 w1 (V.fly[k]'HK.out).f (V.fly[k]'HK.out).t (V.fly[k]'HK.out).d (V.fly[k]'HK.out).k (V.fly[k]'HK.out).a (V.fly[k]'HK.out).y (V.fly[k]'HK.out).ph (V.fly[k]'HK.out).pr (V.fly[k]'HK.out).pa))
  clear h1
  generalize (V.fly[k]'HK.out) = F at H1 ⊢
  obtain ⟨ff, ft, fd, fk, fa, fy, fh, fp, fq⟩ := F
  go_wp2_with fail
  go_ret
  exact ⟨rfl, H1.out⟩
set_option maxHeartbeats 2000000 in
set_option maxRecDepth 100000 in
theorem rdrop_no (s : Int) (h : RW w0 w C Y aw cap zs V m) (hs : ¬ (0 ≤ s ∧ s < V.fly.length)) (hm : m ≤ 100000000) :
    Calls Tryz.prog 52 #[.pointer (some ⟨Y.xb, 0, none⟩), .int .i64 s] w fun e w' => e = .returned (.int .i64 4) ∧ Below w.heap.size w w' := by
  have H := hid h
  have HM := hid hm
  have HS := hid (show ¬ (0 ≤ s ∧ s < (V.fly.length : Int)) from hs)
  clear h hm hs
  go_enter Tryz.func52, Tryz.ntmps52
  go_wp2_with fail
  refine (rtake_no s H.out HS.out HM.out).mono ?_
  rintro e w1 ⟨rfl, h1⟩
  have H1 := hid (h1.trans ((alloc9 w1 0 0 0 0 0 false 0 0 0).mono h1.size))
  clear h1
  go_wp2_with fail
  go_ret
  exact ⟨rfl, H1.out⟩
end
def insL (L : List F9) (i : Nat) (F : F9) : List F9 := L.take i ++ F :: L.drop i
theorem insL_cells (L : List F9) (i : Nat) (F : F9) : frCells (insL L i F) = (frCells L).take (i * 9) ++ f9L F ++ (frCells L).drop (i * 9) := by
  unfold insL
  rw [frCells_append, frCells_cons, frCells_take, frCells_drop, List.append_assoc]
theorem insL_length (L : List F9) (i : Nat) (F : F9) (h : i ≤ L.length) : (insL L i F).length = L.length + 1 := by unfold insL; rw [List.length_append, List.length_take, List.length_cons, List.length_drop]; omega
theorem insL_get (L : List F9) (i : Nat) (F : F9) (h : i ≤ L.length) (j : Nat) : (frCells (insL L i F))[j]? = if j < i * 9 then (frCells L)[j]? else if j < i * 9 + 9 then (f9L F)[j - i * 9]? else (frCells L)[j - 9]? := by
  have hl : ((frCells L).take (i * 9)).length = i * 9 := by rw [List.length_take, frCells_length]; omega
  rw [insL_cells]
  by_cases h1 : j < i * 9
  · rw [if_pos h1, List.append_assoc, List.getElem?_append_left (by omega), List.getElem?_take_of_lt h1]
  · rw [if_neg h1]
    by_cases h2 : j < i * 9 + 9
    · rw [if_pos h2, List.append_assoc, List.getElem?_append_right (by omega), hl, List.getElem?_append_left (by rw [f9L_length]; omega)]
    · rw [if_neg h2, List.getElem?_append_right (by rw [List.length_append, hl, f9L_length]; omega), List.length_append, hl, f9L_length, List.getElem?_drop]
      congr 1
      omega
set_option maxHeartbeats 4000000 in
set_option maxRecDepth 100000 in
theorem ins_room (base b o n c i vb : Nat) (cur : Array Value) (L : List F9) (F : F9) (w : World) (hb : w.heap[b]? = some (.cells cur 130 (0, 0))) (hbase : base ≤ b) (hL : L.length = n) (hnc : n + 1 ≤ c) (hcm : c ≤ maxLen) (hsz : o + c * 9 ≤ cur.size) (htk : ∀ j, j < n * 9 → cur[o + j]? = (frCells L)[j]?) (hi : i < n) (hvb : w.heap[vb]? = some (.cells (f9L F).toArray 130 (0, 0))) (hne : vb ≠ b) :
    Calls Tryz.prog 117 #[.slice (some ⟨b, o, none⟩) n c, .int .i64 (i : Int), .slice (some ⟨vb, 0, none⟩) 1 1] w fun e w' => e = .returned (.slice (some ⟨b, o, none⟩) (n + 1) c) ∧ OwnF w' base (.slice (some ⟨b, o, none⟩) (n + 1) c) (insL L i F) ∧ Kept (In1 b) w w' := by
  have h63 : c ≤ 9223372036854775807 := by unfold maxLen at hcm; omega
  have hmul : (n + 1) * 9 ≤ c * 9 := Nat.mul_le_mul_right 9 hnc
  have hcell : ∀ x, x < n * 9 → w.cell? ⟨b, o + x, none⟩ = (frCells L)[x]? := fun x hx => by
    rw [cell_of_row _ _ _ _ _ _ hb, htk x hx]
  have hsome : ∀ x, x < c * 9 → (w.cell? ⟨b, o + x, none⟩).isSome = true := fun x hx => by
    rw [cell_of_row _ _ _ _ _ _ hb, Array.getElem?_eq_getElem (by omega)]; rfl
  have hfz : ∀ x, w.frozen? ⟨b, x, none⟩ = false := fun x => frozen_of_row _ _ _ _ _ hb
  have hLl := frCells_length L
  have hdl : (frCells (L.drop i)).length = (n - i) * 9 := by rw [frCells_length, List.length_drop, hL]
  obtain ⟨W1, HW1⟩ : ∃ W1, Hid (w.drew.setCells b (o + (i + 1) * 9) (frCells (L.drop i)) = W1) := ⟨_, rfl⟩
  have hfit : o + (i + 1) * 9 + (frCells (L.drop i)).length ≤ cur.size := by rw [hdl]; omega
  obtain ⟨CR, hCR⟩ : ∃ CR, CR = (cur.toList.take (o + (i + 1) * 9) ++ frCells (L.drop i) ++ cur.toList.drop (o + (i + 1) * 9 + (frCells (L.drop i)).length)) := ⟨_, rfl⟩
  have HR1 : Hid (W1.heap[b]? = some (.cells CR.toArray 130 (0, 0))) := by
    rw [← HW1.out, hCR]; exact row_setCells _ _ w.drew cur hb hfit
  have hCg : ∀ k, CR[k]? = if k < o + (i + 1) * 9 then cur.toList[k]? else if k < o + (i + 1) * 9 + (frCells (L.drop i)).length then (frCells (L.drop i))[k - (o + (i + 1) * 9)]? else cur.toList[k]? := fun k => by
    rw [hCR]; exact get_spliced _ _ _ _ (by rw [Array.length_toList (xs := cur)]; exact hfit)
  have HK1 : Hid (Kept (In1 b) w W1) := by rw [← HW1.out]; exact (Kept.refl _ w).drew.trans (kept_setCells b _ _ _)
  have hs1 : CR.length = cur.size := by
    rw [hCR, List.length_append, List.length_append, List.length_take, List.length_drop, hdl, Array.length_toList (xs := cur)]; omega
  have hcp1 : ∀ ty dc sc, (Builtin.copy_ #[49, 49] ty #[.slice (some ⟨b, o + (i + 1) * 9, none⟩) (n - i) dc, .slice (some ⟨b, o + i * 9, none⟩) (n + 1 - i) sc]).run Tryz.prog w.drew = .ok (goInt ((n - i : Nat) : Int)) W1 := fun ty dc sc => by
    rw [← HW1.out]
    exact run_copy_frs w.drew 49 ty b (o + (i + 1) * 9) (n - i) dc ⟨b, o + i * 9, none⟩ (n + 1 - i) sc (n - i) (frCells (L.drop i)) (by simp only [Nat.min_def]; split <;> omega) hdl
      (fun j v hj => by
        have hjl := (List.getElem?_eq_some_iff.1 hj).1
        rw [hdl] at hjl
        rw [addr_add]
        show w.cell? ⟨b, o + i * 9 + j, none⟩ = some v
        rw [Nat.add_assoc, hcell _ (by omega), ← hj, frCells_drop, List.getElem?_drop])
      (fun j hj => by rw [hdl] at hj; rw [Nat.add_assoc]; exact hsome _ (by omega)) (fun j _ => hfz _) (frCells_one _)
  have hcp2 : ∀ ty dc, (Builtin.copy_ #[49, 49] ty #[.slice (some ⟨b, o + i * 9, none⟩) (n + 1 - i) dc, .slice (some ⟨vb, 0, none⟩) 1 1]).run Tryz.prog W1 = .ok (goInt 1) (W1.setCells b (o + i * 9) (f9L F)) := fun ty dc =>
    run_copy_frs W1 49 ty b (o + i * 9) _ dc ⟨vb, 0, none⟩ 1 1 1 (f9L F) (by simp only [Nat.min_def]; split <;> omega) rfl
      (fun j v hj => by
        rw [addr_add, cell_of_row _ _ _ _ _ _ (HK1.out.row hvb hne), List.getElem?_toArray, Nat.zero_add]
        exact hj)
      (fun j hj => by rw [cell_of_row _ _ _ _ _ _ HR1.out, List.getElem?_toArray, List.getElem?_eq_getElem (by rw [hs1]; rw [f9L_length] at hj; omega)]; rfl) (fun j _ => frozen_of_row _ _ _ _ _ HR1.out) (f9_oneQ F)
  have hov : ∀ lb cb, (callFunc 165 #[.slice (some ⟨vb, 0, none⟩) 1 1, .slice (some ⟨b, o + (i + 1) * 9, none⟩) lb cb]).run Tryz.prog w = .ok (.value (.bool false)) w := fun lb cb => by
    rw [run_callFunc_extern Tryz.func165 (by kernel_rfl) (by kernel_rfl) (by kernel_rfl) (e := Extern.SlicesOverlaps.overlaps #[49, 49] #[4]) (by kernel_rfl),
      Lib.run_overlaps_apart w 49 4 130 Tryz.underlying49 9 sizeFr ⟨vb, 0, none⟩ ⟨b, o + (i + 1) * 9, none⟩ 1 1 lb cb hne 130 130 9 cur.size (by unfold World.shape?; rw [show w.heap[(⟨vb, 0, none⟩ : Addr).block]? = _ from hvb]; rfl) (by unfold World.shape?; rw [show w.heap[(⟨b, o + (i + 1) * 9, none⟩ : Addr).block]? = _ from hb]) (by omega) (frozen_of_row _ _ _ _ _ hvb) (frozen_of_row _ _ _ _ _ hvb)]
    rfl
  have HF : Hid (OwnF (W1.setCells b (o + i * 9) (f9L F)) base (.slice (some ⟨b, o, none⟩) (n + 1) c) (insL L i F)) := by
    have hfit2 : o + i * 9 + (f9L F).length ≤ CR.length := by rw [hs1, f9L_length]; omega
    have hr := row_setCells (f9L F) (o + i * 9) W1 _ HR1.out (by rw [List.size_toArray]; exact hfit2)
    have hil : (insL L i F).length = n + 1 := by rw [insL_length L i F (by omega), hL]
    refine .inr ⟨b, o, c, _, by rw [hil], hbase, hr, by rw [hil]; exact hnc, hcm, ?_, fun j hj => ?_⟩
    · rw [List.size_toArray, List.length_append, List.length_append, List.length_take, List.length_drop, List.toList_toArray, hs1, f9L_length]; omega
    · rw [hil] at hj
      rw [List.getElem?_toArray, List.toList_toArray, get_spliced _ _ _ _ hfit2, insL_get L i F (by omega), f9L_length]
      by_cases h1 : j < i * 9
      · rw [if_pos (by omega), if_pos h1, hCg, if_pos (by omega), Array.getElem?_toList, htk j (by omega)]
      · rw [if_neg (by omega), if_neg h1]
        by_cases h2 : j < i * 9 + 9
        · rw [if_pos (by omega), if_pos h2, show o + j - (o + i * 9) = j - i * 9 by omega]
        · rw [if_neg (by omega), if_neg h2, hCg, if_neg (by omega), if_pos (by omega), frCells_drop, List.getElem?_drop, show i * 9 + (o + j - (o + (i + 1) * 9)) = j - 9 by omega]
  have hq1 : ¬ (c = i + 1) := by omega
  have hq2 : ¬ (c = i) := by omega
  have hq3 : i ≤ n + 1 := by omega
  have hq4 : i + 1 ≤ n + 1 := by omega
  have hw1 : IntKind.i64.wrap ((i : Int) + 1) = (i : Int) + 1 := by rw [IntKind.wrap_i64]; omega
  have hb1 : (0 : Int) ≤ (i : Int) + 1 := by omega
  have htn : ((i : Int) + 1).toNat = i + 1 := by omega
  have hb5 : (i : Int) ≤ (n : Int) := by omega
  have hb6 : (i : Int) ≤ (n : Int) + 1 := by omega
  have HK2 : Hid (Kept (In1 b) w (W1.setCells b (o + i * 9) (f9L F))) := HK1.out.trans (kept_setCells b _ _ _)
  clear hcell hsome hfz hb hvb htk hsz hLl hdl hs1 hmul hCR hCg hfit
  go_enter Tryz.func117, Tryz.ntmps117
  go_wp2_with (simp only [hov])
  go_region_law (refine step_copy_runF rfl _ _ 49 49 rfl _ _ (by simp [Act.eval, Act.put]) (by simp [Act.eval, Act.put]) (hcp1 _ _ _) ?_)
  go_wp2_with (at_builtin; refine wpList_copy_runF _ rfl _ _ 49 49 rfl _ _ rfl rfl (hcp2 _ _) ?_)
  go_ret
  exact ⟨rfl, HF.out, HK2.out⟩
theorem zeroC_size (k : Nat) : (Builtin.zeroCells (frV 0 0 0 0 0 false 0 0 0).cells k).size = k * 9 := by rw [size_zeroCells]; rfl
set_option maxHeartbeats 4000000 in
set_option maxRecDepth 100000 in
theorem ins_grow (base b o n c i vb : Nat) (cur : Array Value) (L : List F9) (F : F9) (w : World) (hb : w.heap[b]? = some (.cells cur 130 (0, 0))) (hbase : base ≤ w.heap.size) (hL : L.length = n) (hnc : n ≤ c) (hroom : c < n + 1) (hbig : n ≤ 1000000000000) (htk : ∀ j, j < n * 9 → cur[o + j]? = (frCells L)[j]?) (hi : i < n) (hvb : w.heap[vb]? = some (.cells (f9L F).toArray 130 (0, 0))) :
    Calls Tryz.prog 117 #[.slice (some ⟨b, o, none⟩) n c, .int .i64 (i : Int), .slice (some ⟨vb, 0, none⟩) 1 1] w fun e w' => ∃ G, e = .returned (.slice (some ⟨w.heap.size, 0, none⟩) (n + 1) G) ∧ w'.ownsRow base 130 9 (.slice (some ⟨w.heap.size, 0, none⟩) (n + 1) G) (n + 1) (frCells (insL L i F)) ∧ Below w.heap.size w w' := by
  obtain ⟨i0, hi0, hz0, hz1, hz2⟩ := info_parts Tryz.infoFq
  have hbw := row_ltJ hb
  have hvw := row_ltJ hvb
  have hcell : ∀ x, x < n * 9 → w.cell? ⟨b, o + x, none⟩ = (frCells L)[x]? := fun x hx => by
    rw [cell_of_row _ _ _ _ _ _ hb, htk x hx]
  have hLl := frCells_length L
  have hdl : (frCells (L.drop i)).length = (n - i) * 9 := by rw [frCells_length, List.length_drop, hL]
  have htl : (frCells (L.take i)).length = i * 9 := by rw [frCells_length, List.length_take, hL, Nat.min_eq_left (by omega)]
  have hkk : (n : Int) + 1 - (i : Int) = ((n + 1 - i : Nat) : Int) := by omega
  have hik : i + (n + 1 - i) = n + 1 := by omega
  have hold : (Builtin.firstCells i0.size i (.slice (some ⟨b, o, none⟩) i c)).run Tryz.prog w.drew = .ok (frCells (L.take i)).toArray w.drew := by
    rw [hz1]
    exact run_firstCells_some w.drew 9 i ⟨b, o, none⟩ i c (frCells (L.take i)) htl (fun j v hj => by
      have hjl := (List.getElem?_eq_some_iff.1 hj).1
      rw [htl] at hjl
      rw [addr_add]
      show w.cell? ⟨b, o + j, none⟩ = some v
      rw [hcell _ (by omega), ← hj, frCells_take, List.getElem?_take_of_lt hjl])
  have hrz : ∀ ty, (Builtin.append_ #[49, 3] ty #[.slice (some ⟨b, o, none⟩) i c, .int .i64 ((n : Int) + 1 - (i : Int))]).run Tryz.prog w =
      .ok (.slice (some ⟨w.heap.size, 0, none⟩) (n + 1) (grownCap w (n + 1) c 130)) (w.drew.alloc (.cells ((frCells (L.take i)).toArray ++ Builtin.zeroCells (frV 0 0 0 0 0 false 0 0 0).cells (n + 1 - i) ++ Builtin.zeroCells (frV 0 0 0 0 0 false 0 0 0).cells (grownCap w (n + 1) c 130 - (n + 1))) 130)) := fun ty => by
    have h := Lib.run_append_grow_zeros w 49 3 ty 130 i0 _ .i64 .i64 Tryz.underlying49 Tryz.underlying3 hi0 hz0 (some ⟨b, o, none⟩) i c (frCells (L.take i)) hold (n + 1 - i) (by omega) (by rw [hz1]; omega) (by omega) (by omega) (by rw [hz2]; omega) (by rw [hz2, hik]; exact growslice_fits hroom (by omega))
    rw [hik] at h
    rw [hkk]
    exact h
  obtain ⟨G, hG⟩ : ∃ G, G = grownCap w (n + 1) c 130 := ⟨_, rfl⟩
  obtain ⟨ROW, hROW⟩ : ∃ ROW : Array Value, ROW = (frCells (L.take i)).toArray ++ Builtin.zeroCells (frV 0 0 0 0 0 false 0 0 0).cells (n + 1 - i) ++ Builtin.zeroCells (frV 0 0 0 0 0 false 0 0 0).cells (G - (n + 1)) := ⟨_, rfl⟩
  rw [← hG] at hrz
  rw [← hROW] at hrz
  have hGn : n + 1 ≤ G := by rw [hG]; exact grownCap_ge w _ _ _
  have hGm : G ≤ maxLen := by rw [hG]; exact grownCap_le_maxLen w (n + 1) c 130 (by unfold maxLen; omega)
  have hRl : ROW.size = G * 9 := by
    rw [hROW, Array.size_append, Array.size_append, zeroC_size, zeroC_size, List.size_toArray, htl]; omega
  have hRt : ROW.toList.take (i * 9) = frCells (L.take i) := by
    rw [hROW, Array.toList_append, Array.toList_append, List.append_assoc, List.toList_toArray, ← htl]
    exact List.take_left
  obtain ⟨W1, hW1⟩ : ∃ W1, W1 = w.drew.alloc (.cells ROW 130) := ⟨_, rfl⟩
  rw [← hW1] at hrz
  have hr1 : W1.heap[w.heap.size]? = some (.cells ROW 130 (0, 0)) := by rw [hW1]; exact heap_alloc_new w.drew _
  have hv1 : W1.heap[vb]? = some (.cells (f9L F).toArray 130 (0, 0)) := by rw [hW1]; exact (Below.heap_alloc w.drew _ _ hvw).trans hvb
  have hb1' : W1.heap[b]? = some (.cells cur 130 (0, 0)) := by rw [hW1]; exact (Below.heap_alloc w.drew _ _ hbw).trans hb
  have hB1 : Below w.heap.size w W1 := by rw [hW1]; exact (Below.refl _ _).drew.alloc (Nat.le_refl _) _
  have hr2 := row_setCells (f9L F) (i * 9) W1 ROW hr1 (by rw [hRl, f9L_length]; omega)
  have hk2 := kept_setCells w.heap.size (f9L F) (i * 9) W1
  obtain ⟨W2, hW2⟩ : ∃ W2, W2 = W1.setCells w.heap.size (i * 9) (f9L F) := ⟨_, rfl⟩
  rw [← hW2] at hr2 hk2
  have hs2 : (ROW.toList.take (i * 9) ++ f9L F ++ ROW.toList.drop (i * 9 + (f9L F).length)).length = G * 9 := by
    rw [List.length_append, List.length_append, List.length_take, List.length_drop, f9L_length, Array.length_toList, hRl]; omega
  have hb2' : W2.heap[b]? = some (.cells cur 130 (0, 0)) := hk2.row hb1' (fun e => by have : b = w.heap.size := e; omega)
  have hcpA : ∀ ty dc, (Builtin.copy_ #[49, 49] ty #[.slice (some ⟨w.heap.size, i * 9, none⟩) (n + 1 - i) dc, .slice (some ⟨vb, 0, none⟩) 1 1]).run Tryz.prog W1 = .ok (goInt 1) W2 := fun ty dc => by
    rw [hW2]
    exact run_copy_frs W1 49 ty w.heap.size (i * 9) (n + 1 - i) dc ⟨vb, 0, none⟩ 1 1 1 (f9L F) (by simp only [Nat.min_def]; split <;> omega) rfl
      (fun j v hj => by rw [addr_add, cell_of_row _ _ _ _ _ _ hv1, List.getElem?_toArray, Nat.zero_add]; exact hj)
      (fun j hj => by rw [f9L_length] at hj; rw [cell_of_row _ _ _ _ _ _ hr1, Array.getElem?_eq_getElem (by rw [hRl]; omega)]; rfl) (fun j _ => frozen_of_row _ _ _ _ _ hr1) (f9_oneQ F)
  have hcpB : ∀ ty dc sc, (Builtin.copy_ #[49, 49] ty #[.slice (some ⟨w.heap.size, (i + 1) * 9, none⟩) (n - i) dc, .slice (some ⟨b, o + i * 9, none⟩) (n - i) sc]).run Tryz.prog W2.drew = .ok (goInt ((n - i : Nat) : Int)) (W2.drew.setCells w.heap.size ((i + 1) * 9) (frCells (L.drop i))) := fun ty dc sc =>
    run_copy_frs W2.drew 49 ty w.heap.size ((i + 1) * 9) (n - i) dc ⟨b, o + i * 9, none⟩ (n - i) sc (n - i) (frCells (L.drop i)) (by simp only [Nat.min_def]; split <;> omega) hdl
      (fun j v hj => by
        have hjl := (List.getElem?_eq_some_iff.1 hj).1
        rw [hdl] at hjl
        rw [addr_add]
        show W2.cell? ⟨b, o + i * 9 + j, none⟩ = some v
        rw [cell_of_row _ _ _ _ _ _ hb2', ← hj, frCells_drop, List.getElem?_drop, ← htk _ (by omega), Nat.add_assoc])
      (fun j hj => by
        rw [hdl] at hj
        show (W2.cell? _).isSome = true
        rw [cell_of_row _ _ _ _ _ _ hr2, List.getElem?_toArray, List.getElem?_eq_getElem (by rw [hs2]; omega)]; rfl) (fun j _ => frozen_of_row W2 _ _ _ _ hr2) (frCells_one _)
  have hr3 := row_setCells (frCells (L.drop i)) ((i + 1) * 9) W2.drew _ (show W2.drew.heap[w.heap.size]? = _ from hr2) (by rw [List.size_toArray, hs2, hdl]; omega)
  have HK3 : Hid (Below w.heap.size w (W2.drew.setCells w.heap.size ((i + 1) * 9) (frCells (L.drop i)))) := by
    have h1 : Kept (In1 w.heap.size) W1 (W2.drew.setCells w.heap.size ((i + 1) * 9) (frCells (L.drop i))) := (hk2.trans (Kept.refl _ W2).drew).trans (kept_setCells w.heap.size _ _ _)
    exact h1.below hB1.size (fun x hx => by rw [show x = w.heap.size from hx]; exact Nat.le_refl _) hB1
  have HF : Hid ((W2.drew.setCells w.heap.size ((i + 1) * 9) (frCells (L.drop i))).ownsRow base 130 9 (.slice (some ⟨w.heap.size, 0, none⟩) (n + 1) G) (n + 1) (frCells (insL L i F))) := by
    have hil : (insL L i F).length = n + 1 := by unfold insL; rw [List.length_append, List.length_take, List.length_cons, List.length_drop, hL]; omega
    refine ⟨by rw [frCells_length, hil], .inr ⟨w.heap.size, G, _, rfl, hbase, hr3, hGn, hGm, ?_, ?_⟩⟩
    · rw [List.size_toArray, List.length_append, List.length_append, List.length_take, List.length_drop, List.toList_toArray, hs2, hdl]; omega
    · rw [List.toList_toArray, List.toList_toArray, insL_cells, hRt, ← frCells_take, ← frCells_drop]
      have hA : (frCells (L.take i) ++ f9L F ++ ROW.toList.drop (i * 9 + (f9L F).length)).take ((i + 1) * 9) = frCells (L.take i) ++ f9L F := by
        rw [show (i + 1) * 9 = (frCells (L.take i) ++ f9L F).length by rw [List.length_append, htl, f9L_length]; omega]
        exact List.take_left
      rw [hA]
      have hlen : (frCells (L.take i) ++ f9L F ++ frCells (L.drop i)).length = (n + 1) * 9 := by
        rw [List.length_append, List.length_append, htl, f9L_length, hdl]; omega
      rw [← hlen]
      exact List.take_left
  have hz3 : (c : Int) < (n : Int) + 1 := by omega
  have hGi : ¬ (G = i) := by omega
  have hGim : ¬ (G = i + 1) := by omega
  have hci : ¬ (c = i) := by omega
  have hw1 : IntKind.i64.wrap ((i : Int) + 1) = (i : Int) + 1 := by rw [IntKind.wrap_i64]; omega
  have hb1 : (0 : Int) ≤ (i : Int) + 1 := by omega
  have htn : ((i : Int) + 1).toNat = i + 1 := by omega
  have hb5 : (i : Int) ≤ (n : Int) := by omega
  have hb6 : (i : Int) ≤ (n : Int) + 1 := by omega
  have hG63 : G ≤ 9223372036854775807 := by unfold maxLen at hGm; omega
  have HW1 := hid hW1
  have hW2' := hW2.symm
  clear hcell hold hkk hik hROW hG hRl hRt hr1 hv1 hb1' hr2 hk2 hs2 hb2' hr3 hb hvb htk hLl hdl htl hB1 hW1 hW2 hGm
  go_enter Tryz.func117, Tryz.ntmps117
  go_wp2_with (first
    | (at_builtin; refine Lib.wpList_append_run _ rfl _ _ _ _ rfl _ _ rfl rfl _ _ (hrz _) ?_)
    | (at_builtin; refine wpList_copy_runF _ rfl _ _ 49 49 rfl _ _ rfl rfl (hcpA _ _) ?_))
  go_region_law (refine step_copy_runF rfl _ _ 49 49 rfl _ _ (by simp [Act.eval, Act.put]) (by simp [Act.eval, Act.put]) (hcpB _ _ _) ?_)
  go_wp2
  go_ret
  exact ⟨G, rfl, HF.out, HK3.out⟩
end Go.Proofs.YtbaamegnmeohoacGreatDoor
