/-
  WALKS of package wire: read.
-/
import Derived.Test.YtkbbjkiinpimiaaDoorKD
import Derived.Test.YtkbbjkiinpimiaaDoorRD
namespace Go.Proofs.YtkbbjkiinpimiaaDoor
open Go.RowKit

theorem Kept.rd {w w' : World} {b : Nat} {s : ByteArray} {o : Nat} (h : Kept (fun _ => False) w w') (r : RdR w b s o) : RdR w' b s o := ⟨h.row r.c0 (fun x => x), h.row r.c1 (fun x => x)⟩
theorem RdR.later {w w' : World} {b : Nat} {s : ByteArray} {o : Nat} (r : RdR w b s o) (h : Below w.heap.size w w') : RdR w' b s o := (Kept.of_below h).rd r
theorem RdR.lt {w : World} {b : Nat} {s : ByteArray} {o : Nat} (r : RdR w b s o) : b + 1 < w.heap.size := row_ltJ r.c1
theorem Kept.fresh {S : Nat → Prop} {w w1 w2 : World} {g : Nat} (h : Kept S w w1) (k : Kept (In1 g) w1 w2) (hg : w.heap.size ≤ g) : Kept S w w2 :=
  ⟨k.os.trans h.os, k.tape.trans h.tape, k.output.trans h.output, Nat.le_trans h.size k.size, fun i hi hs => (k.block i (Nat.lt_of_lt_of_le hi h.size) (fun e => by unfold In1 at e; omega)).trans (h.block i hi hs)⟩
theorem sizeFr : (Tryd.prog.info? 88).map (·.size) = some 9 := by kernel_rfl
abbrev zeroFr : Array Value := #[.int .i64 0, .int .i64 0, .int .i64 0, .int .i64 0, .int .i64 0, .bool false, .int .i64 0, .int .i64 0, .int .i64 0]

set_option maxHeartbeats 4000000 in
set_option maxRecDepth 100000 in
theorem read_is (b : Nat) (s : ByteArray) (w : World) (h : RdR w b s 0) (hs : s.size = 22) (f t d k a y ph pr pa : Nat) (yb ok : Bool)
    (e0 : numL (segL s.data.toList 0 1) = f) (e1 : numL (segL s.data.toList 1 1) = t) (e2 : numL (segL s.data.toList 2 1) = d) (e3 : numL (segL s.data.toList 3 1) = k) (e4 : numL (segL s.data.toList 4 4) = a) (e5 : numL (segL s.data.toList 8 1) = y)
    (e6 : numL (segL s.data.toList 9 1) = ph) (e7 : numL (segL s.data.toList 10 4) = pr) (e8 : numL (segL s.data.toList 14 4) = pa) (hy : (y == 1) = yb) (hok : decide (y ≤ 1) = ok) :
    Calls Tryd.prog 87 #[.func (.func 103) #[] #[.pointer (some ⟨b, 0, none⟩), .pointer (some ⟨b + 1, 0, none⟩)]] w fun e w' => e = .returned (.tuple #[frV f t d k a yb ph pr pa, .bool ok]) ∧ Kept (In1 (b + 1)) w w' := by
  have E0 := hid e0
  have E1 := hid e1
  have E2 := hid e2
  have E3 := hid e3
  have E4 := hid e4
  have E5 := hid e5
  have E6 := hid e6
  have E7 := hid e7
  have E8 := hid e8
  have HOK := hid hok
  have hyi : ((y : Int) == 1) = yb := by rw [← hy]; apply Bool.eq_iff_iff.2; simp only [beq_iff_eq]; omega
  have HSZ : Hid (s.size ≤ 1000) := by unfold Hid; omega
  have HS : Hid (s.size = 22) := hs
  have hlt := h.lt
  obtain ⟨W, HW⟩ : ∃ W, Hid (w.alloc (.cells zeroFr 88) = W) := ⟨_, rfl⟩
  have hW := HW.out
  have HR0 : Hid (RdR W b s 0) := by rw [← HW.out]; exact h.later ((Below.refl _ _).alloc (Nat.le_refl _) _)
  have HKw : Hid (Kept (In1 (b + 1)) w W) := by rw [← HW.out]; exact Kept.of_below ((Below.refl _ _).alloc (Nat.le_refl _) _)
  have HK0 : Hid (Kept (In1 (b + 1)) W W) := Kept.refl _ _
  have hWs : W.heap.size = w.heap.size + 1 := by rw [← HW.out]; simp
  have HZ0 : Hid (W.heap[w.heap.size]? = some (.cells zeroFr 88 (0, 0))) := by rw [← HW.out]; exact heap_alloc_new w _
  clear e0 e1 e2 e3 e4 e5 e6 e7 e8 hok h hs hy
  go_enter Tryd.func87, Tryd.ntmps87
  go_wp2_with fail
  refine (next_is b s 0 1 _ _ HR0.out HSZ.out (by omega) (by have := HS.out; omega) E0.out).mono ?_
  rintro e w1 ⟨rfl, r1, k1⟩
  have HR1 := hid r1
  have HK1 := hid (HK0.out.trans k1)
  clear r1 k1
  go_wp2_with fail
  refine (next_is b s 1 1 _ _ HR1.out HSZ.out (by omega) (by have := HS.out; omega) E1.out).mono ?_
  rintro e w2 ⟨rfl, r2, k2⟩
  have HR2 := hid r2
  have HK2 := hid (HK1.out.trans k2)
  clear r2 k2
  go_wp2_with fail
  refine (next_is b s 2 1 _ _ HR2.out HSZ.out (by omega) (by have := HS.out; omega) E2.out).mono ?_
  rintro e w3 ⟨rfl, r3, k3⟩
  have HR3 := hid r3
  have HK3 := hid (HK2.out.trans k3)
  clear r3 k3
  go_wp2_with fail
  refine (next_is b s 3 1 _ _ HR3.out HSZ.out (by omega) (by have := HS.out; omega) E3.out).mono ?_
  rintro e w4 ⟨rfl, r4, k4⟩
  have HR4 := hid r4
  have HK4 := hid (HK3.out.trans k4)
  clear r4 k4
  go_wp2_with fail
  refine (next_is b s 4 4 _ _ HR4.out HSZ.out (by omega) (by have := HS.out; omega) E4.out).mono ?_
  rintro e w5 ⟨rfl, r5, k5⟩
  have HR5 := hid r5
  have HK5 := hid (HK4.out.trans k5)
  clear r5 k5
  obtain ⟨fb, Hfb⟩ : ∃ n, Hid (w5.heap.size = n) := ⟨_, rfl⟩
  have hfb := Hfb.out
  obtain ⟨X5, HX5⟩ : ∃ X, Hid (w5.alloc (.cells #[.int .i64 (f : Int), .int .i64 (t : Int), .int .i64 (d : Int), .int .i64 (k : Int), .int .i64 (a : Int), .bool false, .int .i64 0, .int .i64 0, .int .i64 0] 88) = X) := ⟨_, rfl⟩
  have HRx : Hid (RdR X5 b s 8) := by rw [← HX5.out]; exact HR5.out.later ((Below.refl _ _).alloc (Nat.le_refl _) _)
  have HKx : Hid (Kept (In1 (b + 1)) W X5) := by rw [← HX5.out]; exact HK5.out.trans (Kept.of_below ((Below.refl _ _).alloc (Nat.le_refl _) _))
  have HF5 : Hid (X5.heap[fb]? = some (.cells #[.int .i64 (f : Int), .int .i64 (t : Int), .int .i64 (d : Int), .int .i64 (k : Int), .int .i64 (a : Int), .bool false, .int .i64 0, .int .i64 0, .int .i64 0] 88 (0, 0))) := by rw [← HX5.out, ← Hfb.out]; exact heap_alloc_new w5 _
  have hbf : b + 1 < fb := by rw [← Hfb.out]; exact HR5.out.lt
  have hwf : w.heap.size < fb := by rw [← Hfb.out]; have h1 := HK5.out.size; have h2 := row_ltJ HZ0.out; exact Nat.lt_of_lt_of_le (row_ltJ HZ0.out) HK5.out.size
  go_wp2_with fail
  rw [HX5.out]
  refine (next_is b s 8 1 _ _ HRx.out HSZ.out (by omega) (by have := HS.out; omega) E5.out).mono ?_
  rintro e w6 ⟨rfl, r6, k6⟩
  have HR6 := hid r6
  have HK6 := hid (HKx.out.trans k6)
  have HF6 := hid (k6.row HF5.out (fun e => by unfold In1 at e; omega))
  clear r6 k6
  have v5 : w6.cell? ⟨fb, 5, none⟩ = some (.bool false) := by rw [cell_of_row _ _ _ _ _ _ HF6.out]; rfl
  have f5 := frozen_of_row w6 fb 5 _ _ HF6.out
  obtain ⟨X6, HX6⟩ : ∃ X, Hid (w6.setCell ⟨fb, 5, none⟩ (.bool yb) = X) := ⟨_, rfl⟩
  have HF6x : Hid (X6.heap[fb]? = some (.cells #[.int .i64 (f : Int), .int .i64 (t : Int), .int .i64 (d : Int), .int .i64 (k : Int), .int .i64 (a : Int), .bool yb, .int .i64 0, .int .i64 0, .int .i64 0] 88 (0, 0))) := by
    rw [← HX6.out]; exact heap_setCell_same w6 fb 5 _ _ _ HF6.out
  have HS6 : Hid (Kept (In1 fb) w6 X6) := by rw [← HX6.out]; exact (Kept.refl _ _).set1 5 _
  have HR6x : Hid (RdR X6 b s 9) := ⟨HS6.out.row HR6.out.c0 (fun e => by unfold In1 at e; omega), HS6.out.row HR6.out.c1 (fun e => by unfold In1 at e; omega)⟩
  have HK6x : Hid (Kept (In1 (b + 1)) W X6) := HK6.out.fresh HS6.out (by omega)
  go_wp2_with fail
  rw [HX6.out]
  clear v5 f5
  refine (next_is b s 9 1 _ _ HR6x.out HSZ.out (by omega) (by have := HS.out; omega) E6.out).mono ?_
  rintro e w7 ⟨rfl, r7, k7⟩
  have HR7 := hid r7
  have HK7 := hid (HK6x.out.trans k7)
  have HL7 := hid k7
  clear r7 k7
  go_wp2_with fail
  refine (next_is b s 10 4 _ _ HR7.out HSZ.out (by omega) (by have := HS.out; omega) E7.out).mono ?_
  rintro e w8 ⟨rfl, r8, k8⟩
  have HR8 := hid r8
  have HK8 := hid (HK7.out.trans k8)
  have HL8 := hid (HL7.out.trans k8)
  clear r8 k8
  go_wp2_with fail
  refine (next_is b s 14 4 _ _ HR8.out HSZ.out (by omega) (by have := HS.out; omega) E8.out).mono ?_
  rintro e w9 ⟨rfl, r9, k9⟩
  have HK9 := hid (HK8.out.trans k9)
  have HF9 := hid ((HL8.out.trans k9).row HF6x.out (fun e => by unfold In1 at e; omega))
  clear r9 k9
  have v6 : w9.cell? ⟨fb, 6, none⟩ = some (.int .i64 0) := by rw [cell_of_row _ _ _ _ _ _ HF9.out]; rfl
  have v7 : w9.cell? ⟨fb, 7, none⟩ = some (.int .i64 0) := by rw [cell_of_row _ _ _ _ _ _ HF9.out]; rfl
  have v8 : w9.cell? ⟨fb, 8, none⟩ = some (.int .i64 0) := by rw [cell_of_row _ _ _ _ _ _ HF9.out]; rfl
  have f6 := frozen_of_row w9 fb 6 _ _ HF9.out
  have f7 := frozen_of_row w9 fb 7 _ _ HF9.out
  have f8 := frozen_of_row w9 fb 8 _ _ HF9.out
  obtain ⟨X9, HX9⟩ : ∃ X, Hid (((w9.setCell ⟨fb, 6, none⟩ (.int .i64 (ph : Int))).setCell ⟨fb, 7, none⟩ (.int .i64 (pr : Int))).setCell ⟨fb, 8, none⟩ (.int .i64 (pa : Int)) = X) := ⟨_, rfl⟩
  have HF9x : Hid (X9.heap[fb]? = some (.cells #[.int .i64 (f : Int), .int .i64 (t : Int), .int .i64 (d : Int), .int .i64 (k : Int), .int .i64 (a : Int), .bool yb, .int .i64 (ph : Int), .int .i64 (pr : Int), .int .i64 (pa : Int)] 88 (0, 0))) := by
    rw [← HX9.out]
    have h1 := heap_setCell_same w9 fb 6 _ _ (.int .i64 (ph : Int)) HF9.out
    have h2 := heap_setCell_same _ fb 7 _ _ (.int .i64 (pr : Int)) h1
    exact heap_setCell_same _ fb 8 _ _ (.int .i64 (pa : Int)) h2
  have HS9 : Hid (Kept (In1 fb) w9 X9) := by rw [← HX9.out]; exact (((Kept.refl _ _).set1 6 _).set1 7 _).set1 8 _
  have HK9x : Hid (Kept (In1 (b + 1)) W X9) := HK9.out.fresh HS9.out (by omega)
  go_wp2_with fail
  rw [HX9.out]
  clear v6 v7 v8 f6 f7 f8
  have HZ9 := hid (HK9x.out.row HZ0.out (fun e => by unfold In1 at e; omega))
  have HKE : Hid (∀ wx, Kept (In1 w.heap.size) X9 wx → Kept (In1 (b + 1)) w wx) := fun wx hx => (HKw.out.trans HK9x.out).fresh hx (Nat.le_refl _)
  obtain ⟨q0, q1, q2, q3, q4, q5, q6, q7, q8⟩ := nine HF9x.out
  obtain ⟨z0, z1, z2, z3, z4, z5, z6, z7, z8⟩ := nine (f := 0) (t := 0) (d := 0) (k := 0) (a := 0) (y := false) (ph := 0) (pr := 0) (pa := 0) HZ9.out
  have f0 := frozen_of_row X9 w.heap.size 0 _ _ HZ9.out
  have f1 := frozen_of_row X9 w.heap.size 1 _ _ HZ9.out
  have f2 := frozen_of_row X9 w.heap.size 2 _ _ HZ9.out
  have f3 := frozen_of_row X9 w.heap.size 3 _ _ HZ9.out
  have f4 := frozen_of_row X9 w.heap.size 4 _ _ HZ9.out
  have f5 := frozen_of_row X9 w.heap.size 5 _ _ HZ9.out
  have f6 := frozen_of_row X9 w.heap.size 6 _ _ HZ9.out
  have f7 := frozen_of_row X9 w.heap.size 7 _ _ HZ9.out
  have f8 := frozen_of_row X9 w.heap.size 8 _ _ HZ9.out
  obtain ⟨Y, HY⟩ : ∃ Y, Hid ((((((((((X9.setCell ⟨w.heap.size, 0, none⟩ (.int .i64 (f : Int))).setCell ⟨w.heap.size, 1, none⟩ (.int .i64 (t : Int))).setCell ⟨w.heap.size, 2, none⟩ (.int .i64 (d : Int))).setCell ⟨w.heap.size, 3, none⟩ (.int .i64 (k : Int))).setCell ⟨w.heap.size, 4, none⟩ (.int .i64 (a : Int))).setCell ⟨w.heap.size, 5, none⟩ (.bool yb)).setCell ⟨w.heap.size, 6, none⟩ (.int .i64 (ph : Int))).setCell ⟨w.heap.size, 7, none⟩ (.int .i64 (pr : Int))).setCell ⟨w.heap.size, 8, none⟩ (.int .i64 (pa : Int))) = Y) := ⟨_, rfl⟩
  have HYR : Hid (Y.heap[w.heap.size]? = some (.cells #[.int .i64 (f : Int), .int .i64 (t : Int), .int .i64 (d : Int), .int .i64 (k : Int), .int .i64 (a : Int), .bool yb, .int .i64 (ph : Int), .int .i64 (pr : Int), .int .i64 (pa : Int)] 88 (0, 0))) := by rw [← HY.out]; exact set9 HZ9.out _ _ _ _ _ _ _ _ _
  have HYK : Hid (Kept (In1 (b + 1)) w Y) := by rw [← HY.out]; exact HKE.out _ (kept9 _ _ _ _ _ _ _ _ _ _ _)
  have HBT : Hid (decide ((0 : Int) ≤ (y : Int) ∧ (y : Int) ≤ 1) = ok) := by unfold Hid; rw [← HOK.out]; apply decide_eq_decide.2; omega
  go_region_with ((go_at_call 85; (with_reducible refine (between_is _ 0 1 _ _ HBT.out).mono ?_); rintro e wx ⟨rfl, hx⟩; subst wx))
  all_goals go_wp2_with fail
  all_goals trace_state
  all_goals rw [HY.out]
  all_goals refine bodyPost_ret (results_row2 rfl _ _ w.heap.size 88 _ (0, 0) _ rfl (HYR.out) Tryd.underlying88 rfl sizeFr) rfl ?_
  all_goals exact ⟨rfl, HYK.out.drew⟩
end Go.Proofs.YtkbbjkiinpimiaaDoor
