/-
  THE WALK of the closed fact 'written': a state is put.
-/
import Derived.Test.YtkbbjkiinpimiaaDoorJQ
namespace Go.Proofs.YtkbbjkiinpimiaaDoor
open Go.RowKit

theorem put_five (A : Nat → Addr) (w0 w : World) (j p q : Nat) (h : JP w0 w j p q (dealL (zeroB 512).data.toList) false (zeroB 512) (-1)) (hE : HeldE w0 A) :
    Calls Tryd.prog 48 #[.pointer (some ⟨j, 0, none⟩), .int .i64 5, .agg #[.int .i64 1, .int .i64 2, .int .i64 3]] w fun e w' => e = .returned .nilIface ∧ (∃ E B l, JP w0 w' j p q E false B l ∧ (E 5).2 = ⟨1, 2, 3⟩) ∧ Kept (In3 j p q) w w' := by
  have hz := deal_zero 512 5 (by omega)
  have hB : 216 ≤ (zeroB 512).size := by rw [zeroB_size]; omega
  have hn : (dealL (zeroB 512).data.toList 5).1 + 1 < 4294967295 := by rw [hz]; decide
  have hf := put_free (B := zeroB 512) (d := 5) (s := ⟨1, 2, 3⟩) hB (by decide) hn
  refine (put_ok (d := 5) (s := ⟨1, 2, 3⟩) h hE (by decide) (by decide) (by rw [hz]; decide) hf.1).mono ?_
  rintro e w' ⟨rfl, hj, hk⟩
  rcases put_out (B := zeroB 512) (l := -1) (d := 5) (s := ⟨1, 2, 3⟩) hB (by decide) ⟨by decide, by decide, by decide⟩ hn (by decide) with ho | ho
  · rw [ho.2.1, ho.2.2.1] at hj
    exact ⟨rfl, ⟨_, _, _, hj, ho.2.2.2.2.1⟩, hk⟩
  · rw [ho.1] at hf; cases hf.1
theorem get_five (w0 w : World) (j p q : Nat) (E : Nat → Nat × St) (B : ByteArray) (l : Int) (h : JP w0 w j p q E false B l) (hs : (E 5).2 = ⟨1, 2, 3⟩) :
    Calls Tryd.prog 49 #[.pointer (some ⟨j, 0, none⟩), .int .i64 5] w fun e w' => e = .returned (.tuple #[.agg #[.int .i64 1, .int .i64 2, .int .i64 3], .nilIface]) ∧ Below w.heap.size w w' := get_jp 5 ⟨1, 2, 3⟩ h (by decide) hs
set_option maxHeartbeats 2000000 in
set_option maxRecDepth 100000 in
theorem written_any (A : Nat → Addr) (w : World) (hE : HeldE w A) :
    Calls Tryd.prog 46 #[] w fun e w' => e = .returned (.bool true) ∧ Below w.heap.size w w' := by
  have HE := hid hE
  clear hE
  go_enter Tryd.func46, Tryd.ntmps46
  go_wp2_with fail
  refine (pnew_ok 512 _ (by omega)).mono ?_
  rintro e w1 ⟨rfl, hP1, hb1, hs1⟩
  have HP1 := hid hP1
  have HB1 := hid hb1
  have HE1 := hid (HE.out.later hb1)
  clear hP1 hb1
  go_wp2_with fail
  refine (open_ok A _ _ _ (-1) _ HP1.out HE1.out (by rw [zeroB_size]; omega) (by rw [zeroB_size]; omega) (by omega)).mono ?_
  rintro e w2 ⟨j, rfl, hJ, hb2, hj0⟩
  have HJ := hid (jp_new HB1.out HP1.out (by omega) (Nat.le_refl _) hJ hb2 hj0 (by omega) (by omega) (by rw [zeroB_size]; omega) (by rw [zeroB_size]; omega))
  clear hJ hb2 hj0
  obtain ⟨W, HW⟩ : ∃ W, Hid (w2.alloc (.cells #[.int .i64 1, .int .i64 2, .int .i64 3] 74) = W) := ⟨_, rfl⟩
  have hW := HW.out
  have RW : Hid (W.heap[w2.heap.size]? = some (.cells #[.int .i64 1, .int .i64 2, .int .i64 3] 74 (0, 0))) := by rw [← HW.out]; exact heap_alloc_new w2 _
  have HJW := hid (HJ.out.later (w' := W) (by rw [← HW.out]; exact (Below.refl _ _).alloc (Nat.le_refl _) _))
  have b0 : W.cell? ⟨w2.heap.size, 0, none⟩ = some (.int .i64 1) := by rw [cell_of_row _ _ _ _ _ _ RW.out]; rfl
  have b1 : W.cell? ⟨w2.heap.size, 1, none⟩ = some (.int .i64 2) := by rw [cell_of_row _ _ _ _ _ _ RW.out]; rfl
  have b2 : W.cell? ⟨w2.heap.size, 2, none⟩ = some (.int .i64 3) := by rw [cell_of_row _ _ _ _ _ _ RW.out]; rfl
  go_wp2_with fail
  refine (put_five A w _ j _ _ HJW.out HE.out).mono ?_
  rintro e w3 ⟨rfl, ⟨E, B, l, hJ3, hE5⟩, hk3⟩
  have n1 := HJ.out.jr.lt
  have n2 := row_lt HJ.out.pl.head
  have n3 := row_lt HJ.out.pl.row
  have R3 := hid (hk3.row RW.out (fun g => by unfold In3 at g; omega))
  have HJ3 := hid hJ3
  have H5 := hid hE5
  clear hJ3 hE5 hk3
  go_wp2_with fail
  refine (get_five w _ j _ _ E B l HJ3.out H5.out).mono ?_
  rintro e w4 ⟨rfl, hb4⟩
  have hs3 : w2.heap.size < w3.heap.size := row_ltJ R3.out
  have R4 := hid ((hb4.block _ hs3).trans R3.out)
  have hs4 : w2.heap.size < w4.heap.size := row_ltJ R4.out
  have HB4 := hid ((HJ3.out.bel).trans (hb4.mono HJ3.out.bel.size))
  clear hb4
  have t0 : w4.cell? ⟨w2.heap.size, 0, none⟩ = some (.int .i64 1) := by rw [cell_of_row _ _ _ _ _ _ R4.out]; rfl
  have t1 : w4.cell? ⟨w2.heap.size, 1, none⟩ = some (.int .i64 2) := by rw [cell_of_row _ _ _ _ _ _ R4.out]; rfl
  have t2 : w4.cell? ⟨w2.heap.size, 2, none⟩ = some (.int .i64 3) := by rw [cell_of_row _ _ _ _ _ _ R4.out]; rfl
  go_wp2_with fail
  go_ret
  exact ⟨rfl, HB4.out.alloc HB4.out.size _⟩
end Go.Proofs.YtkbbjkiinpimiaaDoor
