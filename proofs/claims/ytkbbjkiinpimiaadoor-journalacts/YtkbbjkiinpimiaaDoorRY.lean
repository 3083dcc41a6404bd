/-
  THE WALK of the law's asJournal: two journals tell the same.
-/
import Derived.Test.YtkbbjkiinpimiaaDoorRV
namespace Go.Proofs.YtkbbjkiinpimiaaDoor
open Go.RowKit

set_option maxHeartbeats 4000000 in
set_option maxRecDepth 100000 in
theorem asj_any (A : Nat → Addr) (w : World) (j p m gn gs r : Nat) (E : Nat → Nat × St) (over dead : Bool) (B : ByteArray) (l : Int) (hE : Held9 w A) (hj : JR w j p E over) (hm : RK w m gn gs r E dead B l) :
    Calls Tryd.prog 53 #[.pointer (some ⟨j, 0, none⟩), .pointer (some ⟨m, 0, none⟩)] w fun e w' => e = .returned (.bool true) ∧ Below w.heap.size w w' := by
  have HE := hid hE
  have HJ := hid hj
  have HM := hid hm
  clear hE hj hm
  go_enter Tryd.func53, Tryd.ntmps53
  go_wp2_with fail
  go_loopw [5] (fun i wr => ∃ d : Nat, d ≤ 6 ∧ i = .int .i64 (d : Int) ∧ Below w.heap.size w wr) (fun i _ => 6 - (intOf i).toNat)
  case atStart => exact ⟨0, by omega, rfl, Below.refl _ _⟩
  case round =>
    obtain ⟨d, hd, rfl, hb⟩ := hrel
    have HB := hid hb
    clear hb
    by_cases hlt : d < 6
    · obtain ⟨⟨h1, h2, h3⟩, HS⟩ : ∃ x, Hid ((E d).2 = x) := ⟨_, rfl⟩
      go_wp2_with fail
      refine (get_is j p d E over h1 h2 h3 wr (HJ.out.later HB.out HJ.out.lt) hlt HS.out).mono ?_
      rintro e w1 ⟨rfl, hb1⟩
      have HB1 := hid (HB.out.trans (hb1.mono HB.out.size))
      clear hb1
      obtain ⟨X, HX⟩ : ∃ X, Hid (w1.alloc (.cells #[.int .i64 (h1 : Int), .int .i64 (h2 : Int), .int .i64 (h3 : Int)] 74) = X) := ⟨_, rfl⟩
      have HBX : Hid (Below w.heap.size w X) := by rw [← HX.out]; exact HB1.out.alloc HB1.out.size _
      have HXS : Hid (X.heap[w1.heap.size]? = some (.cells #[.int .i64 (h1 : Int), .int .i64 (h2 : Int), .int .i64 (h3 : Int)] 74 (0, 0))) := by rw [← HX.out]; exact heap_alloc_new w1 _
      have HMX := hid (HM.out.later HBX.out)
      go_wp2_with fail
      rw [HX.out]
      obtain ⟨cn, cs, c0, c1, c2, c3, f3⟩ := HMX.out.cells
      obtain ⟨t0, t1, t2, -⟩ := HMX.out.st hlt
      rw [HS.out] at t0 t1 t2
      simp only at t0 t1 t2
      have s0 : X.cell? ⟨w1.heap.size, 0, none⟩ = some (.int .i64 (h1 : Int)) := by rw [cell_of_row _ _ _ _ _ _ HXS.out]; rfl
      have s1 : X.cell? ⟨w1.heap.size, 1, none⟩ = some (.int .i64 (h2 : Int)) := by rw [cell_of_row _ _ _ _ _ _ HXS.out]; rfl
      have s2 : X.cell? ⟨w1.heap.size, 2, none⟩ = some (.int .i64 (h3 : Int)) := by rw [cell_of_row _ _ _ _ _ _ HXS.out]; rfl
      have hne := st_neq (h1 : Int) (h2 : Int) (h3 : Int)
      go_quiet (fail)
      all_goals go_wp2_with fail
      all_goals go_roundw
      case rel => exact ⟨d + 1, by omega, by go_num, below_drewN HBX.out _⟩
      case measure => simp [intOf]; omega
    · obtain rfl : d = 6 := by omega
      go_wp2_with fail
      refine (get_isnt A _ (-1) wr (HE.out.later HB.out).toE (by omega)).mono ?_
      rintro e w1 ⟨rfl, hb1⟩
      have HB1 := hid (HB.out.trans (hb1.mono HB.out.size))
      clear hb1
      obtain ⟨X, HX⟩ : ∃ X, Hid (w1.alloc (.cells #[.int .i64 0, .int .i64 0, .int .i64 0] 74) = X) := ⟨_, rfl⟩
      have HBX : Hid (Below w.heap.size w X) := by rw [← HX.out]; exact HB1.out.alloc HB1.out.size _
      have HXS : Hid (X.heap[w1.heap.size]? = some (.cells #[.int .i64 0, .int .i64 0, .int .i64 0] 74 (0, 0))) := by rw [← HX.out]; exact heap_alloc_new w1 _
      go_wp2_with fail
      rw [HX.out]
      refine (get_isnt A _ 6 X (HE.out.later HBX.out).toE (by omega)).mono ?_
      rintro e w2 ⟨rfl, hb2⟩
      have HB2 := hid (HBX.out.trans (hb2.mono HBX.out.size))
      have HX2 := hid ((hb2.block _ (row_ltJ HXS.out)).trans HXS.out)
      clear hb2
      obtain ⟨Y, HY⟩ : ∃ X, Hid (w2.alloc (.cells #[.int .i64 0, .int .i64 0, .int .i64 0] 74) = X) := ⟨_, rfl⟩
      have HBY : Hid (Below w.heap.size w Y) := by rw [← HY.out]; exact HB2.out.alloc HB2.out.size _
      have HYL : Hid (Below w2.heap.size w2 Y) := by rw [← HY.out]; exact (Below.refl _ _).alloc (Nat.le_refl _) _
      have HYS : Hid (Y.heap[w2.heap.size]? = some (.cells #[.int .i64 0, .int .i64 0, .int .i64 0] 74 (0, 0))) := by rw [← HY.out]; exact heap_alloc_new w2 _
      have HYX := hid ((HYL.out.block _ (row_ltJ HX2.out)).trans HX2.out)
      go_wp2_with fail
      rw [HY.out]
      refine (coded_ev A 2 Y (HE.out.later HBY.out) (by omega)).mono ?_
      rintro e w3 ⟨rfl, hb3⟩
      have HB3 := hid (HBY.out.trans (hb3.mono HBY.out.size))
      have HL3 := hid hb3
      clear hb3
      go_wp2_with fail
      refine (coded_ev A 2 w3 (HE.out.later HB3.out) (by omega)).mono ?_
      rintro e w4 ⟨rfl, hb4⟩
      have HB4 := hid (HB3.out.trans (hb4.mono HB3.out.size))
      have HL4 := hid (HL3.out.trans (hb4.mono HL3.out.size))
      clear hb4
      have r1 := (HL4.out.block _ (row_ltJ HYX.out)).trans HYX.out
      have r2 := (HL4.out.block _ (row_ltJ HYS.out)).trans HYS.out
      have a0 : w4.cell? ⟨w1.heap.size, 0, none⟩ = some (.int .i64 0) := by rw [cell_of_row _ _ _ _ _ _ r1]; rfl
      have a1 : w4.cell? ⟨w1.heap.size, 1, none⟩ = some (.int .i64 0) := by rw [cell_of_row _ _ _ _ _ _ r1]; rfl
      have a2 : w4.cell? ⟨w1.heap.size, 2, none⟩ = some (.int .i64 0) := by rw [cell_of_row _ _ _ _ _ _ r1]; rfl
      have b0 : w4.cell? ⟨w2.heap.size, 0, none⟩ = some (.int .i64 0) := by rw [cell_of_row _ _ _ _ _ _ r2]; rfl
      have b1 : w4.cell? ⟨w2.heap.size, 1, none⟩ = some (.int .i64 0) := by rw [cell_of_row _ _ _ _ _ _ r2]; rfl
      have b2 : w4.cell? ⟨w2.heap.size, 2, none⟩ = some (.int .i64 0) := by rw [cell_of_row _ _ _ _ _ _ r2]; rfl
      go_wp2_with fail
      go_ret
      exact ⟨rfl, HB4.out⟩
end Go.Proofs.YtkbbjkiinpimiaaDoor
