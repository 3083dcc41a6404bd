/-
  WALKS of the document's answer (threefoldref1): Body.
-/
import Derived.Test.YtkbbjkiinpimiaaDoorRA
import Derived.Deep.RegionHeld3
import Derived.Deep.CutRange
namespace Go.Proofs.YtkbbjkiinpimiaaDoor
open Go.RowKit

theorem wide4_is (n : Nat) (t : ByteArray) (w : World) (hn : n < 9223372036854775808) (ht : bA (wideL n 4) = t) :
    Calls Tryd.prog 89 #[.int .i64 (n : Int), .int .i64 4] w fun e w' => e = .returned (.string t) ∧ Below w.heap.size w w' := by
  rw [← ht]; exact wide_any n 4 w hn (by omega)
theorem wide1_is (n : Nat) (t : ByteArray) (w : World) (hn : n < 9223372036854775808) (ht : bA (wideL n 1) = t) :
    Calls Tryd.prog 89 #[.int .i64 (n : Int), .int .i64 1] w fun e w' => e = .returned (.string t) ∧ Below w.heap.size w w' := by
  rw [← ht]; exact wide_any n 1 w hn (by omega)
theorem crc_is (s : ByteArray) (c : Nat) (w : World) (hs : s.size ≤ 1000) (hc : crcL s.data.toList = c) :
    Calls Tryd.prog 61 #[.string s] w fun e w' => e = .returned (.int .i64 (c : Int)) ∧ w' = w := by
  rw [← hc]; exact crc_any s w hs
theorem below_step {a b c : World} (h : Hid (Below a.heap.size a b)) (k : Below b.heap.size b c) : Hid (Below a.heap.size a c) := h.out.trans (k.mono h.out.size)
set_option maxHeartbeats 4000000 in
set_option maxRecDepth 100000 in
theorem body_any (n h1 h2 h3 : Nat) (w : World) (hn : n < 4294967296) (b1 : h1 < 256) (b2 : h2 < 4294967296) (b3 : h3 < 4294967296) :
    Calls Tryd.prog 81 #[.int .i64 (n : Int), .agg #[.int .i64 (h1 : Int), .int .i64 (h2 : Int), .int .i64 (h3 : Int)]] w fun e w' => e = .returned (.string (bA (bodyL n ⟨h1, h2, h3⟩))) ∧ Below w.heap.size w w' := by
  obtain ⟨W, HW⟩ : ∃ W, Hid (w.alloc (.cells #[.int .i64 (h1 : Int), .int .i64 (h2 : Int), .int .i64 (h3 : Int)] 74) = W) := ⟨_, rfl⟩
  have hW := HW.out
  have RW : Hid (W.heap[w.heap.size]? = some (.cells #[.int .i64 (h1 : Int), .int .i64 (h2 : Int), .int .i64 (h3 : Int)] 74 (0, 0))) := by rw [← HW.out]; exact heap_alloc_new w _
  have hsW : w.heap.size < W.heap.size := (Array.getElem?_eq_some_iff.1 RW.out).1
  have HBW : Hid (Below w.heap.size w W) := by rw [← HW.out]; exact (Below.refl _ _).alloc (Nat.le_refl _) _
  obtain ⟨s1, S1⟩ : ∃ t, Hid (bA (wideL n 4) = t) := ⟨_, rfl⟩
  obtain ⟨s2, S2⟩ : ∃ t, Hid (bA (wideL h1 1) = t) := ⟨_, rfl⟩
  obtain ⟨s3, S3⟩ : ∃ t, Hid (bA (wideL h2 4) = t) := ⟨_, rfl⟩
  obtain ⟨s4, S4⟩ : ∃ t, Hid (bA (wideL h3 4) = t) := ⟨_, rfl⟩
  have z1 : s1.size = 4 := by rw [← S1.out, bA_size, wideL_length]
  have z2 : s2.size = 1 := by rw [← S2.out, bA_size, wideL_length]
  have z3 : s3.size = 4 := by rw [← S3.out, bA_size, wideL_length]
  have z4 : s4.size = 4 := by rw [← S4.out, bA_size, wideL_length]
  have HT : Hid (s1 ++ s2 ++ s3 ++ s4 = bA (textL n ⟨h1, h2, h3⟩)) := by unfold Hid textL; rw [← S1.out, ← S2.out, ← S3.out, ← S4.out, bA_append, bA_append, bA_append]
  have HC : Hid (∀ wx, Below W.heap.size W wx → wx.cell? ⟨w.heap.size, 0, none⟩ = some (.int .i64 (h1 : Int)) ∧ wx.cell? ⟨w.heap.size, 1, none⟩ = some (.int .i64 (h2 : Int)) ∧ wx.cell? ⟨w.heap.size, 2, none⟩ = some (.int .i64 (h3 : Int))) := by
    intro wx hb
    have r := (hb.block _ hsW).trans RW.out
    exact ⟨by rw [cell_of_row _ _ _ _ _ _ r]; rfl, by rw [cell_of_row _ _ _ _ _ _ r]; rfl, by rw [cell_of_row _ _ _ _ _ _ r]; rfl⟩
  obtain ⟨c0, c1, c2⟩ := HC.out _ (Below.refl _ _)
  go_enter Tryd.func81, Tryd.ntmps81
  go_wp2_with fail
  have HD0 : Hid (Below W.heap.size W W.drew) := (Below.refl _ _).drew
  go_cut [5] from 6 (fun s5 wx => s5 = .string (s1 ++ s2 ++ s3 ++ s4) ∧ Hid (Below W.heap.size W wx))
  case first =>
    go_region_held3 (fun w' => w'.cell? ⟨w.heap.size, 0, none⟩ = some (.int .i64 (h1 : Int)) ∧ w'.cell? ⟨w.heap.size, 1, none⟩ = some (.int .i64 (h2 : Int)) ∧ w'.cell? ⟨w.heap.size, 2, none⟩ = some (.int .i64 (h3 : Int))) (go_keep) (first | (go_at_call 89; (with_reducible refine (wide4_is n s1 _ (by omega) S1.out).mono ?_); rintro e wn ⟨rfl, hbn⟩; have HBn := below_step (by assumption) hbn; obtain ⟨x0, x1, x2⟩ := HC.out _ HBn.out; clear hbn) | (go_at_call 89; (with_reducible refine (wide1_is h1 s2 _ (by omega) S2.out).mono ?_); rintro e wn ⟨rfl, hbn⟩; have HBn := below_step (by assumption) hbn; obtain ⟨x0, x1, x2⟩ := HC.out _ HBn.out; clear hbn) | (go_at_call 89; (with_reducible refine (wide4_is h2 s3 _ (by omega) S3.out).mono ?_); rintro e wn ⟨rfl, hbn⟩; have HBn := below_step (by assumption) hbn; obtain ⟨x0, x1, x2⟩ := HC.out _ HBn.out; clear hbn) | (go_at_call 89; (with_reducible refine (wide4_is h3 s4 _ (by omega) S4.out).mono ?_); rintro e wn ⟨rfl, hbn⟩; have HBn := below_step (by assumption) hbn; obtain ⟨x0, x1, x2⟩ := HC.out _ HBn.out; clear hbn))
    all_goals go_step
    all_goals go_step
    all_goals go_meet
    all_goals exact ⟨rfl, by assumption⟩
  case rest =>
    obtain ⟨rfl, hb⟩ := hcut
    rw [HT.out]
    have zt : (bA (textL n ⟨h1, h2, h3⟩)).size = 13 := by rw [bA_size, textL_length]
    obtain ⟨c, HCc⟩ : ∃ c, Hid (crcL (textL n ⟨h1, h2, h3⟩) = c) := ⟨_, rfl⟩
    have hc : c < 9223372036854775808 := by rw [← HCc.out]; have := crcL_lt (textL n ⟨h1, h2, h3⟩); omega
    obtain ⟨s5, S5⟩ : ∃ t, Hid (bA (wideL c 4) = t) := ⟨_, rfl⟩
    have z5 : s5.size = 4 := by rw [← S5.out, bA_size, wideL_length]
    have HR : Hid (bA (textL n ⟨h1, h2, h3⟩) ++ s5 = bA (bodyL n ⟨h1, h2, h3⟩)) := by unfold Hid bodyL; rw [← S5.out, bA_append, HCc.out]
    have HBc := hb
    clear hb
    go_wp2_with fail
    refine (crc_is _ c _ (by rw [zt]; decide) (by rw [bA_list]; exact HCc.out)).mono ?_
    rintro e wx ⟨rfl, hx⟩
    subst wx
    go_wp2_with fail
    refine (wide4_is c s5 _ hc S5.out).mono ?_
    rintro e w9 ⟨rfl, hb9⟩
    have HB9 := below_step HBc hb9
    clear hb9
    go_wp2_with fail
    go_ret
    exact ⟨by rw [← HR.out]; rfl, HBW.out.trans (HB9.out.mono HBW.out.size)⟩
end Go.Proofs.YtkbbjkiinpimiaaDoor
