/-
  WALKS of the document's answer (threefoldref1): FrameText.
-/
import Derived.Test.YtkbbjkiinpimiaaDoorRL
import Derived.Test.YtkbbjkiinpimiaaDoorKE
namespace Go.Proofs.YtkbbjkiinpimiaaDoor
open Go.RowKit

set_option maxHeartbeats 8000000 in
set_option maxRecDepth 100000 in
theorem ftext_is (f t d k a : Nat) (y : Bool) (ph pr pa : Nat) (s : ByteArray) (w : World) (h : (FN.mk f t d k a y ph pr pa).ok) (hs : bA (frameL (FN.mk f t d k a y ph pr pa)) = s) :
    Calls Tryd.prog 59 #[frV f t d k a y ph pr pa] w fun e w' => e = .returned (.string s) ∧ Below w.heap.size w w' := by
  obtain ⟨W, HW⟩ : ∃ W, Hid (w.alloc (.cells #[.int .i64 f, .int .i64 t, .int .i64 d, .int .i64 k, .int .i64 a, .bool y, .int .i64 ph, .int .i64 pr, .int .i64 pa] 88) = W) := ⟨_, rfl⟩
  have HB : Hid (Below w.heap.size w W) := by rw [← HW.out]; exact (Below.refl _ _).alloc (Nat.le_refl _) _
  have HR : Hid (W.heap[w.heap.size]? = some (.cells #[.int .i64 f, .int .i64 t, .int .i64 d, .int .i64 k, .int .i64 a, .bool y, .int .i64 ph, .int .i64 pr, .int .i64 pa] 88 (0, 0))) := by rw [← HW.out]; exact heap_alloc_new w _
  have hW := HW.out
  obtain ⟨h0, h1, h2, h3, h4, h5, h6, h7, h8⟩ := h
  simp only at h0 h1 h2 h3 h4 h5 h6 h7 h8
  obtain ⟨yn, Hyn⟩ : ∃ n, Hid (y.toNat = n) := ⟨_, rfl⟩
  have hyn : yn ≤ 1 := by rw [← Hyn.out]; exact Bool.toNat_le y
  obtain ⟨s0, S0⟩ : ∃ t, Hid (bA [UInt8.ofNat f] = t) := ⟨_, rfl⟩
  obtain ⟨s1, S1⟩ : ∃ x, Hid (bA [UInt8.ofNat t] = x) := ⟨_, rfl⟩
  obtain ⟨s2, S2⟩ : ∃ t, Hid (bA [UInt8.ofNat d] = t) := ⟨_, rfl⟩
  obtain ⟨s3, S3⟩ : ∃ t, Hid (bA [UInt8.ofNat k] = t) := ⟨_, rfl⟩
  obtain ⟨s4, S4⟩ : ∃ t, Hid (bA (wideL a 4) = t) := ⟨_, rfl⟩
  obtain ⟨s5, S5⟩ : ∃ t, Hid (bA [UInt8.ofNat yn] = t) := ⟨_, rfl⟩
  obtain ⟨s6, S6⟩ : ∃ t, Hid (bA [UInt8.ofNat ph] = t) := ⟨_, rfl⟩
  obtain ⟨s7, S7⟩ : ∃ t, Hid (bA (wideL pr 4) = t) := ⟨_, rfl⟩
  obtain ⟨s8, S8⟩ : ∃ t, Hid (bA (wideL pa 4) = t) := ⟨_, rfl⟩
  have z0 : s0.size = 1 := by rw [← S0.out, bA_size]; rfl
  have z1 : s1.size = 1 := by rw [← S1.out, bA_size]; rfl
  have z2 : s2.size = 1 := by rw [← S2.out, bA_size]; rfl
  have z3 : s3.size = 1 := by rw [← S3.out, bA_size]; rfl
  have z4 : s4.size = 4 := by rw [← S4.out, bA_size, wideL_length]
  have z5 : s5.size = 1 := by rw [← S5.out, bA_size]; rfl
  have z6 : s6.size = 1 := by rw [← S6.out, bA_size]; rfl
  have z7 : s7.size = 4 := by rw [← S7.out, bA_size, wideL_length]
  have z8 : s8.size = 4 := by rw [← S8.out, bA_size, wideL_length]
  obtain ⟨tx, HT⟩ : ∃ t, Hid (s0 ++ s1 ++ s2 ++ s3 ++ s4 ++ s5 ++ s6 ++ s7 ++ s8 = t) := ⟨_, rfl⟩
  have HTl : Hid (tx = bA (fieldsL (FN.mk f t d k a y ph pr pa))) := by
    unfold Hid fieldsL
    rw [← HT.out, ← S0.out, ← S1.out, ← S2.out, ← S3.out, ← S4.out, ← S5.out, ← S6.out, ← S7.out, ← S8.out, ← Hyn.out]
    simp only [bA_append]
    rw [wide1_lt (show f < 256 by omega), wide1_lt (show t < 256 by omega), wide1_lt (show d < 256 by omega), wide1_lt (show k < 256 by omega), wide1_lt (show y.toNat < 256 by have := Bool.toNat_le y; omega), wide1_lt (show ph < 256 by omega)]
    simp only [List.append_assoc]
  have zt : tx.size = 18 := by rw [HTl.out, bA_size, fieldsL_length]
  obtain ⟨c, HCc⟩ : ∃ c, Hid (crcL tx.data.toList = c) := ⟨_, rfl⟩
  have hc : c < 4294967296 := by rw [← HCc.out]; exact crcL_lt _
  obtain ⟨s9, S9⟩ : ∃ t, Hid (bA (lowL c) = t) := ⟨_, rfl⟩
  have z9 : s9.size = 4 := by rw [← S9.out, bA_size]; rfl
  have HS : Hid (s = tx ++ s9) := by
    unfold Hid; rw [← hs, ← S9.out, ← HCc.out, HTl.out, bA_append, bA_list]; rfl
  have HC : Hid (∀ wx, Below W.heap.size W wx → wx.cell? ⟨w.heap.size, 0, none⟩ = some (.int .i64 (f : Int)) ∧ wx.cell? ⟨w.heap.size, 1, none⟩ = some (.int .i64 (t : Int)) ∧ wx.cell? ⟨w.heap.size, 2, none⟩ = some (.int .i64 (d : Int)) ∧ wx.cell? ⟨w.heap.size, 3, none⟩ = some (.int .i64 (k : Int)) ∧ wx.cell? ⟨w.heap.size, 4, none⟩ = some (.int .i64 (a : Int)) ∧ wx.cell? ⟨w.heap.size, 6, none⟩ = some (.int .i64 (ph : Int)) ∧ wx.cell? ⟨w.heap.size, 7, none⟩ = some (.int .i64 (pr : Int)) ∧ wx.cell? ⟨w.heap.size, 8, none⟩ = some (.int .i64 (pa : Int))) := by
    intro wx hb
    obtain ⟨c0, c1, c2, c3, c4, c5, c6, c7, c8⟩ := nine ((hb.block _ (row_ltJ HR.out)).trans HR.out)
    exact ⟨c0, c1, c2, c3, c4, c6, c7, c8⟩
  obtain ⟨c0, c1, c2, c3, c4, c6, c7, c8⟩ := HC.out _ (Below.refl _ _)
  have c5 := (nine HR.out).2.2.2.2.2.1
  clear hs
  rw [HS.out]
  go_enter Tryd.func59, Tryd.ntmps59
  have HD0 : Hid (Below W.heap.size W W.drew) := (Below.refl _ _).drew
  go_upto_if 6 with fail
  go_cut [3] from 7 (fun s3 wx => s3 = .int .i64 (yn : Int) ∧ W = wx)
  case first =>
    cases y
    all_goals go_wp2_with fail
    all_goals go_meet
    all_goals exact ⟨by rw [← Hyn.out]; rfl, rfl⟩
  obtain ⟨rfl, rfl⟩ := hcut
  go_wp2_with fail
  go_cut [4] from 7 (fun s4 wx => s4 = .string tx ∧ Hid (Below W.heap.size W wx))
  case first =>
    go_region_held3 (fun w' => w'.cell? ⟨w.heap.size, 0, none⟩ = some (.int .i64 (f : Int)) ∧ w'.cell? ⟨w.heap.size, 1, none⟩ = some (.int .i64 (t : Int)) ∧ w'.cell? ⟨w.heap.size, 2, none⟩ = some (.int .i64 (d : Int)) ∧ w'.cell? ⟨w.heap.size, 3, none⟩ = some (.int .i64 (k : Int)) ∧ w'.cell? ⟨w.heap.size, 4, none⟩ = some (.int .i64 (a : Int)) ∧ w'.cell? ⟨w.heap.size, 6, none⟩ = some (.int .i64 (ph : Int)) ∧ w'.cell? ⟨w.heap.size, 7, none⟩ = some (.int .i64 (pr : Int)) ∧ w'.cell? ⟨w.heap.size, 8, none⟩ = some (.int .i64 (pa : Int))) (go_keep) (first | (go_at_call 80; (with_reducible refine (byte_is (f : Int) f s0 _ rfl (by omega) S0.out).mono ?_); rintro e wn ⟨rfl, hbn⟩; have HBn := below_step (by assumption) hbn; obtain ⟨x0, x1, x2, x3, x4, x5, x6, x7⟩ := HC.out _ HBn.out; clear hbn) | (go_at_call 80; (with_reducible refine (byte_is (t : Int) t s1 _ rfl (by omega) S1.out).mono ?_); rintro e wn ⟨rfl, hbn⟩; have HBn := below_step (by assumption) hbn; obtain ⟨x0, x1, x2, x3, x4, x5, x6, x7⟩ := HC.out _ HBn.out; clear hbn) | (go_at_call 80; (with_reducible refine (byte_is (d : Int) d s2 _ rfl (by omega) S2.out).mono ?_); rintro e wn ⟨rfl, hbn⟩; have HBn := below_step (by assumption) hbn; obtain ⟨x0, x1, x2, x3, x4, x5, x6, x7⟩ := HC.out _ HBn.out; clear hbn) | (go_at_call 80; (with_reducible refine (byte_is (k : Int) k s3 _ rfl (by omega) S3.out).mono ?_); rintro e wn ⟨rfl, hbn⟩; have HBn := below_step (by assumption) hbn; obtain ⟨x0, x1, x2, x3, x4, x5, x6, x7⟩ := HC.out _ HBn.out; clear hbn) | (go_at_call 89; (with_reducible refine (wide4_is a s4 _ (by omega) S4.out).mono ?_); rintro e wn ⟨rfl, hbn⟩; have HBn := below_step (by assumption) hbn; obtain ⟨x0, x1, x2, x3, x4, x5, x6, x7⟩ := HC.out _ HBn.out; clear hbn) | (go_at_call 80; (with_reducible refine (byte_is (yn : Int) yn s5 _ rfl (by omega) S5.out).mono ?_); rintro e wn ⟨rfl, hbn⟩; have HBn := below_step (by assumption) hbn; obtain ⟨x0, x1, x2, x3, x4, x5, x6, x7⟩ := HC.out _ HBn.out; clear hbn) | (go_at_call 80; (with_reducible refine (byte_is (ph : Int) ph s6 _ rfl (by omega) S6.out).mono ?_); rintro e wn ⟨rfl, hbn⟩; have HBn := below_step (by assumption) hbn; obtain ⟨x0, x1, x2, x3, x4, x5, x6, x7⟩ := HC.out _ HBn.out; clear hbn) | (go_at_call 89; (with_reducible refine (wide4_is pr s7 _ (by omega) S7.out).mono ?_); rintro e wn ⟨rfl, hbn⟩; have HBn := below_step (by assumption) hbn; obtain ⟨x0, x1, x2, x3, x4, x5, x6, x7⟩ := HC.out _ HBn.out; clear hbn) | (go_at_call 89; (with_reducible refine (wide4_is pa s8 _ (by omega) S8.out).mono ?_); rintro e wn ⟨rfl, hbn⟩; have HBn := below_step (by assumption) hbn; obtain ⟨x0, x1, x2, x3, x4, x5, x6, x7⟩ := HC.out _ HBn.out; clear hbn))
    all_goals go_step
    all_goals go_step
    all_goals go_meet
    all_goals exact ⟨by first | exact congrArg Value.string HT.out | (rw [← HT.out]), by assumption⟩
  case rest =>
    obtain ⟨rfl, hb⟩ := hcut
    have HBc := hb
    clear hb c0 c1 c2 c3 c4 c5 c6 c7 c8
    go_wp2_with fail
    refine (crc_is tx c _ (by omega) HCc.out).mono ?_
    rintro e wx ⟨rfl, hx⟩
    subst wx
    go_wp2_with fail
    refine (low_is c s9 _ hc S9.out).mono ?_
    rintro e w9 ⟨rfl, hb9⟩
    have HB9 := below_step HBc hb9
    clear hb9
    go_wp2_with fail
    go_ret
    exact ⟨rfl, HB.out.trans (HB9.out.mono HB.out.size)⟩
end Go.Proofs.YtkbbjkiinpimiaaDoor
