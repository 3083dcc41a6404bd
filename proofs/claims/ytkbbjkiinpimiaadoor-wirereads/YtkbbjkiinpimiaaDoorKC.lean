/-
  WALKS of package wire: Encode.
-/
import Derived.Test.YtkbbjkiinpimiaaDoorKB
import Derived.Test.YtkbbjkiinpimiaaDoorKS
import Derived.Test.YtkbbjkiinpimiaaDoorRB
import Derived.Deep.AppendLies
import Derived.Deep.RegionHeldLaw
namespace Go.Proofs.YtkbbjkiinpimiaaDoor
open Go.RowKit

/-- A row of bytes that was just laid is the call's own. -/
theorem own_lit (w : World) (base : Nat) (l : List UInt8) (n : Nat) (hn : l.length = n) (hb : base ≤ w.heap.size) (hm : n ≤ 1000) : OwnB (w.alloc (.cells (cellsL l).toArray 5)) base (.slice (some ⟨w.heap.size, 0, none⟩) n n) l := by
  subst hn
  refine ⟨by rw [cellsL_length]; omega, .inr ⟨w.heap.size, l.length, (cellsL l).toArray, rfl, hb, heap_alloc_new w _, Nat.le_refl _, by unfold maxLen; omega, by simp [cellsL_length], ?_⟩⟩
  rw [Nat.mul_one, ← cellsL_length l]
  simp
theorem cell_ofNat {n : Nat} (h : n < 256) : Value.int .u8 ((UInt8.ofNat n).toNat : Int) = .int .u8 (n : Int) := by
  rw [UInt8.toNat_ofNat', Nat.mod_eq_of_lt (by omega)]
theorem wide1_lt {n : Nat} (h : n < 256) : wideL n 1 = [UInt8.ofNat n] := by rw [wide1, Nat.mod_eq_of_lt h]

set_option maxRecDepth 100000 in
theorem encode_bad (A : Nat → Addr) (f t d k a : Int) (y : Bool) (ph pr pa : Int) (w : World) (hE : Held9 w A) (h : ¬ frOk f t d k a ph pr pa) :
    Calls Tryd.prog 55 #[frV f t d k a y ph pr pa] w fun e w' => e = .returned (.tuple #[.string ⟨#[]⟩, ev A 2]) ∧ Below w.heap.size w w' := by
  obtain ⟨W, HW⟩ : ∃ W, Hid (w.alloc (.cells #[.int .i64 f, .int .i64 t, .int .i64 d, .int .i64 k, .int .i64 a, .bool y, .int .i64 ph, .int .i64 pr, .int .i64 pa] 88) = W) := ⟨_, rfl⟩
  have HB : Hid (Below w.heap.size w W) := by rw [← HW.out]; exact (Below.refl _ _).alloc (Nat.le_refl _) _
  have HE := hid (hE.later HB.out)
  have HO := hid h
  clear hE h
  have hW := HW.out
  obtain ⟨c0, c1, c2, c3, c4, c5, c6, c7, c8⟩ := nine (w := W) (g := w.heap.size) (f := f) (t := t) (d := d) (k := k) (a := a) (y := y) (ph := ph) (pr := pr) (pa := pa) (ty := 88) (fr := (0, 0)) (by rw [← HW.out]; exact heap_alloc_new w _)
  go_enter Tryd.func55, Tryd.ntmps55
  go_wp2_with fail
  refine (wcheck_is A f t d k a y ph pr pa 2 W HE.out (if_neg HO.out)).mono ?_
  rintro e w1 ⟨rfl, hb1⟩
  have HB1 := hid (HB.out.trans (hb1.mono HB.out.size))
  clear hb1
  unfold ev
  go_wp2_with fail
  go_ret2
  exact ⟨rfl, HB1.out⟩

set_option maxHeartbeats 4000000 in
set_option maxRecDepth 100000 in
theorem encode_ok (A : Nat → Addr) (f t d k a : Nat) (y : Bool) (ph pr pa : Nat) (w : World) (hE : Held9 w A) (h : (FN.mk f t d k a y ph pr pa).ok) :
    Calls Tryd.prog 55 #[frV f t d k a y ph pr pa] w fun e w' => e = .returned (.tuple #[.string (bA (frameL (FN.mk f t d k a y ph pr pa))), .nilIface]) ∧ Below w.heap.size w w' := by
  obtain ⟨i0, hi, hz0, hz1, hz2⟩ := info_parts Tryd.infoB1
  obtain ⟨W, HW⟩ : ∃ W, Hid (w.alloc (.cells #[.int .i64 f, .int .i64 t, .int .i64 d, .int .i64 k, .int .i64 a, .bool y, .int .i64 ph, .int .i64 pr, .int .i64 pa] 88) = W) := ⟨_, rfl⟩
  have HB : Hid (Below w.heap.size w W) := by rw [← HW.out]; exact (Below.refl _ _).alloc (Nat.le_refl _) _
  have HE := hid (hE.later HB.out)
  have hW := HW.out
  have HR : Hid (W.heap[w.heap.size]? = some (.cells #[.int .i64 f, .int .i64 t, .int .i64 d, .int .i64 k, .int .i64 a, .bool y, .int .i64 ph, .int .i64 pr, .int .i64 pa] 88 (0, 0))) := by rw [← HW.out]; exact heap_alloc_new w _
  have sz : W.heap.size = w.heap.size + 1 := by rw [← HW.out]; simp
  obtain ⟨c0, c1, c2, c3, c4, c5, c6, c7, c8⟩ := nine HR.out
  have HC : Hid (∀ wx, Below (w.heap.size + 1) W wx → w.heap.size + 1 ≤ wx.heap.size ∧ wx.heap[w.heap.size]? = some (.cells #[.int .i64 f, .int .i64 t, .int .i64 d, .int .i64 k, .int .i64 a, .bool y, .int .i64 ph, .int .i64 pr, .int .i64 pa] 88 (0, 0)) ∧ Below w.heap.size w wx) := by
    intro wx hb
    refine ⟨by have := hb.size; omega, (hb.block _ (by omega)).trans HR.out, HB.out.trans (hb.mono (by omega))⟩
  obtain ⟨h0, h1, h2, h3, h4, h5, h6, h7, h8⟩ := h
  simp only at h0 h1 h2 h3 h4 h5 h6 h7 h8
  have HK : Hid (frOk f t d k a ph pr pa) := by unfold Hid frOk stOk; omega
  obtain ⟨t1, E1⟩ : ∃ x, Hid ([UInt8.ofNat f, UInt8.ofNat t, UInt8.ofNat d, UInt8.ofNat k] = x) := ⟨_, rfl⟩
  obtain ⟨t2, E2⟩ : ∃ x, Hid (t1 ++ wideL a 4 = x) := ⟨_, rfl⟩
  obtain ⟨t3, E3⟩ : ∃ x, Hid (t2 ++ [UInt8.ofNat y.toNat, UInt8.ofNat ph] = x) := ⟨_, rfl⟩
  obtain ⟨t4, E4⟩ : ∃ x, Hid (t3 ++ wideL pr 4 = x) := ⟨_, rfl⟩
  obtain ⟨t5, E5⟩ : ∃ x, Hid (t4 ++ wideL pa 4 = x) := ⟨_, rfl⟩
  have hy := Bool.toNat_le y
  have HT : Hid (frameL (FN.mk f t d k a y ph pr pa) = t5 ++ lowL (crcL t5)) := by
    have e : fieldsL (FN.mk f t d k a y ph pr pa) = t5 := by
      unfold fieldsL
      rw [wide1_lt (by simp only; omega), wide1_lt (by simp only; omega), wide1_lt (by simp only; omega), wide1_lt (by simp only; omega), wide1_lt (by simp only; omega), wide1_lt (by simp only; omega), ← E5.out, ← E4.out, ← E3.out, ← E2.out, ← E1.out]
      simp only [List.append_assoc, List.cons_append, List.nil_append]
    unfold Hid frameL
    rw [e]
  have l1 : t1.length = 4 := by rw [← E1.out]; rfl
  have l2 : t2.length = 8 := by rw [← E2.out]; simp [wideL_length, l1]
  have l3 : t3.length = 10 := by rw [← E3.out]; simp [l2]
  have l4 : t4.length = 14 := by rw [← E4.out]; simp [wideL_length, l3]
  have l5 : t5.length = 18 := by rw [← E5.out]; simp [wideL_length, l4]
  have HL : Hid (cellsL t1 = [.int .u8 (f : Int), .int .u8 (t : Int), .int .u8 (d : Int), .int .u8 (k : Int)]) := by
    rw [← E1.out]; unfold Hid cellsL
    simp only [List.map_cons, List.map_nil]
    rw [cell_ofNat (by omega), cell_ofNat (by omega), cell_ofNat (by omega), cell_ofNat (by omega)]
  obtain ⟨s5, HS5⟩ : ∃ x, Hid (bA t5 = x) := ⟨_, rfl⟩
  obtain ⟨s6, HS6⟩ : ∃ x, Hid (bA (lowL (crcL t5)) = x) := ⟨_, rfl⟩
  have zs5 : s5.size = 18 := by rw [← HS5.out, bA_size]; exact l5
  have zs6 : s6.size = 4 := by rw [← HS6.out, bA_size]; rfl
  have HSU : Hid (bA (t5 ++ lowL (crcL t5)) = s5 ++ s6) := by unfold Hid; rw [← HS5.out, ← HS6.out, bA_append]
  clear hE
  rw [HT.out, HSU.out]
  go_enter Tryd.func55, Tryd.ntmps55
  go_wp2_with fail
  refine (wcheck_is A f t d k a y ph pr pa 0 W HE.out (if_pos HK.out)).mono ?_
  rintro e w1 ⟨rfl, hb1⟩
  rw [sz] at hb1
  obtain ⟨z1, r1, -⟩ := HC.out _ hb1
  have HB1 := hid hb1
  obtain ⟨W2, HW2⟩ : ∃ X, Hid (w1.alloc (.cells #[.int .u8 (f : Int), .int .u8 (t : Int), .int .u8 (d : Int), .int .u8 (k : Int)] 5) = X) := ⟨_, rfl⟩
  have HO1 : Hid (OwnB W2 (w.heap.size + 1) (.slice (some ⟨w1.heap.size, 0, none⟩) 4 4) t1) := by
    have := own_lit w1 (w.heap.size + 1) t1 4 l1 z1 (by omega)
    rw [HL.out] at this
    rw [← HW2.out]; exact this
  have HB2 : Hid (Below (w.heap.size + 1) W W2) := by rw [← HW2.out]; exact HB1.out.alloc z1 _
  obtain ⟨z2, r2, -⟩ := HC.out _ HB2.out
  have q0 : w1.cell? ⟨w.heap.size, 0, none⟩ = some (.int .i64 (f : Int)) := by rw [cell_of_row _ _ _ _ _ _ r1]; rfl
  have q1 : w1.cell? ⟨w.heap.size, 1, none⟩ = some (.int .i64 (t : Int)) := by rw [cell_of_row _ _ _ _ _ _ r1]; rfl
  have q2 : w1.cell? ⟨w.heap.size, 2, none⟩ = some (.int .i64 (d : Int)) := by rw [cell_of_row _ _ _ _ _ _ r1]; rfl
  have q3 : w1.cell? ⟨w.heap.size, 3, none⟩ = some (.int .i64 (k : Int)) := by rw [cell_of_row _ _ _ _ _ _ r1]; rfl
  have q4 : W2.cell? ⟨w.heap.size, 4, none⟩ = some (.int .i64 (a : Int)) := by rw [cell_of_row _ _ _ _ _ _ r2]; rfl
  have hW2 := HW2.out
  unfold ev
  clear hb1 r1 r2 c0 c1 c2 c3 c4 c5 c6 c7 c8 hW
  go_wp2_with fail
  refine (wfour_any (w.heap.size + 1) a _ t1 _ HO1.out z2 (by omega) (by omega)).mono ?_
  rintro e w3 ⟨v3, rfl, ho3, hb3⟩
  rw [E2.out] at ho3
  have HO3 := hid ho3
  have HB3 := hid (HB2.out.trans hb3)
  clear ho3 hb3 q0 q1 q2 q3 q4 hW2
  obtain ⟨z3, r3, -⟩ := HC.out _ HB3.out
  have HR3 := hid r3
  have q5 : w3.cell? ⟨w.heap.size, 5, none⟩ = some (.bool y) := by rw [cell_of_row _ _ _ _ _ _ r3]; rfl
  have q6 : w3.cell? ⟨w.heap.size, 6, none⟩ = some (.int .i64 (ph : Int)) := by rw [cell_of_row _ _ _ _ _ _ r3]; rfl
  clear r3
  have HN4 : Hid (cellsL [UInt8.ofNat y.toNat, UInt8.ofNat ph] = [.int .u8 (y.toNat : Int), .int .u8 (IntKind.u8.wrap (ph : Int))]) := by
    unfold Hid cellsL
    simp only [List.map_cons, List.map_nil]
    rw [cell_ofNat (by omega), cell_ofNat (by omega), IntKind.wrap_u8, Int.emod_eq_of_lt (by omega) (by omega)]
  go_wp2_with fail
  go_region_held_law (fun w' => w'.cell? ⟨w.heap.size, 5, none⟩ = some (.bool y) ∧ w'.cell? ⟨w.heap.size, 6, none⟩ = some (.int .i64 (ph : Int))) (go_keep) (first | (go_at_call 83; (with_reducible refine (one_is y _).mono ?_); rintro e wx ⟨rfl, hx⟩; subst wx) | (refine step_append_lies _ (by rfl) _ _ _ (by rfl) (w.heap.size + 1) 5 i0 (.int .u8 0) 1 1 Tryd.underlying54 hi hz0 hz1 hz2 (by rfl) (by decide) v3 t2.length (cellsL t2) (by rfl) (by exact World.ownsRow.alloc HO3.out _) ⟨w3.heap.size, 0, none⟩ 2 2 [.int .u8 (y.toNat : Int), .int .u8 (IntKind.u8.wrap (ph : Int))] (by rfl) (by rfl) (by exact lit_cells w3 _ _) (by intro u hu; simp at hu; rcases hu with rfl | rfl <;> rfl) (by decide) (by unfold maxLen; omega) (by omega) (by exact Nat.le_trans z3 (by simp)) (w3.heap.size + 1) (by simp) ?_; intro g4 cap4 w4 hown4 hgrow4 hat4 hlt4; obtain ⟨ho4, hb4⟩ := OwnB.app (v' := .slice (some ⟨g4, 0, none⟩) (t2.length + 2) cap4) (r := [UInt8.ofNat y.toNat, UInt8.ofNat ph]) z3 HO3.out (((Below.refl _ _).alloc (Nat.le_refl _) _).drew) (by rw [HN4.out]; exact hown4) hgrow4; rw [E3.out, l2] at ho4; have HO4 : Hid (OwnB w4 (w.heap.size + 1) (.slice (some ⟨g4, 0, none⟩) 10 cap4) t3) := ho4; have HB4 := hid (HB3.out.trans hb4); obtain ⟨z4, r4, -⟩ := HC.out _ HB4.out; have HR4 := hid r4; have q4' := (nine r4).2.2.2.2.2.1; have q5' := (nine r4).2.2.2.2.2.2.1; clear hown4 hgrow4 ho4 hb4 r4 hat4 hlt4))
  clear q5 q6 q4' q5'
  have q7 : w4.cell? ⟨w.heap.size, 7, none⟩ = some (.int .i64 (pr : Int)) := (nine HR4.out).2.2.2.2.2.2.2.1
  go_step
  go_wp2_with fail
  refine (wfour_any (w.heap.size + 1) pr _ t3 _ HO4.out z4 (by omega) (by omega)).mono ?_
  rintro e w5 ⟨v5, rfl, ho5, hb5⟩
  rw [E4.out] at ho5
  have HO5 := hid ho5
  have HB5 := hid (HB4.out.trans hb5)
  clear ho5 hb5 q7
  obtain ⟨z5, r5, -⟩ := HC.out _ HB5.out
  have q8 : w5.cell? ⟨w.heap.size, 8, none⟩ = some (.int .i64 (pa : Int)) := (nine r5).2.2.2.2.2.2.2.2
  clear r5
  go_wp2_with fail
  refine (wfour_any (w.heap.size + 1) pa _ t4 _ HO5.out z5 (by omega) (by omega)).mono ?_
  rintro e w6 ⟨v6, rfl, ho6, hb6⟩
  rw [E5.out] at ho6
  have HO6 := hid ho6
  have HB6 := hid (HB5.out.trans hb6)
  clear ho6 hb6 q8
  obtain ⟨z6, r6, hbw6⟩ := HC.out _ HB6.out
  have HBW6 := hid hbw6
  clear r6 hbw6
  have HCV : Hid (∀ wx, Below w6.heap.size w6 wx → (convert 54 9 v6).run Tryd.prog wx = .ok (.string s5) wx) := fun wx hx => by
    rw [← HS5.out]; exact conv_own (HO6.out.later hx (Nat.le_refl _)) (by omega)
  have cv0 := HCV.out w6 (Below.refl _ _)
  have cv1 := HCV.out w6.drew (Below.refl _ _).drew
  have HTL : Hid (bA (lowL (crcL s5.data.toList)) = s6) := by unfold Hid; rw [← HS5.out, bA_list]; exact HS6.out
  go_wp2_with fail
  go_region_held (fun _ => True) (go_keep) ((go_at_call 84; (with_reducible refine (tail_is s5 s6 _ (by omega) HTL.out).mono ?_); rintro e wx ⟨rfl, hx⟩; have cvx := HCV.out wx (by first | exact hx | exact ((Below.refl _ _).drew).trans hx); have HBX := hid (HBW6.out.drew.trans (hx.mono HBW6.out.size)); clear hx))
  all_goals go_wp2_with fail
  all_goals go_ret2
  all_goals exact ⟨rfl, HBX.out⟩
end Go.Proofs.YtkbbjkiinpimiaaDoor
