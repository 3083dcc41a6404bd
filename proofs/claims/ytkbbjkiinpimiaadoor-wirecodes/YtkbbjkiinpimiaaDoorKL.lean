/-
  THE WALK of the law WireCodes.
-/
import Derived.Test.YtkbbjkiinpimiaaDoorKG
import Derived.Test.YtkbbjkiinpimiaaDoorRM
namespace Go.Proofs.YtkbbjkiinpimiaaDoor
open Go.RowKit

set_option maxHeartbeats 4000000 in
set_option maxRecDepth 100000 in
theorem codes_bad (A : Nat → Addr) (f t d k a : Int) (y : Bool) (ph pr pa : Int) (w : World) (hE : Held9 w A) (hk : ¬ frOk f t d k a ph pr pa) :
    Calls Tryd.prog 12 #[frV f t d k a y ph pr pa] w fun e w' => e = .returned (.bool true) ∧ Below w.heap.size w w' := by
  obtain ⟨W, HW⟩ : ∃ W, Hid (w.alloc (.cells #[.int .i64 f, .int .i64 t, .int .i64 d, .int .i64 k, .int .i64 a, .bool y, .int .i64 ph, .int .i64 pr, .int .i64 pa] 88) = W) := ⟨_, rfl⟩
  have HB : Hid (Below w.heap.size w W) := by rw [← HW.out]; exact (Below.refl _ _).alloc (Nat.le_refl _) _
  have HR : Hid (W.heap[w.heap.size]? = some (.cells #[.int .i64 f, .int .i64 t, .int .i64 d, .int .i64 k, .int .i64 a, .bool y, .int .i64 ph, .int .i64 pr, .int .i64 pa] 88 (0, 0))) := by rw [← HW.out]; exact heap_alloc_new w _
  have HE := hid hE
  have HK := hid hk
  clear hE hk
  go_enter Tryd.func12, Tryd.ntmps12
  go_wp2_with fail
  rw [HW.out]
  refine (framed_any A W (HE.out.later HB.out)).mono ?_
  rintro e w1 ⟨rfl, hb1⟩
  have HB1 := hid (HB.out.trans (hb1.mono HB.out.size))
  have HR1 := hid ((hb1.block _ (row_ltJ HR.out)).trans HR.out)
  clear hb1
  obtain ⟨q0, q1, q2, q3, q4, q5, q6, q7, q8⟩ := nine HR1.out
  go_wp2_with fail
  refine (encode_bad A f t d k a y ph pr pa w1 (HE.out.later HB1.out) HK.out).mono ?_
  rintro e w2 ⟨rfl, hb2⟩
  have HB2 := hid (HB1.out.trans (hb2.mono HB1.out.size))
  have HR2 := hid ((hb2.block _ (row_ltJ HR1.out)).trans HR1.out)
  clear hb2 q0 q1 q2 q3 q4 q5 q6 q7 q8
  obtain ⟨q0, q1, q2, q3, q4, q5, q6, q7, q8⟩ := nine HR2.out
  go_wp2_with fail
  refine (rferr_bad f t d k a y ph pr pa w2 HK.out).mono ?_
  rintro e w3 ⟨rfl, hb3⟩
  have HB3 := hid (HB2.out.trans (hb3.mono HB2.out.size))
  have HR3 := hid ((hb3.block _ (row_ltJ HR2.out)).trans HR2.out)
  clear hb3 q0 q1 q2 q3 q4 q5 q6 q7 q8
  obtain ⟨q0, q1, q2, q3, q4, q5, q6, q7, q8⟩ := nine HR3.out
  go_wp2_with fail
  refine (wcheck_is A f t d k a y ph pr pa 2 w3 (HE.out.later HB3.out) (if_neg HK.out)).mono ?_
  rintro e w4 ⟨rfl, hb4⟩
  have HB4 := hid (HB3.out.trans (hb4.mono HB3.out.size))
  clear hb4 q0 q1 q2 q3 q4 q5 q6 q7 q8
  go_wp2_with fail
  refine (coded_ev A 2 w4 (HE.out.later HB4.out) (by omega)).mono ?_
  rintro e w5 ⟨rfl, hb5⟩
  have HB5 := hid (HB4.out.trans (hb5.mono HB4.out.size))
  clear hb5
  go_wp2_with fail
  refine (coded_ev A 2 w5 (HE.out.later HB5.out) (by omega)).mono ?_
  rintro e w6 ⟨rfl, hb6⟩
  have HB6 := hid (HB5.out.trans (hb6.mono HB5.out.size))
  clear hb6
  go_wp2_with fail
  go_ret
  exact ⟨rfl, HB6.out⟩
set_option maxHeartbeats 4000000 in
set_option maxRecDepth 100000 in
theorem codes_ok (A : Nat → Addr) (f t d k a : Nat) (y : Bool) (ph pr pa : Nat) (w : World) (hE : Held9 w A) (h : (FN.mk f t d k a y ph pr pa).ok) :
    Calls Tryd.prog 12 #[frV f t d k a y ph pr pa] w fun e w' => e = .returned (.bool true) ∧ Below w.heap.size w w' := by
  obtain ⟨W, HW⟩ : ∃ W, Hid (w.alloc (.cells #[.int .i64 f, .int .i64 t, .int .i64 d, .int .i64 k, .int .i64 a, .bool y, .int .i64 ph, .int .i64 pr, .int .i64 pa] 88) = W) := ⟨_, rfl⟩
  have HB : Hid (Below w.heap.size w W) := by rw [← HW.out]; exact (Below.refl _ _).alloc (Nat.le_refl _) _
  have HR : Hid (W.heap[w.heap.size]? = some (.cells #[.int .i64 f, .int .i64 t, .int .i64 d, .int .i64 k, .int .i64 a, .bool y, .int .i64 ph, .int .i64 pr, .int .i64 pa] 88 (0, 0))) := by rw [← HW.out]; exact heap_alloc_new w _
  have HE := hid hE
  have HO := hid h
  have HK : Hid (frOk f t d k a ph pr pa) := by
    obtain ⟨h0, h1, h2, h3, h4, h5, h6, h7, h8⟩ := h
    unfold Hid frOk stOk
    simp only at *
    omega
  obtain ⟨s, HS⟩ : ∃ s, Hid (bA (frameL (FN.mk f t d k a y ph pr pa)) = s) := ⟨_, rfl⟩
  clear hE h
  go_enter Tryd.func12, Tryd.ntmps12
  go_wp2_with fail
  rw [HW.out]
  refine (framed_any A W (HE.out.later HB.out)).mono ?_
  rintro e w1 ⟨rfl, hb1⟩
  have HB1 := hid (HB.out.trans (hb1.mono HB.out.size))
  have HR1 := hid ((hb1.block _ (row_ltJ HR.out)).trans HR.out)
  clear hb1
  obtain ⟨q0, q1, q2, q3, q4, q5, q6, q7, q8⟩ := nine HR1.out
  go_wp2_with fail
  refine (encode_ok A f t d k a y ph pr pa w1 (HE.out.later HB1.out) HO.out).mono ?_
  rw [HS.out]
  rintro e w2 ⟨rfl, hb2⟩
  have HB2 := hid (HB1.out.trans (hb2.mono HB1.out.size))
  have HR2 := hid ((hb2.block _ (row_ltJ HR1.out)).trans HR1.out)
  clear hb2 q0 q1 q2 q3 q4 q5 q6 q7 q8
  obtain ⟨q0, q1, q2, q3, q4, q5, q6, q7, q8⟩ := nine HR2.out
  go_wp2_with fail
  refine (rferr_ok f t d k a y ph pr pa w2 HK.out).mono ?_
  rintro e w3 ⟨rfl, hb3⟩
  have HB3 := hid (HB2.out.trans (hb3.mono HB2.out.size))
  have HR3 := hid ((hb3.block _ (row_ltJ HR2.out)).trans HR2.out)
  clear hb3 q0 q1 q2 q3 q4 q5 q6 q7 q8
  obtain ⟨q0, q1, q2, q3, q4, q5, q6, q7, q8⟩ := nine HR3.out
  go_wp2_with fail
  refine (wcheck_is A f t d k a y ph pr pa 0 w3 (HE.out.later HB3.out) (if_pos HK.out)).mono ?_
  rintro e w4 ⟨rfl, hb4⟩
  have HB4 := hid (HB3.out.trans (hb4.mono HB3.out.size))
  have HR4 := hid ((hb4.block _ (row_ltJ HR3.out)).trans HR3.out)
  clear hb4 q0 q1 q2 q3 q4 q5 q6 q7 q8
  go_wp2_with fail
  refine (coded_ev A 0 w4 (HE.out.later HB4.out) (by omega)).mono ?_
  rintro e w5 ⟨rfl, hb5⟩
  have HB5 := hid (HB4.out.trans (hb5.mono HB4.out.size))
  have HR5 := hid ((hb5.block _ (row_ltJ HR4.out)).trans HR4.out)
  clear hb5
  go_wp2_with fail
  refine (decode_enc A (FN.mk f t d k a y ph pr pa) s w5 (HE.out.later HB5.out) HO.out HS.out).mono ?_
  rintro e w6 ⟨rfl, hb6⟩
  have HB6 := hid (HB5.out.trans (hb6.mono HB5.out.size))
  have HR6 := hid ((hb6.block _ (row_ltJ HR5.out)).trans HR5.out)
  clear hb6
  obtain ⟨V, HV⟩ : ∃ X, Hid (w6.alloc (.cells #[.int .i64 (f : Int), .int .i64 (t : Int), .int .i64 (d : Int), .int .i64 (k : Int), .int .i64 (a : Int), .bool y, .int .i64 (ph : Int), .int .i64 (pr : Int), .int .i64 (pa : Int)] 88) = X) := ⟨_, rfl⟩
  have HBV : Hid (Below w.heap.size w V) := by rw [← HV.out]; exact HB6.out.alloc HB6.out.size _
  have HVL : Hid (Below w6.heap.size w6 V) := by rw [← HV.out]; exact (Below.refl _ _).alloc (Nat.le_refl _) _
  have HVF : Hid (V.heap[w6.heap.size]? = some (.cells #[.int .i64 (f : Int), .int .i64 (t : Int), .int .i64 (d : Int), .int .i64 (k : Int), .int .i64 (a : Int), .bool y, .int .i64 (ph : Int), .int .i64 (pr : Int), .int .i64 (pa : Int)] 88 (0, 0))) := by rw [← HV.out]; exact heap_alloc_new w6 _
  have HRV := hid ((HVL.out.block _ (row_ltJ HR6.out)).trans HR6.out)
  obtain ⟨q0, q1, q2, q3, q4, q5, q6, q7, q8⟩ := nine HR6.out
  have hlt := row_ltJ HR6.out
  go_wp2_with fail
  rw [HV.out]
  refine (ftext_is f t d k a y ph pr pa s V HO.out HS.out).mono ?_
  rintro e w7 ⟨rfl, hb7⟩
  have HB7 := hid (HBV.out.trans (hb7.mono HBV.out.size))
  clear q0 q1 q2 q3 q4 q5 q6 q7 q8
  obtain ⟨q0, q1, q2, q3, q4, q5, q6, q7, q8⟩ := nine ((hb7.block _ (row_ltJ HRV.out)).trans HRV.out)
  obtain ⟨v0, v1, v2, v3, v4, v5, v6, v7, v8⟩ := nine ((hb7.block _ (row_ltJ HVF.out)).trans HVF.out)
  clear hb7
  go_wp2_with fail
  go_ret
  exact ⟨rfl, HB7.out⟩
theorem codes_any (A : Nat → Addr) (f t d k a : Int) (y : Bool) (ph pr pa : Int) (w : World) (hE : Held9 w A) :
    Calls Tryd.prog 12 #[frV f t d k a y ph pr pa] w fun e w' => e = .returned (.bool true) ∧ Below w.heap.size w w' := by
  by_cases hk : frOk f t d k a ph pr pa
  · obtain ⟨k1, k2, k3, k4, k5, k6, k7, k8⟩ := hk
    obtain ⟨f', rfl⟩ := Int.eq_ofNat_of_zero_le k1.1
    obtain ⟨t', rfl⟩ := Int.eq_ofNat_of_zero_le k2.1
    obtain ⟨d', rfl⟩ := Int.eq_ofNat_of_zero_le k3.1
    obtain ⟨k', rfl⟩ := Int.eq_ofNat_of_zero_le (show 0 ≤ k by omega)
    obtain ⟨a', rfl⟩ := Int.eq_ofNat_of_zero_le k5.1
    obtain ⟨ph', rfl⟩ := Int.eq_ofNat_of_zero_le k6.1
    obtain ⟨pr', rfl⟩ := Int.eq_ofNat_of_zero_le k7.1
    obtain ⟨pa', rfl⟩ := Int.eq_ofNat_of_zero_le k8.1
    exact codes_ok A f' t' d' k' a' y ph' pr' pa' w hE (by unfold FN.ok; simp only; omega)
  · exact codes_bad A f t d k a y ph pr pa w hE hk
end Go.Proofs.YtkbbjkiinpimiaaDoor
