/-
  THE DOCUMENT's PLATE (threefoldref1.Plate): Write.
-/
import Derived.Test.YtkbbjkiinpimiaaDoorP6
namespace Go.Proofs.YtkbbjkiinpimiaaDoor
open Go.RowKit

theorem rpwrite_bound (r : Nat) (B s : ByteArray) (off cuts : Bool) (l a : Int) (w : World) (h : RP w r B off l cuts) (hB : B.size ≤ 1000) (hb : a < 0 ∨ (B.size : Int) - s.size < a) :
    Calls Tryd.prog 39 #[.pointer (some ⟨r, 0, none⟩), .int .i64 a, .string s] w fun e w' => e = .returned (.int .i64 2) ∧ w' = w := by
  have H := hid h
  clear h
  go_enter Tryd.func39, Tryd.ntmps39
  go_wp2_with (go_at_call 37; refine (rperr_bound r B off cuts l _ _ _ H.out hB (by omega)).mono ?_; rintro e w' ⟨rfl, rfl⟩)
  go_ret
  exact ⟨rfl, rfl⟩
theorem rpwrite_off (r : Nat) (B s : ByteArray) (cuts : Bool) (l a : Int) (w : World) (h : RP w r B true l cuts) (hB : B.size ≤ 1000) (hb : ¬ (a < 0 ∨ (B.size : Int) - s.size < a)) :
    Calls Tryd.prog 39 #[.pointer (some ⟨r, 0, none⟩), .int .i64 a, .string s] w fun e w' => e = .returned (.int .i64 6) ∧ w' = w := by
  have H := hid h
  clear h
  go_enter Tryd.func39, Tryd.ntmps39
  go_wp2_with (go_at_call 37; refine (rperr_in r B true cuts l _ _ _ H.out hB (by omega)).mono ?_; rw [if_pos rfl]; rintro e w' ⟨rfl, rfl⟩)
  go_ret
  exact ⟨rfl, rfl⟩
theorem putB_full (B : ByteArray) (a : Nat) (s : ByteArray) : putB B a s s.size = B.extract 0 a ++ s ++ B.extract (a + s.size) B.size := by
  unfold putB; simp
set_option maxHeartbeats 1000000 in
set_option maxRecDepth 100000 in
/-- No cut ahead: all is written. -/
theorem rpwrite_free (r : Nat) (B s : ByteArray) (l : Int) (a : Nat) (w : World) (h : RP w r B false l false) (hB : B.size ≤ 1000) (ha : a + s.size ≤ B.size) :
    Calls Tryd.prog 39 #[.pointer (some ⟨r, 0, none⟩), .int .i64 a, .string s] w fun e w' => e = .returned (.int .i64 0) ∧ RP w' r (putB B a s s.size) false l false ∧ Kept (In1 r) w w' := by
  have H := hid h
  have c0 := h.c0
  have c1 := h.c1
  have c3 := h.c3
  have f0 := h.fz 0
  rw [putB_full]
  clear h
  go_enter Tryd.func39, Tryd.ntmps39
  go_wp2_with (go_at_call 37; refine (rperr_in r B false false l _ _ _ H.out hB (by omega)).mono ?_; rintro e wx ⟨rfl, hx⟩; subst wx)
  go_region
  all_goals go_wp2
  all_goals go_ret
  all_goals exact ⟨rfl, (H.out.s0 _).drew, ((Kept.refl _ w).set1 _ _).drew⟩
set_option maxHeartbeats 1000000 in
set_option maxRecDepth 100000 in
/-- A cut ahead, behind all that is written. -/
theorem rpwrite_far (r : Nat) (B s : ByteArray) (l : Int) (a : Nat) (w : World) (h : RP w r B false l true) (hB : B.size ≤ 1000) (ha : a + s.size ≤ B.size) (hl : (s.size : Int) ≤ l) (hl2 : l ≤ 9223372036854775807) :
    Calls Tryd.prog 39 #[.pointer (some ⟨r, 0, none⟩), .int .i64 a, .string s] w fun e w' => e = .returned (.int .i64 0) ∧ RP w' r (putB B a s s.size) false (l - s.size) true ∧ Kept (In1 r) w w' := by
  have H := hid h
  have c0 := h.c0
  have c1 := h.c1
  have c2 := h.c2
  have c3 := h.c3
  have f0 := h.fz 0
  have f2 := h.fz 2
  rw [putB_full]
  clear h
  go_enter Tryd.func39, Tryd.ntmps39
  go_wp2_with (go_at_call 37; refine (rperr_in r B false true l _ _ _ H.out hB (by omega)).mono ?_; rintro e wx ⟨rfl, hx⟩; subst wx)
  go_region
  all_goals go_wp2
  all_goals go_ret
  all_goals exact ⟨rfl, ((H.out.s0 _).s2 _).drew, (((Kept.refl _ w).set1 _ _).set1 _ _).drew⟩
set_option maxHeartbeats 1000000 in
set_option maxRecDepth 100000 in
/-- A cut ahead, within what is written. -/
theorem rpwrite_near (r : Nat) (B s : ByteArray) (l a : Nat) (w : World) (h : RP w r B false l true) (hB : B.size ≤ 1000) (ha : a + s.size ≤ B.size) (hl : l < s.size) :
    Calls Tryd.prog 39 #[.pointer (some ⟨r, 0, none⟩), .int .i64 a, .string s] w fun e w' => e = .returned (.int .i64 6) ∧ RP w' r (putB B a s l) true 0 true ∧ Kept (In1 r) w w' := by
  have H := hid h
  have c0 := h.c0
  have c1 := h.c1
  have c2 := h.c2
  have c3 := h.c3
  have f0 := h.fz 0
  have f1 := h.fz 1
  have f2 := h.fz 2
  unfold putB
  clear h
  go_enter Tryd.func39, Tryd.ntmps39
  go_wp2_with (go_at_call 37; refine (rperr_in r B false true l _ _ _ H.out hB (by omega)).mono ?_; rintro e wx ⟨rfl, hx⟩; subst wx)
  go_region
  all_goals go_wp2
  all_goals go_ret
  all_goals exact ⟨rfl, (((H.out.s1 _).s0 _).s2 _).drew, ((((Kept.refl _ w).set1 _ _).set1 _ _).set1 _ _).drew⟩
end Go.Proofs.YtkbbjkiinpimiaaDoor
