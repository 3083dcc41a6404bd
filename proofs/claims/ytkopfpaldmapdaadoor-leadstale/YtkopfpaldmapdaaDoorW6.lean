/-
  WALKS of the document's answer for weights (threefoldref1): WeightsError, SetError, Has, Sum, Enough, Needed.
-/
import Derived.Test.YtkopfpaldmapdaaDoorW5
import Derived.Test.YtkopfpaldmapdaaDoorPlain4
namespace Go.Proofs.YtkopfpaldmapdaaDoor
open Go.RowKit

theorem rErr_shape (a : Option Addr) (len cap : Nat) (w : World) (hm : len ≤ maxLen) (h : len < 1 ∨ 7 < len) :
    Calls Tryd.prog 27 #[.slice a len cap] w fun e w' => e = .returned (.int .i64 3) ∧ w' = w := by
  unfold maxLen at hm
  rcases h with h | h
  · have : len = 0 := by omega
    subst this
    go_enter Tryd.func27, Tryd.ntmps27
    go_wp2
    go_ret
    exact ⟨rfl, rfl⟩
  · go_enter Tryd.func27, Tryd.ntmps27
    go_wp2
    go_ret
    exact ⟨rfl, rfl⟩
set_option maxHeartbeats 1000000 in
theorem rErr_in (b off cap : Nat) (zs : List Int) (w : World) (h : ¬ (zs.length < 1 ∨ 7 < zs.length))
    (hc : ∀ i, i < zs.length → w.cell? ⟨b, off + i, none⟩ = some (.int .i64 (zs.getD i 0))) :
    Calls Tryd.prog 27 #[.slice (some ⟨b, off, none⟩) zs.length cap] w fun e w' => e = .returned (.int .i64 (errW zs)) ∧ w' = w := by
  have hB : ∀ k, k < zs.length → (zs.getD k 0 < 0 ∨ 1000 < zs.getD k 0) → Hid ((errW zs : Int) = 2) := fun k hk hb => by unfold Hid; rw [errW_bound h hk hb]; rfl
  have hN : okTo zs zs.length → tot zs = 0 → Hid ((errW zs : Int) = 4) := fun g e => by unfold Hid; rw [errW_ok h g, if_pos e]; rfl
  have hZ : okTo zs zs.length → ¬ tot zs = 0 → Hid ((errW zs : Int) = 0) := fun g e => by unfold Hid; rw [errW_ok h g, if_neg e]; rfl
  have hlo : ¬ zs.length < 1 := fun g => h (.inl g)
  have hhi : ¬ 7 < zs.length := fun g => h (.inr g)
  clear h
  go_enter Tryd.func27, Tryd.ntmps27
  go_wp2
  go_loop [3, 4] (fun x i => ∃ k : Nat, k ≤ zs.length ∧ okTo zs k ∧ i = .int .i64 k ∧ x = .int .i64 (psum zs k)) (fun _ i => zs.length - (intOf i).toNat)
  case atStart => exact ⟨0, Nat.zero_le _, fun i hi => absurd hi (by omega), rfl, rfl⟩
  case round =>
    obtain ⟨k, hk, hok, rfl, rfl⟩ := hrel
    have hpb := psum_bd hok
    by_cases hlt : k < zs.length
    · have hck := hc k hlt
      have hB' := hB k hlt
      have hS : Hid (psum zs (k + 1) = psum zs k + zs.getD k 0) := rfl
      have hO : 0 ≤ zs.getD k 0 → zs.getD k 0 ≤ 1000 → okTo zs (k + 1) := okTo_succ hok
      clear hB hN hZ hc
      rw [getD_lt zs k hlt] at hB' hO hck
      go_wp2
      · go_ret
        exact ⟨ret_int (hB' (by omega)).out.symm, rfl⟩
      · go_round
        case rel => exact ⟨k + 1, by omega, hO (by omega) (by omega), by go_num, val_int (by rw [hS.out, getD_lt zs k hlt])⟩
        case measure => simp [intOf]; omega
      · go_ret
        exact ⟨ret_int (hB' (by omega)).out.symm, rfl⟩
    · have hke : k = zs.length := by omega
      subst hke
      have hN' := hN hok
      have hZ' := hZ hok
      clear hB hN hZ hc
      go_wp2
      · have hz : (psum zs zs.length == 0) = true := by assumption
        go_ret
        exact ⟨ret_int (hN' (show psum zs zs.length = 0 by simpa using hz)).out.symm, rfl⟩
      · have hz : (psum zs zs.length == 0) = false := by assumption
        go_ret
        exact ⟨ret_int (hZ' (show ¬ psum zs zs.length = 0 by simpa using hz)).out.symm, rfl⟩
theorem rErr_any (v : Value) (zs : List Int) (w : World) (hv : IsSl w v zs) :
    Calls Tryd.prog 27 #[v] w fun e w' => e = .returned (.int .i64 (errW zs)) ∧ w' = w := by
  obtain ⟨a, cap, rfl, hm, -, hc⟩ := hv
  by_cases h : zs.length < 1 ∨ 7 < zs.length
  · rw [errW_shape h]; exact rErr_shape a zs.length cap w hm h
  · obtain ⟨b, off, rfl, hcc⟩ := hc (by omega)
    exact rErr_in b off cap zs w h hcc

theorem rHas_any (s : Int) (i : Nat) (w : World) (hi : i ≤ 30) (h0 : 0 ≤ s) (h1 : s ≤ 1073741824) :
    Calls Tryd.prog 32 #[.int .i64 s, .int .i64 i] w fun e w' => e = .returned (.bool (bit s i)) ∧ w' = w := by
  have hp := pow_le30 hi
  have hb := hid (bit_has i h0)
  go_enter Tryd.func32, Tryd.ntmps32
  go_wp2_with (go_at_call 33; refine (two_any i _ hi).mono ?_; rintro e w' ⟨rfl, rfl⟩)
  go_ret
  exact ⟨congrArg (fun x => Ending.returned (.bool x)) (by rw [Int.tmod_eq_emod_of_nonneg (Int.ediv_nonneg h0 (by omega))]; exact hb.out), rfl⟩
theorem rHas_is (s : Int) (i : Nat) (x : Bool) (w : World) (hi : i ≤ 30) (h0 : 0 ≤ s) (h1 : s ≤ 1073741824) (hx : bit s i = x) :
    Calls Tryd.prog 32 #[.int .i64 s, .int .i64 i] w fun e w' => e = .returned (.bool x) ∧ w' = w := by
  subst hx; exact rHas_any s i w hi h0 h1

set_option maxHeartbeats 1000000 in
theorem rSum_any (b off cap : Nat) (zs : List Int) (s : Int) (w : World) (hl : zs.length ≤ 7) (hok : okTo zs zs.length) (h0 : 0 ≤ s) (h1 : s ≤ 1073741824)
    (hc : ∀ i, i < zs.length → w.cell? ⟨b, off + i, none⟩ = some (.int .i64 (zs.getD i 0))) :
    Calls Tryd.prog 56 #[.slice (some ⟨b, off, none⟩) zs.length cap, .int .i64 s] w fun e w' => e = .returned (.int .i64 (sumTo zs s zs.length)) ∧ w' = w := by
  have HC := hid hc
  clear hc
  go_enter Tryd.func56, Tryd.ntmps56
  go_wp2
  go_loop [5, 6] (fun x i => ∃ k : Nat, k ≤ zs.length ∧ i = .int .i64 k ∧ x = .int .i64 (sumTo zs s k)) (fun _ i => zs.length - (intOf i).toNat)
  case atStart => exact ⟨0, Nat.zero_le _, rfl, rfl⟩
  case round =>
    obtain ⟨k, hk, rfl, rfl⟩ := hrel
    by_cases hlt : k < zs.length
    · have hck := HC.out k hlt
      have hbd := sumTo_bd s (k := k) (zs := zs) (fun i hi => hok i (by omega))
      have hpb := psum_bd (k := k) (zs := zs) (fun i hi => hok i (by omega))
      have hz := hok k hlt
      have hS : Hid (sumTo zs s (k + 1) = sumTo zs s k + if bit s k then zs.getD k 0 else 0) := rfl
      rw [getD_lt zs k hlt] at hz
      cases hx : bit s k with
      | false =>
        rw [hx] at hS
        have HX := hid hx
        clear hx
        go_wp2_with (go_at_call 32; refine (rHas_is s k false _ (by omega) h0 h1 HX.out).mono ?_; rintro e w' ⟨rfl, rfl⟩)
        go_round
        case rel => exact ⟨k + 1, by omega, by go_num, val_int (by rw [hS.out]; simp)⟩
        case measure => simp [intOf]; omega
      | true =>
        rw [hx] at hS
        have HX := hid hx
        clear hx
        go_wp2_with (go_at_call 32; refine (rHas_is s k true _ (by omega) h0 h1 HX.out).mono ?_; rintro e w' ⟨rfl, rfl⟩)
        go_round
        case rel => exact ⟨k + 1, by omega, by go_num, val_int (by rw [hS.out, getD_lt zs k hlt]; simp)⟩
        case measure => simp [intOf]; omega
    · go_wp2
      go_ret
      exact ⟨ret_int (by rw [show k = zs.length by omega]), rfl⟩

theorem rEnough_any (b off cap : Nat) (zs : List Int) (s : Int) (w : World) (hl : zs.length ≤ 7) (hok : okTo zs zs.length) (h0 : 0 ≤ s) (h1 : s ≤ 1073741824)
    (hc : ∀ i, i < zs.length → w.cell? ⟨b, off + i, none⟩ = some (.int .i64 (zs.getD i 0))) :
    Calls Tryd.prog 37 #[.slice (some ⟨b, off, none⟩) zs.length cap, .int .i64 s] w fun e w' => e = .returned (.bool (enoughB zs s)) ∧ w' = w := by
  have HC := hid hc
  clear hc
  have hp := pow_le7 hl
  have hbd := sumTo_bd s (k := zs.length) (zs := zs) hok
  have hpb := psum_bd (k := zs.length) (zs := zs) hok
  have hall : Hid (sumTo zs (2 ^ zs.length - 1) zs.length = tot zs) := sumTo_all zs (Nat.le_refl _)
  have ht : 0 ≤ tot zs ∧ tot zs ≤ 1000 * zs.length := hpb
  have hfin := hid (enoughB_alt zs s)
  go_enter Tryd.func37, Tryd.ntmps37
  go_wp2_with fail
  refine (rSum_any b off cap zs s _ hl hok h0 h1 HC.out).mono ?_
  rintro e w1 ⟨rfl, h1'⟩
  subst h1'
  go_wp2_with fail
  refine (two_any zs.length _ (by omega)).mono ?_
  rintro e w1 ⟨rfl, h1'⟩
  subst h1'
  go_wp2_with fail
  refine (rSum_any b off cap zs (2 ^ zs.length - 1) _ hl hok (by omega) (by omega) HC.out).mono ?_
  rintro e w1 ⟨rfl, h1'⟩
  subst h1'
  rw [hall.out]
  go_wp2_with fail
  refine (rSum_any b off cap zs s _ hl hok h0 h1 HC.out).mono ?_
  rintro e w1 ⟨rfl, h1'⟩
  subst h1'
  go_wp2_with fail
  go_ret
  exact ⟨congrArg (fun x => Ending.returned (.bool x)) hfin.out, rfl⟩
theorem rEnough_is (b off cap : Nat) (zs : List Int) (s : Int) (x : Bool) (w : World) (hl : zs.length ≤ 7) (hok : okTo zs zs.length) (h0 : 0 ≤ s) (h1 : s ≤ 1073741824)
    (hc : ∀ i, i < zs.length → w.cell? ⟨b, off + i, none⟩ = some (.int .i64 (zs.getD i 0))) (hx : enoughB zs s = x) :
    Calls Tryd.prog 37 #[.slice (some ⟨b, off, none⟩) zs.length cap, .int .i64 s] w fun e w' => e = .returned (.bool x) ∧ w' = w := by
  subst hx; exact rEnough_any b off cap zs s w hl hok h0 h1 hc
end Go.Proofs.YtkopfpaldmapdaaDoor
