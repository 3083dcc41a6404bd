/-
  WALKS: the document's Needed (threefoldref1); package weights' Sum, needed, Needed.
-/
import Derived.Test.YtkbbjkiinpimiaaDoorW6
namespace Go.Proofs.YtkbbjkiinpimiaaDoor
open Go.RowKit

set_option maxHeartbeats 2000000 in
theorem rNeeded_any (b off cap : Nat) (zs : List Int) (s : Int) (w : World) (hl : zs.length ≤ 7) (hok : okTo zs zs.length) (h0 : 0 ≤ s) (h1 : s < 2 ^ zs.length)
    (hc : ∀ i, i < zs.length → w.cell? ⟨b, off + i, none⟩ = some (.int .i64 (zs.getD i 0))) :
    Calls Tryd.prog 29 #[.slice (some ⟨b, off, none⟩) zs.length cap, .int .i64 s] w fun e w' => e = .returned (.int .i64 (neededN zs s)) ∧ w' = w := by
  have HC := hid hc
  have HO := hid hok
  clear hc hok
  have hp := pow_le7 hl
  cases hen : enoughB zs s with
  | false =>
    have hN : neededN zs s = 0 := by unfold neededN; rw [hen]; rfl
    rw [hN]
    have HX := hid hen
    clear hen hN
    go_enter Tryd.func29, Tryd.ntmps29
    go_wp2_with (go_at_call 28; refine (rEnough_is b off cap zs s false _ hl HO.out h0 (by omega) HC.out HX.out).mono ?_; rintro e w' ⟨rfl, rfl⟩)
    go_loop [5, 7] (fun x i => x = .int .i64 0 ∧ i = .int .i64 0) (fun _ _ => 0)
    case atStart => exact ⟨rfl, rfl⟩
    case round =>
      obtain ⟨rfl, rfl⟩ := hrel
      by_cases hlt : 0 < zs.length
      · go_wp2
        go_ret
        exact ⟨rfl, rfl⟩
      · go_wp2
        go_ret
        exact ⟨rfl, rfl⟩
  | true =>
    have hN : Hid (neededN zs s = neededTo zs s zs.length) := by unfold Hid neededN; rw [hen]; rfl
    have HX := hid hen
    clear hen
    go_enter Tryd.func29, Tryd.ntmps29
    go_wp2_with (go_at_call 28; refine (rEnough_is b off cap zs s true _ hl HO.out h0 (by omega) HC.out HX.out).mono ?_; rintro e w' ⟨rfl, rfl⟩)
    go_loop [5, 7] (fun x i => ∃ k : Nat, k ≤ zs.length ∧ i = .int .i64 k ∧ x = .int .i64 (neededTo zs s k)) (fun _ i => zs.length - (intOf i).toNat)
    case atStart => exact ⟨0, Nat.zero_le _, rfl, rfl⟩
    case round =>
      obtain ⟨k, hk, rfl, rfl⟩ := hrel
      by_cases hlt : k < zs.length
      · have hbd := neededTo_bd zs s k
        have hpk := pow_le7 (n := k) (by omega)
        have hS : Hid (neededTo zs s (k + 1) = neededTo zs s k + if bit s k && !enoughB zs (s - 2 ^ k) then 2 ^ k else 0) := rfl
        cases hx : bit s k with
        | false =>
          rw [hx] at hS
          have HB := hid hx
          clear hx
          go_wp2_with (go_at_call 69; refine (rHas_is s k false _ (by omega) h0 (by omega) HB.out).mono ?_; rintro e w' ⟨rfl, rfl⟩)
          go_round
          case rel => exact ⟨k + 1, by omega, by go_num, val_int (by rw [hS.out]; simp)⟩
          case measure => simp [intOf]; omega
        | true =>
          rw [hx] at hS
          have hge := bit_pow_le h0 hx
          have HB := hid hx
          clear hx
          cases hy : enoughB zs (s - 2 ^ k) with
          | true =>
            rw [hy] at hS
            have HY := hid hy
            clear hy
            go_wp2_with (first | (go_at_call 69; refine (rHas_is s k true _ (by omega) h0 (by omega) HB.out).mono ?_; rintro e w' ⟨rfl, rfl⟩) | (go_at_call 31; refine (two_any k _ (by omega)).mono ?_; rintro e w' ⟨rfl, rfl⟩) | (go_at_call 28; refine (rEnough_is b off cap zs (s - 2 ^ k) true _ hl HO.out (by omega) (by omega) HC.out HY.out).mono ?_; rintro e w' ⟨rfl, rfl⟩))
            go_round
            case rel => exact ⟨k + 1, by omega, by go_num, val_int (by rw [hS.out]; simp)⟩
            case measure => simp [intOf]; omega
          | false =>
            rw [hy] at hS
            have HY := hid hy
            clear hy
            go_wp2_with (first | (go_at_call 69; refine (rHas_is s k true _ (by omega) h0 (by omega) HB.out).mono ?_; rintro e w' ⟨rfl, rfl⟩) | (go_at_call 31; refine (two_any k _ (by omega)).mono ?_; rintro e w' ⟨rfl, rfl⟩) | (go_at_call 28; refine (rEnough_is b off cap zs (s - 2 ^ k) false _ hl HO.out (by omega) (by omega) HC.out HY.out).mono ?_; rintro e w' ⟨rfl, rfl⟩))
            go_round
            case rel => exact ⟨k + 1, by omega, by go_num, val_int (by rw [hS.out]; simp)⟩
            case measure => simp [intOf]; omega
      · go_wp2
        go_ret
        exact ⟨ret_int (by rw [hN.out, show k = zs.length by omega]), rfl⟩
end Go.Proofs.YtkbbjkiinpimiaaDoor
