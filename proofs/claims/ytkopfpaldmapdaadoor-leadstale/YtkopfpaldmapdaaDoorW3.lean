/-
  WALKS of weights.Check, checkSet, Enough.
-/
import Derived.Test.YtkopfpaldmapdaaDoorW2
namespace Go.Proofs.YtkopfpaldmapdaaDoor
open Go.RowKit

/-- The three variables of package api that weights names. -/
def gW : Nat → Nat
  | 1 => 0
  | 2 => 2
  | _ => 5
/-- The variables of package api that weights names hold their errors. -/
def Held3 (w : World) (A : Nat → Addr) : Prop := ∀ i, 1 ≤ i → i ≤ 3 → w.cell? ⟨gW i, 0, none⟩ = some (.iface 189 (.pointer (some (A i))))

theorem check_shape (A : Nat → Addr) (a : Option Addr) (len cap : Nat) (w : World) (hm : len ≤ maxLen) (h : len < 1 ∨ 7 < len) (hE : Held3 w A) :
    Calls Tryd.prog 79 #[.slice a len cap] w fun e w' => e = .returned (ev A 3) ∧ w' = w := by
  have h2 : w.cell? ⟨2, 0, none⟩ = some (.iface 189 (.pointer (some (A 2)))) := hE 2 (by omega) (by omega)
  unfold maxLen at hm
  rcases h with h | h
  · have : len = 0 := by omega
    subst this
    go_enter Tryd.func79, Tryd.ntmps79
    go_wp2
    go_ret
    exact ⟨rfl, rfl⟩
  · go_enter Tryd.func79, Tryd.ntmps79
    go_wp2
    go_ret
    exact ⟨rfl, rfl⟩

theorem check_in (A : Nat → Addr) (b off cap : Nat) (zs : List Int) (w : World) (h : ¬ (zs.length < 1 ∨ 7 < zs.length)) (hE : Held3 w A)
    (hc : ∀ i, i < zs.length → w.cell? ⟨b, off + i, none⟩ = some (.int .i64 (zs.getD i 0))) :
    Calls Tryd.prog 79 #[.slice (some ⟨b, off, none⟩) zs.length cap] w fun e w' => e = .returned (ev A (errW zs)) ∧ w' = w := by
  have h1 : w.cell? ⟨0, 0, none⟩ = some (.iface 189 (.pointer (some (A 1)))) := hE 1 (by omega) (by omega)
  have h3 : w.cell? ⟨5, 0, none⟩ = some (.iface 189 (.pointer (some (A 3)))) := hE 3 (by omega) (by omega)
  have hB : ∀ k, k < zs.length → (zs.getD k 0 < 0 ∨ 1000 < zs.getD k 0) → Hid (ev A (errW zs) = .iface 189 (.pointer (some (A 1)))) := fun k hk hb => by unfold Hid; rw [errW_bound h hk hb]; rfl
  have hN : okTo zs zs.length → tot zs = 0 → Hid (ev A (errW zs) = .iface 189 (.pointer (some (A 3)))) := fun g e => by unfold Hid; rw [errW_ok h g, if_pos e]; rfl
  have hZ : okTo zs zs.length → ¬ tot zs = 0 → Hid (ev A (errW zs) = .nilIface) := fun g e => by unfold Hid; rw [errW_ok h g, if_neg e]; rfl
  have hlo : ¬ zs.length < 1 := fun g => h (.inl g)
  have hhi : ¬ 7 < zs.length := fun g => h (.inr g)
  clear h
  go_enter Tryd.func79, Tryd.ntmps79
  go_wp2
  go_loop [3, 17] (fun x i => ∃ k : Nat, k ≤ zs.length ∧ okTo zs k ∧ i = .int .i64 k ∧ x = .int .i64 (psum zs k)) (fun _ i => zs.length - (intOf i).toNat)
  case atStart => exact ⟨0, Nat.zero_le _, fun i hi => absurd hi (by omega), rfl, rfl⟩
  case round =>
    obtain ⟨k, hk, hok, rfl, rfl⟩ := hrel
    have hpb := psum_bd hok
    by_cases hlt : k < zs.length
    · have hck := hc k hlt
      have hB' := hB k hlt
      have hS : Hid (psum zs (k + 1) = psum zs k + zs.getD k 0) := rfl
      have hO : 0 ≤ zs.getD k 0 → zs.getD k 0 ≤ 1000 → okTo zs (k + 1) := okTo_succ hok
      clear hB hN hZ hc
      rw [getD_lt zs k hlt] at hB' hO hck
      go_wp2
      · go_ret
        exact ⟨congrArg Ending.returned (hB' (by omega)).out.symm, rfl⟩
      · go_round
        case rel => exact ⟨k + 1, by omega, hO (by omega) (by omega), by go_num, val_int (by rw [hS.out, getD_lt zs k hlt])⟩
        case measure => simp [intOf]; omega
      · go_ret
        exact ⟨congrArg Ending.returned (hB' (by omega)).out.symm, rfl⟩
    · have hke : k = zs.length := by omega
      subst hke
      have hN' := hN hok
      have hZ' := hZ hok
      clear hB hN hZ hc
      go_wp2
      · have hz : (psum zs zs.length == 0) = true := by assumption
        go_ret
        exact ⟨congrArg Ending.returned (hN' (show psum zs zs.length = 0 by simpa using hz)).out.symm, rfl⟩
      · have hz : (psum zs zs.length == 0) = false := by assumption
        go_ret
        exact ⟨congrArg Ending.returned (hZ' (show ¬ psum zs zs.length = 0 by simpa using hz)).out.symm, rfl⟩

/-- checkSet, weights that are not well. -/
theorem checkSet_w (A : Nat → Addr) (a : Option Addr) (len cap c : Nat) (set : Int) (w : World)
    (hck : Calls Tryd.prog 79 #[.slice a len cap] w fun e w' => e = .returned (ev A (c + 1)) ∧ w' = w) :
    Calls Tryd.prog 109 #[.slice a len cap, .int .i64 set] w fun e w' => e = .returned (ev A (c + 1)) ∧ w' = w := by
  have H : Hid (Calls Tryd.prog 79 #[.slice a len cap] w fun e w' => e = .returned (ev A (c + 1)) ∧ w' = w) := hck
  clear hck
  have he : ev A (c + 1) = .iface 189 (.pointer (some (A c))) := rfl
  rw [he] at H ⊢
  clear he
  go_enter Tryd.func109, Tryd.ntmps109
  go_wp2_with (go_at_call 79; refine H.out.mono ?_; rintro e w' ⟨rfl, rfl⟩)
  go_ret
  exact ⟨rfl, rfl⟩
theorem checkSet_s (A : Nat → Addr) (a : Option Addr) (len cap : Nat) (set : Int) (w : World) (hl : len ≤ 7) (hE : Held3 w A)
    (hck : Calls Tryd.prog 79 #[.slice a len cap] w fun e w' => e = .returned .nilIface ∧ w' = w) :
    Calls Tryd.prog 109 #[.slice a len cap, .int .i64 set] w fun e w' => e = .returned (ev A (if set < 0 ∨ 2 ^ len ≤ set then 2 else 0)) ∧ w' = w := by
  have H : Hid (Calls Tryd.prog 79 #[.slice a len cap] w fun e w' => e = .returned .nilIface ∧ w' = w) := hck
  have h1 : w.cell? ⟨0, 0, none⟩ = some (.iface 189 (.pointer (some (A 1)))) := hE 1 (by omega) (by omega)
  have hp := pow_le7 hl
  clear hck
  by_cases c1 : set < 0
  · rw [if_pos (Or.inl c1)]
    go_enter Tryd.func109, Tryd.ntmps109
    go_wp2_with (first | (go_at_call 79; refine H.out.mono ?_; rintro e w' ⟨rfl, rfl⟩) | (go_at_call 112; refine (everyone_any _ _ _ _ (by omega)).mono ?_; rintro e w' ⟨rfl, rfl⟩))
    go_ret
    exact ⟨rfl, rfl⟩
  · by_cases c2 : 2 ^ len ≤ set
    · rw [if_pos (Or.inr c2)]
      go_enter Tryd.func109, Tryd.ntmps109
      go_wp2_with (first | (go_at_call 79; refine H.out.mono ?_; rintro e w' ⟨rfl, rfl⟩) | (go_at_call 112; refine (everyone_any _ _ _ _ (by omega)).mono ?_; rintro e w' ⟨rfl, rfl⟩))
      go_ret
      exact ⟨rfl, rfl⟩
    · rw [if_neg (by omega)]
      go_enter Tryd.func109, Tryd.ntmps109
      go_wp2_with (first | (go_at_call 79; refine H.out.mono ?_; rintro e w' ⟨rfl, rfl⟩) | (go_at_call 112; refine (everyone_any _ _ _ _ (by omega)).mono ?_; rintro e w' ⟨rfl, rfl⟩))
      go_ret
      exact ⟨rfl, rfl⟩
end Go.Proofs.YtkopfpaldmapdaaDoor
