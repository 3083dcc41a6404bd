/-
  WALKS of package weights' small functions, each by its contract: Two, everyone, the closures of scale and quorum, Check, checkSet, Enough.
-/
import Derived.Test.YtkopfpaldmapdaaDoorZ0
import Derived.Test.YtkopfpaldmapdaaDoorPlain
import Derived.WalkKit
import Derived.WalkLawsBesides
import Derived.WalkSpells
namespace Go.Proofs.YtkopfpaldmapdaaDoor
open Go.RowKit


/-- Two(n) is 2 to the power of n. -/
theorem two_any (n : Nat) (w : World) (h : n ≤ 30) :
    Calls Tryd.prog 33 #[.int .i64 n] w fun e w' => e = .returned (.int .i64 (2 ^ n)) ∧ w' = w := by
  go_enter Tryd.func33, Tryd.ntmps33
  go_wp2
  go_loop [3, 4] (fun x i => ∃ k : Nat, k ≤ n ∧ i = .int .i64 k ∧ x = .int .i64 (2 ^ k)) (fun _ i => n - (intOf i).toNat)
  case atStart => exact ⟨0, Nat.zero_le _, rfl, rfl⟩
  case round =>
    obtain ⟨k, hk, rfl, rfl⟩ := hrel
    have hp := pow_le30 (n := k) (by omega)
    have hs : Hid ((2 : Int) ^ (k + 1) = 2 * 2 ^ k) := by unfold Hid; rw [Int.pow_succ]; omega
    by_cases hlt : k < n
    · go_wp2
      go_round
      case rel => exact ⟨k + 1, by omega, by go_num, val_int hs.out.symm⟩
      case measure => simp [intOf]; omega
    · go_wp2
      go_ret
      exact ⟨ret_int (by rw [show k = n by omega]), rfl⟩

/-- everyone(w) is 2 to the number of sites, less 1. -/
theorem everyone_any (a : Option Addr) (len cap : Nat) (w : World) (h : len ≤ 30) :
    Calls Tryd.prog 112 #[.slice a len cap] w fun e w' => e = .returned (.int .i64 (2 ^ len - 1)) ∧ w' = w := by
  have hp := pow_le30 h
  go_enter Tryd.func112, Tryd.ntmps112
  go_wp2
  go_ret
  exact ⟨ret_int (by omega), rfl⟩

/-- What scale's closure answers: what a set weighs. -/
theorem scale1_any (p : Addr) (b off cap : Nat) (zs : List Int) (set : Int) (w : World) (hl : zs.length ≤ 7) (hok : okTo zs zs.length) (h0 : 0 ≤ set) (h1 : set < 128)
    (hp : w.cell? p = some (.slice (some ⟨b, off, none⟩) zs.length cap)) (hc : ∀ i, i < zs.length → w.cell? ⟨b, off + i, none⟩ = some (.int .i64 (zs.getD i 0))) :
    Calls Tryd.prog 115 #[.int .i64 set, .pointer (some p)] w fun e w' => e = .returned (.int .i64 (sumTo zs set zs.length)) ∧ w' = w := by
  go_enter Tryd.func115, Tryd.ntmps115
  go_wp2
  go_loop [4, 9] (fun x i => ∃ k : Nat, k ≤ zs.length ∧ i = .int .i64 k ∧ x = .int .i64 (sumTo zs set k)) (fun _ i => zs.length - (intOf i).toNat)
  case atStart => exact ⟨0, Nat.zero_le _, rfl, rfl⟩
  case round =>
    obtain ⟨k, hk, rfl, rfl⟩ := hrel
    by_cases hlt : k < zs.length
    · have hck := hc k hlt
      have hbd := sumTo_bd set (k := k) (zs := zs) (fun i hi => hok i (by omega))
      have hpb := psum_bd (k := k) (zs := zs) (fun i hi => hok i (by omega))
      have hz := hok k hlt
      have hbit : Hid ((bits BinOp.and IntKind.i64 (set / 2 ^ k) 1 == 1) = bit set k) := bit_and k h0 (by omega)
      have hS : Hid (sumTo zs set (k + 1) = sumTo zs set k + if bit set k then zs.getD k 0 else 0) := rfl
      rw [getD_lt zs k hlt] at hz
      go_wp2
      all_goals
        go_round
        case rel => exact ⟨k + 1, by omega, by go_num, val_int (by rw [hS.out, ← hbit.out]; simp [*])⟩
        case measure => simp [intOf]; omega
    · go_wp2
      go_ret
      exact ⟨ret_int (by rw [show k = zs.length by omega]), rfl⟩
end Go.Proofs.YtkopfpaldmapdaaDoor
