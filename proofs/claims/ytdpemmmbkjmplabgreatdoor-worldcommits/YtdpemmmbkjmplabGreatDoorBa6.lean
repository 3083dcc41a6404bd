/-
  WALKS of package weights' small functions, each by its contract: Two, everyone, the closures of scale and quorum, Check, checkSet, Enough.
  WALKS of package weights' closures: scale, quorum, and what quorum's closure answers.
  WALKS of weights.Check, checkSet, Enough.
  THE CONTRACTS of weights.Check, checkSet, Enough, Sum at whatever slice of integers and whatever set.
  THE PROGRAM's LEAD in memory; toAll.
  THE WALK of the program's After.
  THE PROGRAM's LEAD: decide, prepare, hasEnough, see, waitsFor.
  THE PROGRAM's LEAD: waitsFor, takes.
  THE PROGRAM's LEAD: takes.
  STATES IN MEMORY: a slice of them.
  WALKS of package table: known, May, After; the search for a phase's greatest attempt (a closure over the list).
  THE WALK of table.Choose.
  THE PROGRAM's LEAD: hearVote, hearAck, hearTell.
  THE PROGRAM's LEAD: hearTell.
  THE PROGRAM's LEAD: Hear.
  WALKS of the law's own helpers: OwnInts (a slice's own copy), heavier (a closed fact).
-/
import Derived.Test.YtdpemmmbkjmplabGreatDoorBa1
import Derived.Test.YtdpemmmbkjmplabGreatDoorBa2
import Derived.WalkKit
import Derived.WalkLawsBesides
import Derived.WalkSpells
import Derived.BigQuiet
import Derived.Deep.QuietTactic
import Derived.Deep.RegionWith
import Derived.Deep.RegionHeld3
import Derived.Laws.EntriesVeiled
import Derived.Deep.Slices
import Derived.BigRegion
import Derived.RegionTactic
import Derived.Laws.AppendOwnNone
namespace Go.Proofs.YtdpemmmbkjmplabGreatDoor
open Go.RowKit


/-- Two(n) is 2 to the power of n. -/
theorem two_any (n : Nat) (w : World) (h : n ≤ 30) :
    Calls Tryz.prog 9 #[.int .i64 n] w fun e w' => e = .returned (.int .i64 (2 ^ n)) ∧ w' = w := by
  go_enter Tryz.func9, Tryz.ntmps9
  go_wp2
  go_loop [3, 4] (fun x i => ∃ k : Nat, k ≤ n ∧ i = .int .i64 k ∧ x = .int .i64 (2 ^ k)) (fun _ i => n - (intOf i).toNat)
  case atStart => exact ⟨0, Nat.zero_le _, rfl, rfl⟩
  case round =>
    obtain ⟨k, hk, rfl, rfl⟩ := hrel
    have hp := pow_le30 (n := k) (by omega)
    have hs : Hid ((2 : Int) ^ (k + 1) = 2 * 2 ^ k) := by unfold Hid; rw [Int.pow_succ]; omega
    by_cases hlt : k < n
    · go_wp2
      go_round
      case rel => exact ⟨k + 1, by omega, by go_num, val_int hs.out.symm⟩
      case measure => simp [intOf]; omega
    · go_wp2
      go_ret
      exact ⟨ret_int (by rw [show k = n by omega]), rfl⟩

/-- everyone(w) is 2 to the number of sites, less 1. -/
theorem everyone_any (a : Option Addr) (len cap : Nat) (w : World) (h : len ≤ 30) :
    Calls Tryz.prog 150 #[.slice a len cap] w fun e w' => e = .returned (.int .i64 (2 ^ len - 1)) ∧ w' = w := by
  have hp := pow_le30 h
  go_enter Tryz.func150, Tryz.ntmps150
  go_wp2
  go_ret
  exact ⟨ret_int (by omega), rfl⟩

/-- What scale's closure answers: what a set weighs. -/
theorem scale1_any (p : Addr) (b off cap : Nat) (zs : List Int) (set : Int) (w : World) (hl : zs.length ≤ 7) (hok : okTo zs zs.length) (h0 : 0 ≤ set) (h1 : set < 128)
    (hp : w.cell? p = some (.slice (some ⟨b, off, none⟩) zs.length cap)) (hc : ∀ i, i < zs.length → w.cell? ⟨b, off + i, none⟩ = some (.int .i64 (zs.getD i 0))) :
    Calls Tryz.prog 154 #[.int .i64 set, .pointer (some p)] w fun e w' => e = .returned (.int .i64 (sumTo zs set zs.length)) ∧ w' = w := by
  go_enter Tryz.func154, Tryz.ntmps154
  go_wp2
  go_loop [4, 9] (fun x i => ∃ k : Nat, k ≤ zs.length ∧ i = .int .i64 k ∧ x = .int .i64 (sumTo zs set k)) (fun _ i => zs.length - (intOf i).toNat)
  case atStart => exact ⟨0, Nat.zero_le _, rfl, rfl⟩
  case round =>
    obtain ⟨k, hk, rfl, rfl⟩ := hrel
    by_cases hlt : k < zs.length
    · have hck := hc k hlt
      have hbd := sumTo_bd set (k := k) (zs := zs) (fun i hi => hok i (by omega))
      have hpb := psum_bd (k := k) (zs := zs) (fun i hi => hok i (by omega))
      have hz := hok k hlt
      have hbit : Hid ((bits BinOp.and IntKind.i64 (set / 2 ^ k) 1 == 1) = bit set k) := bit_and k h0 (by omega)
      have hS : Hid (sumTo zs set (k + 1) = sumTo zs set k + if bit set k then zs.getD k 0 else 0) := rfl
      rw [getD_lt zs k hlt] at hz
      go_wp2
      all_goals
        go_round
        case rel => exact ⟨k + 1, by omega, by go_num, val_int (by rw [hS.out, ← hbit.out]; simp [*])⟩
        case measure => simp [intOf]; omega
    · go_wp2
      go_ret
      exact ⟨ret_int (by rw [show k = zs.length by omega]), rfl⟩
end Go.Proofs.YtdpemmmbkjmplabGreatDoor
namespace Go.Proofs.YtdpemmmbkjmplabGreatDoor
open Go.RowKit


theorem scale_any (a : Option Addr) (len cap : Nat) (w : World) :
    Calls Tryz.prog 151 #[.slice a len cap] w fun e w' => e = .returned (.func (.func 154) #[] #[.pointer (some ⟨w.heap.size, 0, none⟩)]) ∧ w' = w.alloc (.cells #[.slice a len cap] 22) := by
  have hmf : ∀ (fn : Fn) (first cap : Array Value) (w : World), (Instr.makeFunc fn first cap).run Tryz.prog w = .ok (.func fn first cap) w := fun _ _ _ _ => rfl
  go_enter Tryz.func151, Tryz.ntmps151
  go_wp2
  go_ret
  exact ⟨rfl, rfl⟩

set_option maxHeartbeats 1000000 in
theorem quorum_any (b off cap : Nat) (zs : List Int) (w : World) (hl : zs.length ≤ 7) (hok : okTo zs zs.length)
    (hc : ∀ i, i < zs.length → w.cell? ⟨b, off + i, none⟩ = some (.int .i64 (zs.getD i 0))) :
    Calls Tryz.prog 146 #[.slice (some ⟨b, off, none⟩) zs.length cap] w fun e w' => e = .returned (.func (.func 152) #[] #[.pointer (some ⟨w.heap.size + 1, 0, none⟩), .pointer (some ⟨w.heap.size + 2, 0, none⟩)]) ∧
      w' = (((w.alloc (.cells #[.slice (some ⟨b, off, none⟩) zs.length cap] 22)).alloc (.cells #[.func (.func 154) #[] #[.pointer (some ⟨w.heap.size, 0, none⟩)]] 25)).alloc (.cells #[.int .i64 (tot zs)] 3)).drew := by
  have hmf : ∀ (fn : Fn) (first cap : Array Value) (w : World), (Instr.makeFunc fn first cap).run Tryz.prog w = .ok (.func fn first cap) w := fun _ _ _ _ => rfl
  have hp := pow_le7 hl
  have hall : Hid (sumTo zs (2 ^ zs.length - 1) zs.length = tot zs) := sumTo_all zs (Nat.le_refl _)
  have hcw : ∀ (wx : World), Below w.heap.size w wx → ∀ i, i < zs.length → wx.cell? ⟨b, off + i, none⟩ = some (.int .i64 (zs.getD i 0)) := fun wx hb i hi => cell_later hb (hc i hi)
  clear hc
  go_enter Tryz.func146, Tryz.ntmps146
  go_wp2_with (go_at_call 151; refine (scale_any _ _ _ _).mono ?_; rintro e w' ⟨rfl, rfl⟩)
  go_region_held3 (fun w' => w'.cell? ⟨w.heap.size + 1, 0, none⟩ = some (.func (.func 154) #[] #[.pointer (some ⟨w.heap.size, 0, none⟩)])) (go_keep)
    (first | (go_at_call 150; refine (everyone_any _ _ _ _ (by omega)).mono ?_; rintro e w' ⟨rfl, rfl⟩) | (go_at_call 154; refine (scale1_any ⟨w.heap.size, 0, none⟩ b off cap zs _ _ hl hok (by omega) (by omega) (by first | (simp; done) | exact cell_alloc _ (by simp)) (fun i hi => hcw _ (by repeat (first | exact Below.refl _ _ | refine Below.drew ?_ | refine Below.alloc ?_ (by simp; try omega) _)) i hi)).mono ?_; rw [hall.out]; rintro e w' ⟨rfl, rfl⟩))
  all_goals go_wp2
  all_goals go_ret
  all_goals exact ⟨rfl, rfl⟩

/-- What quorum's closure answers: is a set a quorum? -/
theorem quorum1_any (p q r : Addr) (b off cap : Nat) (zs : List Int) (set : Int) (w : World) (hl : zs.length ≤ 7) (hok : okTo zs zs.length) (h0 : 0 ≤ set) (h1 : set < 128)
    (hp : w.cell? p = some (.func (.func 154) #[] #[.pointer (some r)])) (hq : w.cell? q = some (.int .i64 (tot zs)))
    (hr : w.cell? r = some (.slice (some ⟨b, off, none⟩) zs.length cap)) (hc : ∀ i, i < zs.length → w.cell? ⟨b, off + i, none⟩ = some (.int .i64 (zs.getD i 0))) :
    Calls Tryz.prog 152 #[.int .i64 set, .pointer (some p), .pointer (some q)] w fun e w' => e = .returned (.bool (enoughB zs set)) ∧ ∃ n, w' = w.drewN n := by
  have hbd := sumTo_bd set (k := zs.length) (zs := zs) hok
  have hpb := psum_bd (k := zs.length) (zs := zs) hok
  go_enter Tryz.func152, Tryz.ntmps152
  go_wp2_with fail
  go_quiet ((go_at_call 154; exact Calls.quiet_of_same (scale1_any r b off cap zs set _ hl hok h0 h1 (by simpa using hr) (fun i hi => by simpa using hc i hi))))
  go_wp2
  go_ret
  exact ⟨rfl, _, rfl⟩
end Go.Proofs.YtdpemmmbkjmplabGreatDoor
namespace Go.Proofs.YtdpemmmbkjmplabGreatDoor
open Go.RowKit

/-- The three variables of package api that weights names. -/
def gW : Nat → Nat
  | 1 => 3
  | 2 => 4
  | _ => 1
/-- The variables of package api that weights names hold their errors. -/
def Held3 (w : World) (A : Nat → Addr) : Prop := ∀ i, 1 ≤ i → i ≤ 3 → w.cell? ⟨gW i, 0, none⟩ = some (.iface 222 (.pointer (some (A i))))

theorem check_shape (A : Nat → Addr) (a : Option Addr) (len cap : Nat) (w : World) (hm : len ≤ maxLen) (h : len < 1 ∨ 7 < len) (hE : Held3 w A) :
    Calls Tryz.prog 36 #[.slice a len cap] w fun e w' => e = .returned (ev A 3) ∧ w' = w := by
  have h2 : w.cell? ⟨4, 0, none⟩ = some (.iface 222 (.pointer (some (A 2)))) := hE 2 (by omega) (by omega)
  unfold maxLen at hm
  rcases h with h | h
  · have : len = 0 := by omega
    subst this
    go_enter Tryz.func36, Tryz.ntmps36
    go_wp2
    go_ret
    exact ⟨rfl, rfl⟩
  · go_enter Tryz.func36, Tryz.ntmps36
    go_wp2
    go_ret
    exact ⟨rfl, rfl⟩

theorem check_in (A : Nat → Addr) (b off cap : Nat) (zs : List Int) (w : World) (h : ¬ (zs.length < 1 ∨ 7 < zs.length)) (hE : Held3 w A)
    (hc : ∀ i, i < zs.length → w.cell? ⟨b, off + i, none⟩ = some (.int .i64 (zs.getD i 0))) :
    Calls Tryz.prog 36 #[.slice (some ⟨b, off, none⟩) zs.length cap] w fun e w' => e = .returned (ev A (errW zs)) ∧ w' = w := by
  have h1 : w.cell? ⟨3, 0, none⟩ = some (.iface 222 (.pointer (some (A 1)))) := hE 1 (by omega) (by omega)
  have h3 : w.cell? ⟨1, 0, none⟩ = some (.iface 222 (.pointer (some (A 3)))) := hE 3 (by omega) (by omega)
  have hB : ∀ k, k < zs.length → (zs.getD k 0 < 0 ∨ 1000 < zs.getD k 0) → Hid (ev A (errW zs) = .iface 222 (.pointer (some (A 1)))) := fun k hk hb => by unfold Hid; rw [errW_bound h hk hb]; rfl
  have hN : okTo zs zs.length → tot zs = 0 → Hid (ev A (errW zs) = .iface 222 (.pointer (some (A 3)))) := fun g e => by unfold Hid; rw [errW_ok h g, if_pos e]; rfl
  have hZ : okTo zs zs.length → ¬ tot zs = 0 → Hid (ev A (errW zs) = .nilIface) := fun g e => by unfold Hid; rw [errW_ok h g, if_neg e]; rfl
  have hlo : ¬ zs.length < 1 := fun g => h (.inl g)
  have hhi : ¬ 7 < zs.length := fun g => h (.inr g)
  clear h
  go_enter Tryz.func36, Tryz.ntmps36
  go_wp2
  go_loop [3, 17] (fun x i => ∃ k : Nat, k ≤ zs.length ∧ okTo zs k ∧ i = .int .i64 k ∧ x = .int .i64 (psum zs k)) (fun _ i => zs.length - (intOf i).toNat)
  case atStart => exact ⟨0, Nat.zero_le _, fun i hi => absurd hi (by omega), rfl, rfl⟩
  case round =>
    obtain ⟨k, hk, hok, rfl, rfl⟩ := hrel
    have hpb := psum_bd hok
    by_cases hlt : k < zs.length
    · have hck := hc k hlt
      have hB' := hB k hlt
      have hS : Hid (psum zs (k + 1) = psum zs k + zs.getD k 0) := rfl
      have hO : 0 ≤ zs.getD k 0 → zs.getD k 0 ≤ 1000 → okTo zs (k + 1) := okTo_succ hok
      clear hB hN hZ hc
      rw [getD_lt zs k hlt] at hB' hO hck
      go_wp2
      · go_ret
        exact ⟨congrArg Ending.returned (hB' (by omega)).out.symm, rfl⟩
      · go_round
        case rel => exact ⟨k + 1, by omega, hO (by omega) (by omega), by go_num, val_int (by rw [hS.out, getD_lt zs k hlt])⟩
        case measure => simp [intOf]; omega
      · go_ret
        exact ⟨congrArg Ending.returned (hB' (by omega)).out.symm, rfl⟩
    · have hke : k = zs.length := by omega
      subst hke
      have hN' := hN hok
      have hZ' := hZ hok
      clear hB hN hZ hc
      go_wp2
      · have hz : (psum zs zs.length == 0) = true := by assumption
        go_ret
        exact ⟨congrArg Ending.returned (hN' (show psum zs zs.length = 0 by simpa using hz)).out.symm, rfl⟩
      · have hz : (psum zs zs.length == 0) = false := by assumption
        go_ret
        exact ⟨congrArg Ending.returned (hZ' (show ¬ psum zs zs.length = 0 by simpa using hz)).out.symm, rfl⟩

/-- checkSet, weights that are not well. -/
theorem checkSet_w (A : Nat → Addr) (a : Option Addr) (len cap c : Nat) (set : Int) (w : World)
    (hck : Calls Tryz.prog 36 #[.slice a len cap] w fun e w' => e = .returned (ev A (c + 1)) ∧ w' = w) :
    Calls Tryz.prog 145 #[.slice a len cap, .int .i64 set] w fun e w' => e = .returned (ev A (c + 1)) ∧ w' = w := by
  have H : Hid (Calls Tryz.prog 36 #[.slice a len cap] w fun e w' => e = .returned (ev A (c + 1)) ∧ w' = w) := hck
  clear hck
  have he : ev A (c + 1) = .iface 222 (.pointer (some (A c))) := rfl
  rw [he] at H ⊢
  clear he
  go_enter Tryz.func145, Tryz.ntmps145
  go_wp2_with (go_at_call 36; refine H.out.mono ?_; rintro e w' ⟨rfl, rfl⟩)
  go_ret
  exact ⟨rfl, rfl⟩
theorem checkSet_s (A : Nat → Addr) (a : Option Addr) (len cap : Nat) (set : Int) (w : World) (hl : len ≤ 7) (hE : Held3 w A)
    (hck : Calls Tryz.prog 36 #[.slice a len cap] w fun e w' => e = .returned .nilIface ∧ w' = w) :
    Calls Tryz.prog 145 #[.slice a len cap, .int .i64 set] w fun e w' => e = .returned (ev A (if set < 0 ∨ 2 ^ len ≤ set then 2 else 0)) ∧ w' = w := by
  have H : Hid (Calls Tryz.prog 36 #[.slice a len cap] w fun e w' => e = .returned .nilIface ∧ w' = w) := hck
  have h1 : w.cell? ⟨3, 0, none⟩ = some (.iface 222 (.pointer (some (A 1)))) := hE 1 (by omega) (by omega)
  have hp := pow_le7 hl
  clear hck
  by_cases c1 : set < 0
  · rw [if_pos (Or.inl c1)]
    go_enter Tryz.func145, Tryz.ntmps145
    go_wp2_with (first | (go_at_call 36; refine H.out.mono ?_; rintro e w' ⟨rfl, rfl⟩) | (go_at_call 150; refine (everyone_any _ _ _ _ (by omega)).mono ?_; rintro e w' ⟨rfl, rfl⟩))
    go_ret
    exact ⟨rfl, rfl⟩
  · by_cases c2 : 2 ^ len ≤ set
    · rw [if_pos (Or.inr c2)]
      go_enter Tryz.func145, Tryz.ntmps145
      go_wp2_with (first | (go_at_call 36; refine H.out.mono ?_; rintro e w' ⟨rfl, rfl⟩) | (go_at_call 150; refine (everyone_any _ _ _ _ (by omega)).mono ?_; rintro e w' ⟨rfl, rfl⟩))
      go_ret
      exact ⟨rfl, rfl⟩
    · rw [if_neg (by omega)]
      go_enter Tryz.func145, Tryz.ntmps145
      go_wp2_with (first | (go_at_call 36; refine H.out.mono ?_; rintro e w' ⟨rfl, rfl⟩) | (go_at_call 150; refine (everyone_any _ _ _ _ (by omega)).mono ?_; rintro e w' ⟨rfl, rfl⟩))
      go_ret
      exact ⟨rfl, rfl⟩
end Go.Proofs.YtdpemmmbkjmplabGreatDoor
namespace Go.Proofs.YtdpemmmbkjmplabGreatDoor
open Go.RowKit

/-- A slice value whose elements are zs. -/
def IsSl (w : World) (v : Value) (zs : List Int) : Prop :=
  ∃ a cap, v = .slice a zs.length cap ∧ zs.length ≤ maxLen ∧ (a = none → cap = 0) ∧ (0 < zs.length → ∃ b off, a = some ⟨b, off, none⟩ ∧ ∀ i, i < zs.length → w.cell? ⟨b, off + i, none⟩ = some (.int .i64 (zs.getD i 0)))
theorem IsSl.later {w w' : World} {v : Value} {zs : List Int} (h : IsSl w v zs) (hb : Below w.heap.size w w') : IsSl w' v zs := by
  obtain ⟨a, cap, hv, hm, hn, hc⟩ := h
  refine ⟨a, cap, hv, hm, hn, fun hl => ?_⟩
  obtain ⟨b, off, ha, hcc⟩ := hc hl
  exact ⟨b, off, ha, fun i hi => cell_later hb (hcc i hi)⟩
theorem Held3.later {w w' : World} {A : Nat → Addr} (h : Held3 w A) (hb : Below w.heap.size w w') : Held3 w' A := fun i h1 h3 => cell_later hb (h i h1 h3)

theorem check_any (A : Nat → Addr) (v : Value) (zs : List Int) (w : World) (hv : IsSl w v zs) (hE : Held3 w A) :
    Calls Tryz.prog 36 #[v] w fun e w' => e = .returned (ev A (errW zs)) ∧ w' = w := by
  obtain ⟨a, cap, rfl, hm, -, hc⟩ := hv
  by_cases h : zs.length < 1 ∨ 7 < zs.length
  · rw [errW_shape h]; exact check_shape A a zs.length cap w hm h hE
  · obtain ⟨b, off, rfl, hcc⟩ := hc (by omega)
    exact check_in A b off cap zs w h hE hcc
theorem checkSet_any (A : Nat → Addr) (v : Value) (zs : List Int) (set : Int) (w : World) (hv : IsSl w v zs) (hE : Held3 w A) :
    Calls Tryz.prog 145 #[v, .int .i64 set] w fun e w' => e = .returned (ev A (errS zs set)) ∧ w' = w := by
  have hck := check_any A v zs w hv hE
  obtain ⟨a, cap, rfl, hm, -, hc⟩ := hv
  by_cases h : errW zs = 0
  · rw [h] at hck
    have := checkSet_s A a zs.length cap set w (errW_zero h).2.1 hE hck
    unfold errS; rw [if_pos h]; exact this
  · obtain ⟨c, hcc⟩ : ∃ c, errW zs = c + 1 := ⟨errW zs - 1, by omega⟩
    unfold errS; rw [if_neg h, hcc]; rw [hcc] at hck
    exact checkSet_w A a zs.length cap c set w hck

/-- What quorum's closure has captured: in world w, at the addresses p (scale's closure, over the weights' own box at r) and q (what all weigh). -/
def QF (w : World) (p q : Addr) (zs : List Int) : Prop :=
  ∃ (r : Addr) (b off cap : Nat), w.cell? p = some (.func (.func 154) #[] #[.pointer (some r)]) ∧ w.cell? q = some (.int .i64 (tot zs)) ∧ w.cell? r = some (.slice (some ⟨b, off, none⟩) zs.length cap) ∧
    ∀ i, i < zs.length → w.cell? ⟨b, off + i, none⟩ = some (.int .i64 (zs.getD i 0))
theorem QF.later {w w' : World} {p q : Addr} {zs : List Int} (h : QF w p q zs) (hb : Below w.heap.size w w') : QF w' p q zs := by
  obtain ⟨r, b, off, cap, h1, h2, h3, h4⟩ := h
  exact ⟨r, b, off, cap, cell_later hb h1, cell_later hb h2, cell_later hb h3, fun i hi => cell_later hb (h4 i hi)⟩
theorem quorum_q (b off cap : Nat) (zs : List Int) (w : World) (hl : zs.length ≤ 7) (hok : okTo zs zs.length)
    (hc : ∀ i, i < zs.length → w.cell? ⟨b, off + i, none⟩ = some (.int .i64 (zs.getD i 0))) :
    Calls Tryz.prog 146 #[.slice (some ⟨b, off, none⟩) zs.length cap] w fun e w' => ∃ p q : Addr, e = .returned (.func (.func 152) #[] #[.pointer (some p), .pointer (some q)]) ∧ QF w' p q zs ∧ Below w.heap.size w w' := by
  refine (quorum_any b off cap zs w hl hok hc).mono ?_
  rintro e w' ⟨rfl, rfl⟩
  have hb : Below w.heap.size w (((w.alloc (.cells #[.slice (some ⟨b, off, none⟩) zs.length cap] 22)).alloc (.cells #[.func (.func 154) #[] #[.pointer (some ⟨w.heap.size, 0, none⟩)]] 25)).alloc (.cells #[.int .i64 (tot zs)] 3)).drew :=
    ((((Below.refl _ _).alloc (Nat.le_refl _) _).alloc (by simp) _).alloc (by simp; omega) _).drew
  refine ⟨_, _, rfl, ⟨⟨w.heap.size, 0, none⟩, b, off, cap, ?_, ?_, ?_, fun i hi => cell_later hb (hc i hi)⟩, hb⟩
  · simp only [World.cell?_drew]; exact cell_alloc _ (by simp)
  · simp only [World.cell?_drew]; rw [World.cell?_alloc_at _ _ _ _ (by simp)]; rfl
  · simp only [World.cell?_drew]; exact cell_alloc _ (cell_alloc _ (by simp))
theorem quorum1_q (p q : Addr) (zs : List Int) (set : Int) (w : World) (hl : zs.length ≤ 7) (hok : okTo zs zs.length) (h0 : 0 ≤ set) (h1 : set < 128) (hq : QF w p q zs) :
    Calls Tryz.prog 152 #[.int .i64 set, .pointer (some p), .pointer (some q)] w fun e w' => e = .returned (.bool (enoughB zs set)) ∧ Below w.heap.size w w' := by
  obtain ⟨r, b, off, cap, g1, g2, g3, g4⟩ := hq
  refine (quorum1_any p q r b off cap zs set w hl hok h0 h1 g1 g2 g3 g4).mono ?_
  rintro e w' ⟨rfl, n, rfl⟩
  exact ⟨rfl, below_drewN (Below.refl _ _) n⟩

/-- Enough, a set or weights that are not well: false and the error. -/
theorem enough_bad (A : Nat → Addr) (v : Value) (zs : List Int) (set : Int) (c : Nat) (w : World) (hv : IsSl w v zs) (hE : Held3 w A) (hc : errS zs set = c + 1) :
    Calls Tryz.prog 132 #[v, .int .i64 set] w fun e w' => e = .returned (.tuple #[.bool false, .iface 222 (.pointer (some (A c)))]) ∧ w' = w := by
  have hck := checkSet_any A v zs set w hv hE
  rw [hc] at hck
  have H : Hid (Calls Tryz.prog 145 #[v, .int .i64 set] w fun e w' => e = .returned (.iface 222 (.pointer (some (A c)))) ∧ w' = w) := hck
  clear hck hE hc
  obtain ⟨a, cap, rfl, -, -, -⟩ := hv
  go_enter Tryz.func132, Tryz.ntmps132
  go_wp2_with (go_at_call 145; refine H.out.mono ?_; rintro e w' ⟨rfl, rfl⟩)
  go_ret2
  exact ⟨rfl, rfl⟩
/-- Enough, all well. -/
theorem enough_ok (A : Nat → Addr) (v : Value) (zs : List Int) (set : Int) (w : World) (hv : IsSl w v zs) (hE : Held3 w A) (hc : errS zs set = 0) :
    Calls Tryz.prog 132 #[v, .int .i64 set] w fun e w' => e = .returned (.tuple #[.bool (enoughB zs set), .nilIface]) ∧ Below w.heap.size w w' := by
  have hck := checkSet_any A v zs set w hv hE
  rw [hc] at hck
  have H : Hid (Calls Tryz.prog 145 #[v, .int .i64 set] w fun e w' => e = .returned .nilIface ∧ w' = w) := hck
  obtain ⟨h1, h2, h3⟩ := errS_zero hc
  obtain ⟨h4, h5, h6, -⟩ := errW_zero h1
  have hp := pow_le7 h5
  clear hck hE hc
  obtain ⟨a, cap, rfl, -, -, hcc⟩ := hv
  obtain ⟨b, off, rfl, hcell⟩ := hcc (by omega)
  clear hcc
  have HC := hid hcell
  clear hcell h1
  go_enter Tryz.func132, Tryz.ntmps132
  go_wp2_with (first | (go_at_call 145; refine H.out.mono ?_; rintro e w' ⟨rfl, rfl⟩) | (go_at_call 146; refine (quorum_q b off cap zs _ h5 h6 HC.out).mono ?_; rintro e w1 ⟨p, q, rfl, hQ, hb⟩) | (go_at_call 152; refine (quorum1_q p q zs set _ h5 h6 h2 (by omega) hQ).mono ?_; rintro e w2 ⟨rfl, hb2⟩))
  go_ret2
  exact ⟨rfl, hb.trans (hb2.mono hb.size)⟩
end Go.Proofs.YtdpemmmbkjmplabGreatDoor
namespace Go.Proofs.YtdpemmmbkjmplabGreatDoor
open Go.RowKit

def toldC (L : List S3) : List Value := L.flatMap fun s => [.int .i64 s.p, .int .i64 s.r, .int .i64 s.a]
def pC (id : Nat) (deal att : Int) (vw : Value) (P : PL) : List Value :=
  .int .i64 id :: .int .i64 deal :: .int .i64 att :: vw :: .string (stP P.stt) :: .int .i64 P.ans :: (toldC P.told ++ [.int .i64 P.prep, .int .i64 P.seen, .bool P.has])
theorem seven {L : List S3} (h : L.length = 7) : ∃ a b c d e f g, L = [a, b, c, d, e, f, g] := by
  match L, h with
  | [a, b, c, d, e, f, g], _ => exact ⟨a, b, c, d, e, f, g, rfl⟩
/-- A lead in memory: its row; its weights, in a block of their own. -/
structure LD (w : World) (lb b cap id : Nat) (deal att : Int) (zs : List Int) (P : PL) : Prop where
  row : w.heap[lb]? = some (.cells (pC id deal att (.slice (some ⟨b, 0, none⟩) zs.length cap) P).toArray 145 (0, 0))
  ws : ∀ i, i < zs.length → w.cell? ⟨b, 0 + i, none⟩ = some (.int .i64 (zs.getD i 0))
  bl : b < lb
  pw : PW zs.length P
  glo : ∀ j, gW j < lb
section
variable {w w' : World} {lb b cap id : Nat} {deal att : Int} {zs : List Int} {P : PL}
theorem LD.kept {S : Nat → Prop} (h : LD w lb b cap id deal att zs P) (k : Kept S w w') (h1 : ¬ S lb) (h2 : ¬ S b) : LD w' lb b cap id deal att zs P :=
  ⟨k.row h.row h1, fun i hi => by
    have := h.ws i hi
    have hb : b < w.heap.size := cell_lt this
    unfold World.cell? at this ⊢
    rw [show w'.heap[(⟨b, 0 + i, none⟩ : Addr).block]? = w.heap[(⟨b, 0 + i, none⟩ : Addr).block]? from k.block b hb h2]
    exact this, h.bl, h.pw, h.glo⟩
theorem LD.later (h : LD w lb b cap id deal att zs P) (hb : Below w.heap.size w w') : LD w' lb b cap id deal att zs P :=
  h.kept (S := fun _ => False) (Kept.of_below hb) (fun x => x) (fun x => x)
theorem LD.sl (h : LD w lb b cap id deal att zs P) (hm : zs.length ≤ 7) : IsSl w (.slice (some ⟨b, 0, none⟩) zs.length cap) zs :=
  ⟨_, cap, rfl, by unfold maxLen; omega, (fun x => by cases x), fun _ => ⟨b, 0, rfl, h.ws⟩⟩
theorem LD.cells (h : LD w lb b cap id deal att zs P) :
    w.cell? ⟨lb, 0, none⟩ = some (.int .i64 (id : Int)) ∧ w.cell? ⟨lb, 1, none⟩ = some (.int .i64 deal) ∧ w.cell? ⟨lb, 2, none⟩ = some (.int .i64 att) ∧ w.cell? ⟨lb, 3, none⟩ = some (.slice (some ⟨b, 0, none⟩) zs.length cap) ∧
    w.cell? ⟨lb, 4, none⟩ = some (.string (stP P.stt)) ∧ w.cell? ⟨lb, 5, none⟩ = some (.int .i64 P.ans) ∧ w.cell? ⟨lb, 27, none⟩ = some (.int .i64 P.prep) ∧ w.cell? ⟨lb, 28, none⟩ = some (.int .i64 P.seen) ∧ w.cell? ⟨lb, 29, none⟩ = some (.bool P.has) := by
  have hr := h.row
  obtain ⟨t0, t1, t2, t3, t4, t5, t6, e⟩ := seven h.pw.len
  unfold pC at hr
  rw [e] at hr
  refine ⟨?_, ?_, ?_, ?_, ?_, ?_, ?_, ?_, ?_⟩ <;> rw [cell_of_row _ _ _ _ _ _ hr] <;> rfl
theorem LD.fz (h : LD w lb b cap id deal att zs P) (i : Nat) : w.frozen? ⟨lb, i, none⟩ = false := by
  first
    | exact frozen_of_row h.row
    | (unfold World.frozen?; simp [h.row])
/-- A cell of the row is written. -/
theorem LD.set {Q : PL} {i : Nat} {v : Value} (h : LD w lb b cap id deal att zs P) (hq : PW zs.length Q)
    (e : (pC id deal att (.slice (some ⟨b, 0, none⟩) zs.length cap) P).set i v = pC id deal att (.slice (some ⟨b, 0, none⟩) zs.length cap) Q) : LD (w.setCell ⟨lb, i, none⟩ v) lb b cap id deal att zs Q :=
  ⟨by rw [heap_setCell_same w lb i _ _ _ h.row, List.setIfInBounds_toArray, e], fun j hj => by
    have := h.ws j hj
    have hb := h.bl
    unfold World.cell? at this ⊢
    rw [show (w.setCell ⟨lb, i, none⟩ v).heap[(⟨b, 0 + j, none⟩ : Addr).block]? = w.heap[(⟨b, 0 + j, none⟩ : Addr).block]? from heap_setCell_other _ _ _ _ (by show b ≠ lb; omega)]
    exact this, h.bl, hq, h.glo⟩
theorem LD.setSt (h : LD w lb b cap id deal att zs P) (k : Nat) : LD (w.setCell ⟨lb, 4, none⟩ (.string (stP k))) lb b cap id deal att zs { P with stt := k } :=
  h.set ⟨h.pw.len, h.pw.lo, h.pw.hi⟩ rfl
theorem LD.setAns (h : LD w lb b cap id deal att zs P) (x : Int) (h0 : 0 ≤ x) (h1 : x < 2 ^ zs.length) : LD (w.setCell ⟨lb, 5, none⟩ (.int .i64 x)) lb b cap id deal att zs { P with ans := x } :=
  h.set ⟨h.pw.len, h0, h1⟩ rfl
theorem LD.setPrep (h : LD w lb b cap id deal att zs P) (x : Int) : LD (w.setCell ⟨lb, 27, none⟩ (.int .i64 x)) lb b cap id deal att zs { P with prep := x } := by
  obtain ⟨t0, t1, t2, t3, t4, t5, t6, e⟩ := seven h.pw.len
  exact h.set ⟨h.pw.len, h.pw.lo, h.pw.hi⟩ (by unfold pC; simp only [e]; rfl)
theorem LD.setSeen (h : LD w lb b cap id deal att zs P) (x : Int) : LD (w.setCell ⟨lb, 28, none⟩ (.int .i64 x)) lb b cap id deal att zs { P with seen := x } := by
  obtain ⟨t0, t1, t2, t3, t4, t5, t6, e⟩ := seven h.pw.len
  exact h.set ⟨h.pw.len, h.pw.lo, h.pw.hi⟩ (by unfold pC; simp only [e]; rfl)
theorem LD.setHas (h : LD w lb b cap id deal att zs P) (x : Bool) : LD (w.setCell ⟨lb, 29, none⟩ (.bool x)) lb b cap id deal att zs { P with has := x } := by
  obtain ⟨t0, t1, t2, t3, t4, t5, t6, e⟩ := seven h.pw.len
  exact h.set ⟨h.pw.len, h.pw.lo, h.pw.hi⟩ (by unfold pC; simp only [e]; rfl)
end
/-- Frames in memory that a call made: its blocks are new ones. -/
def FrB (base : Nat) (w : World) (v : Value) (L : List F9) : Prop := ∃ ad cap, v = .slice ad L.length cap ∧ FL w ad L ∧ ∀ p, ad = some p → base ≤ p.block
theorem FrB.fr {base : Nat} {w : World} {v : Value} {L : List F9} (h : FrB base w v L) : IsFr w v L := by
  obtain ⟨ad, cap, e, hf, -⟩ := h
  exact ⟨ad, cap, e, hf⟩
theorem FrB.mono {base B : Nat} {w : World} {v : Value} {L : List F9} (h : FrB base w v L) (hb : B ≤ base) : FrB B w v L := by
  obtain ⟨ad, cap, e, hf, hg⟩ := h
  exact ⟨ad, cap, e, hf, fun p hp => Nat.le_trans hb (hg p hp)⟩
theorem FrB.zero (base : Nat) (w : World) : FrB base w (.slice none 0 0) [] := ⟨none, 0, rfl, FL.nil _ _, fun p hp => by cases hp⟩
theorem FrB.owned {w : World} {base : Nat} {v : Value} {L : List F9} (h : w.ownsRow base 93 9 v L.length (frCells L)) : FrB base w v L := by
  obtain ⟨ad, cap, e, hf⟩ := IsFr.owned h
  subst e
  refine ⟨ad, cap, rfl, hf, fun p hp => ?_⟩
  subst hp
  rcases h.2 with ⟨hx, -⟩ | ⟨g, cap', cur, hx, hb, -⟩
  · cases hx
  · cases hx
    exact hb
theorem FrB.kept {S : Nat → Prop} {base : Nat} {w w' : World} {v : Value} {L : List F9} (h : FrB base w v L) (k : Kept S w w') (hS : ∀ i, S i → i < base) : FrB base w' v L := by
  obtain ⟨ad, cap, e, hf, hg⟩ := h
  refine ⟨ad, cap, e, fun i hi => ?_, hg⟩
  obtain ⟨b, off, ha, hc⟩ := hf i hi
  refine ⟨b, off, ha, fun j hj => ?_⟩
  have h2 := hc j hj
  have h3 : (f9L (L[i]'hi))[j]? = some ((f9L (L[i]'hi))[j]'(by rw [f9L_length]; exact hj)) := List.getElem?_eq_getElem _
  rw [h3] at h2 ⊢
  have hb : b < w.heap.size := cell_lt h2
  have hgb : base ≤ b := hg _ ha
  unfold World.cell? at h2 ⊢
  rw [show w'.heap[(⟨b, off + i * 9 + j, none⟩ : Addr).block]? = w.heap[(⟨b, off + i * 9 + j, none⟩ : Addr).block]? from k.block b hb (fun hs => by have := hS b hs; omega)]
  exact h2
theorem Tryz.infoFq : (Tryz.prog.info? 93).map (fun i => (i.zero, i.size, i.bytes)) = some (some (frV 0 0 0 0 0 false 0 0 0), 9, 72) := by kernel_rfl
theorem lit_cellsQ (w : World) (t : TypeId) (L : List Value) : ∀ j u, L[j]? = some u → (w.alloc (.cells L.toArray t)).cell? ((⟨w.heap.size, 0, none⟩ : Addr).add j) = some u := by
  intro j u h
  rw [addr_add, cell_of_row _ _ _ _ _ _ (heap_alloc_new w _), List.getElem?_toArray, Nat.zero_add]
  exact h
theorem f9_oneQ (x : F9) : ∀ u ∈ f9L x, u.oneCell' = true := by
  intro u hu
  simp [f9L] at hu
  rcases hu with rfl | rfl | rfl | rfl | rfl | rfl | rfl | rfl | rfl <;> rfl
set_option maxHeartbeats 4000000 in
set_option maxRecDepth 100000 in
theorem ldtoAll_own (lb b cap id : Nat) (deal att : Int) (zs : List Int) (P : PL) (kind ph : Int) (w : World) (h : LD w lb b cap id deal att zs P) (hn : zs.length ≤ 7) :
    Calls Tryz.prog 79 #[.pointer (some ⟨lb, 0, none⟩), .int .i64 kind, .int .i64 ph] w fun e w' => ∃ v, e = .returned v ∧ w'.ownsRow w.heap.size 93 9 v (toL id deal kind att ph zs.length).length (frCells (toL id deal kind att ph zs.length)) ∧ Below w.heap.size w w' := by
  obtain ⟨i0, hi, hz0, hz1, hz2⟩ := info_parts Tryz.infoFq
  have H := hid h
  obtain ⟨c0, c1, c2, c3, -, -, -, -, -⟩ := h.cells
  clear h
  obtain ⟨n, HN⟩ : ∃ n, Hid (zs.length = n) := ⟨_, rfl⟩
  rw [HN.out] at c3 hn ⊢
  obtain ⟨L, HL⟩ : ∃ L, Hid (toL id deal kind att ph = L) := ⟨_, rfl⟩
  rw [HL.out]
  have HLE : Hid (∀ k, (L k).length = k) := by rw [← HL.out]; exact toL_length _ _ _ _ _
  have H0 : Hid (L 0 = []) := by rw [← HL.out]; rfl
  go_enter Tryz.func79, Tryz.ntmps79
  go_wp2_with fail
  clear c0 c1 c2 c3
  go_loopw [7, 14] (fun v i wr => ∃ k : Nat, k ≤ n ∧ i = .int .i64 (k : Int) ∧ wr.ownsRow w.heap.size 93 9 v (L k).length (frCells (L k)) ∧ Below w.heap.size w wr) (fun _ i _ => n - (intOf i).toNat)
  case atStart => exact ⟨0, Nat.zero_le _, rfl, by rw [H0.out]; exact World.ownsRow_nil _ _ _ _, Below.refl _ _⟩
  case round =>
    obtain ⟨k, hk, rfl, hown, hb⟩ := hrel
    have HO := hid hown
    have HB := hid hb
    obtain ⟨c0, c1, c2, c3, -, -, -, -, -⟩ := (H.out.later hb).cells
    have hlb : lb < wr.heap.size := row_ltJ (H.out.later hb).row
    have hle := Nat.le_of_eq (HLE.out k)
    clear hown hb
    by_cases hlt : k < n
    · have HS : Hid (L (k + 1) = L k ++ [⟨id, k, deal, kind, att, false, ph, 0, 0⟩]) := by rw [← HL.out]; rfl
      have HS2 : Hid ((L (k + 1)).length = (L k).length + 1 ∧ frCells (L (k + 1)) = frCells (L k) ++ f9L ⟨id, k, deal, kind, att, false, ph, 0, 0⟩) := by
        rw [HS.out]
        exact ⟨by simp, by rw [frCells_append]; rfl⟩
      have HZ := World.ownsRow.alloc HO.out
      have hws := HB.out.size
      go_wp2_with fail
      go_region_law ((refine step_append_lies _ (by rfl) _ _ _ (by rfl) w.heap.size 93 i0 (frV 0 0 0 0 0 false 0 0 0) 9 72 Tryz.underlying34 hi hz0 hz1 hz2 (by rfl) (by decide) _ (L k).length (frCells (L k)) (by rfl) (by exact HZ _) ⟨wr.heap.size, 0, none⟩ 1 1 (f9L ⟨id, k, deal, kind, att, false, ph, 0, 0⟩) (by rfl) (by rfl) (by exact lit_cellsQ wr 93 (f9L ⟨id, k, deal, kind, att, false, ph, 0, 0⟩)) (by exact f9_oneQ _) (by decide) (by unfold maxLen; omega) (by omega) (by exact Nat.le_trans hws (by simp)) (wr.heap.size + 1) (by simp) ?_; intro g5 c5 w5 hown5 hg5 hat5 hlt5; have HQ5 := hid (And.intro (show w5.ownsRow w.heap.size 93 9 (.slice (some ⟨g5, 0, none⟩) ((L k).length + 1) c5) (L (k + 1)).length (frCells (L (k + 1))) by rw [HS2.out.1, HS2.out.2]; exact hown5) ((HB.out.alloc HB.out.size (.cells (f9L ⟨id, k, deal, kind, att, false, ph, 0, 0⟩).toArray 93)).drew.grown hg5 (by simp; omega) (fun j hj => (HO.out.lt j hj).1))); clear hown5 hg5 hat5))
      all_goals go_wp2_with fail
      all_goals go_roundw
      all_goals first | exact ⟨k + 1, by omega, by go_num, HQ5.out.1, HQ5.out.2⟩ | exact ⟨k + 1, by omega, by go_num, HQ5.out.1, HQ5.out.2.drew⟩ | (simp [intOf]; omega)
    · obtain rfl : k = n := by omega
      go_wp2_with fail
      go_ret
      exact ⟨_, rfl, HO.out, HB.out⟩
theorem ldtoAll_any (lb b cap id : Nat) (deal att : Int) (zs : List Int) (P : PL) (kind ph : Int) (w : World) (h : LD w lb b cap id deal att zs P) (hn : zs.length ≤ 7) :
    Calls Tryz.prog 79 #[.pointer (some ⟨lb, 0, none⟩), .int .i64 kind, .int .i64 ph] w fun e w' => ∃ v, e = .returned v ∧ FrB w.heap.size w' v (toL id deal kind att ph zs.length) ∧ Below w.heap.size w w' := by
  refine (ldtoAll_own lb b cap id deal att zs P kind ph w h hn).mono ?_
  rintro e w' ⟨v, h1, h2, h3⟩
  exact ⟨v, h1, FrB.owned h2, h3⟩
end Go.Proofs.YtdpemmmbkjmplabGreatDoor
namespace Go.Proofs.YtdpemmmbkjmplabGreatDoor
open Go.RowKit

theorem tafter_any (a : Int) (w : World) : Calls Tryz.prog 122 #[.int .i64 a] w fun e w' => e = .returned (.int .i64 (afterI a)) ∧ w' = w := by
  unfold afterI
  by_cases h4 : a = 4
  · subst h4
    go_enter Tryz.func122, Tryz.ntmps122
    go_wp2
    go_ret
    exact ⟨rfl, rfl⟩
  · rw [if_neg h4]
    by_cases h5 : a = 5
    · subst h5
      go_enter Tryz.func122, Tryz.ntmps122
      go_wp2
      go_ret
      exact ⟨rfl, rfl⟩
    · rw [if_neg h5]
      go_enter Tryz.func122, Tryz.ntmps122
      go_wp2
      go_ret
      exact ⟨rfl, rfl⟩
end Go.Proofs.YtdpemmmbkjmplabGreatDoor
namespace Go.Proofs.YtdpemmmbkjmplabGreatDoor
open Go.RowKit

theorem gW_lt {w : World} {A : Nat → Addr} (h : Held3 w A) (i : Nat) : gW i < w.heap.size := by
  match i with
  | 0 => exact cell_lt (h 3 (by omega) (by omega))
  | 1 => exact cell_lt (h 1 (by omega) (by omega))
  | 2 => exact cell_lt (h 2 (by omega) (by omega))
  | n + 3 => exact cell_lt (h 3 (by omega) (by omega))
theorem Held3.kept {S : Nat → Prop} {w w' : World} {A : Nat → Addr} (h : Held3 w A) (k : Kept S w w') (hS : ∀ i, S i → ∀ j, gW j < i) : Held3 w' A := fun i h1 h3 => by
  have := h i h1 h3
  have hb : gW i < w.heap.size := cell_lt this
  unfold World.cell? at this ⊢
  rw [show w'.heap[(⟨gW i, 0, none⟩ : Addr).block]? = w.heap[(⟨gW i, 0, none⟩ : Addr).block]? from k.block _ hb (fun hs => Nat.lt_irrefl _ (hS (gW i) hs i))]
  exact this
section
variable {w : World} {lb b cap id : Nat} {deal att : Int} {zs : List Int} {P : PL}
set_option maxRecDepth 100000 in
theorem lddecide_any (p : Int) (h : LD w lb b cap id deal att zs P) (hn : zs.length ≤ 7) :
    Calls Tryz.prog 118 #[.pointer (some ⟨lb, 0, none⟩), .int .i64 p] w fun e w' => ∃ v, e = .returned v ∧ FrB w.heap.size w' v (outL id deal att zs.length (decP P p).2) ∧ LD w' lb b cap id deal att zs (decP P p).1 ∧ Kept (In1 lb) w w' := by
  have z4 := h.fz 4
  have c4 := h.cells.2.2.2.2.1
  have HX := hid (h.setSt 2)
  have HK : Hid (Kept (In1 lb) w (w.setCell ⟨lb, 4, none⟩ (.string (stP 2)))) := (Kept.refl _ _).set1 4 _
  have hlb : lb < w.heap.size := row_ltJ h.row
  clear h
  rw [stP2] at HX HK
  go_enter Tryz.func118, Tryz.ntmps118
  go_wp2_with fail
  refine (ldtoAll_any lb b cap id deal att zs _ 7 p _ HX.out hn).mono ?_
  rintro e w1 ⟨v, rfl, ho, hb⟩
  have HV := hid (ho.mono HK.out.size)
  have HR := hid (HX.out.later hb)
  have HK2 := hid (HK.out.trans (Kept.of_below hb))
  clear ho hb
  go_wp2_with fail
  go_ret
  exact ⟨_, rfl, HV.out, HR.out, HK2.out⟩
set_option maxRecDepth 100000 in
theorem ldprepare_any (p : Int) (h : LD w lb b cap id deal att zs P) (hn : zs.length ≤ 7) :
    Calls Tryz.prog 119 #[.pointer (some ⟨lb, 0, none⟩), .int .i64 p] w fun e w' => ∃ v, e = .returned v ∧ FrB w.heap.size w' v (outL id deal att zs.length (preP P p).2) ∧ LD w' lb b cap id deal att zs (preP P p).1 ∧ Kept (In1 lb) w w' := by
  have z4 := h.fz 4
  have z5 := h.fz 5
  have z27 := h.fz 27
  obtain ⟨c0, c1, c2, c3, c4, c5, c27, c28, c29⟩ := h.cells
  have HX := hid (((h.setSt 1).setPrep p).setAns 0 (Int.le_refl _) (Int.pow_pos (by decide)))
  have HK : Hid (Kept (In1 lb) w (((w.setCell ⟨lb, 4, none⟩ (.string (stP 1))).setCell ⟨lb, 27, none⟩ (.int .i64 p)).setCell ⟨lb, 5, none⟩ (.int .i64 0))) := (((Kept.refl _ _).set1 4 _).set1 27 _).set1 5 _
  have hlb : lb < w.heap.size := row_ltJ h.row
  clear h
  rw [stP1] at HX HK
  go_enter Tryz.func119, Tryz.ntmps119
  go_wp2_with fail
  refine (ldtoAll_any lb b cap id deal att zs _ 5 p _ HX.out hn).mono ?_
  rintro e w1 ⟨v, rfl, ho, hb⟩
  have HV := hid (ho.mono HK.out.size)
  have HR := hid (HX.out.later hb)
  have HK2 := hid (HK.out.trans (Kept.of_below hb))
  clear ho hb
  go_wp2_with fail
  go_ret
  exact ⟨_, rfl, HV.out, HR.out, HK2.out⟩
theorem enough_ok_is (A : Nat → Addr) (v : Value) (zs : List Int) (set : Int) (x : Bool) (w : World) (hv : IsSl w v zs) (hE : Held3 w A) (hc : errS zs set = 0) (hx : enoughB zs set = x) :
    Calls Tryz.prog 132 #[v, .int .i64 set] w fun e w' => e = .returned (.tuple #[.bool x, .nilIface]) ∧ Below w.heap.size w w' := by
  subst hx; exact enough_ok A v zs set w hv hE hc
set_option maxRecDepth 100000 in
theorem ldenough_is (A : Nat → Addr) (x : Bool) (h : LD w lb b cap id deal att zs P) (he : errW zs = 0) (hE : Held3 w A) (hx : enoughB zs P.ans = x) :
    Calls Tryz.prog 120 #[.pointer (some ⟨lb, 0, none⟩)] w fun e w' => e = .returned (.bool x) ∧ Below w.heap.size w w' := by
  obtain ⟨h1, h2, h3, h4⟩ := errW_zero he
  obtain ⟨c0, c1, c2, c3, c4, c5, c27, c28, c29⟩ := h.cells
  have HS := hid (h.sl h2)
  have HC : Hid (errS zs P.ans = 0) := errS_mk he h.pw.lo h.pw.hi
  have HE := hid hE
  have HX := hid hx
  clear h h1 h3 h4 hE he hx
  go_enter Tryz.func120, Tryz.ntmps120
  go_wp2_with fail
  have HD : Hid (Below w.heap.size w w.drew) := (Below.refl _ _).drew
  have HS1 := hid (HS.out.later HD.out)
  have HE1 := hid (HE.out.later HD.out)
  go_region_held3 (fun w' => w'.cell? ⟨lb, 3, none⟩ = some (.slice (some ⟨b, 0, none⟩) zs.length cap) ∧ w'.cell? ⟨lb, 5, none⟩ = some (.int .i64 P.ans)) (go_keep) (first | (go_at_call 132; (with_reducible refine (enough_ok_is A _ zs P.ans x _ HS1.out HE1.out HC.out HX.out).mono ?_); rintro e w1 ⟨rfl, hb⟩; have HB := hid (HD.out.trans hb); have hc3 := cell_later hb c3; have hc5 := cell_later hb c5; clear hb))
  all_goals cases x
  all_goals go_wp2_with fail
  all_goals go_ret
  all_goals exact ⟨rfl, HB.out⟩
set_option maxRecDepth 100000 in
theorem ldsee_any (p : Int) (h : LD w lb b cap id deal att zs P) :
    Calls Tryz.prog 100 #[.pointer (some ⟨lb, 0, none⟩), .int .i64 p] w fun e w' => e = .returned (.tuple #[]) ∧ LD w' lb b cap id deal att zs (seeP P p) ∧ Kept (In1 lb) w w' := by
  have z28 := h.fz 28
  have z29 := h.fz 29
  obtain ⟨c0, c1, c2, c3, c4, c5, c27, c28, c29⟩ := h.cells
  have HX := hid ((h.setSeen p).setHas true)
  have HK : Hid (Kept (In1 lb) w ((w.setCell ⟨lb, 28, none⟩ (.int .i64 p)).setCell ⟨lb, 29, none⟩ (.bool true))) := ((Kept.refl _ _).set1 28 _).set1 29 _
  have HP := hid h
  have hlb : lb < w.heap.size := row_ltJ h.row
  clear h
  obtain ⟨hv, HV⟩ : ∃ x, Hid (P.has = x) := ⟨_, rfl⟩
  rw [HV.out] at c29
  obtain ⟨sn, HSn⟩ : ∃ x, Hid (P.seen = x) := ⟨_, rfl⟩
  rw [HSn.out] at c28
  by_cases g : hv = false ∨ sn < p
  · have HQ : Hid (seeP P p = { P with seen := p, has := true }) := by unfold Hid seeP; rw [HV.out, HSn.out]; exact if_pos g
    rw [HQ.out]
    cases hv with
    | false =>
      go_enter Tryz.func100, Tryz.ntmps100
      go_wp2_with fail
      go_end0
      exact ⟨rfl, HX.out, HK.out⟩
    | true =>
      have g2 : sn < p := by rcases g with g | g; · cases g
                             · exact g
      go_enter Tryz.func100, Tryz.ntmps100
      go_wp2_with fail
      go_end0
      exact ⟨rfl, HX.out, HK.out⟩
  · have HQ : Hid (seeP P p = P) := by unfold Hid seeP; rw [HV.out, HSn.out]; exact if_neg g
    rw [HQ.out]
    have hv1 : hv = true := by
      cases hv with
      | true => rfl
      | false => exact absurd (Or.inl rfl) g
    have g2 : ¬ sn < p := fun x => g (.inr x)
    subst hv1
    clear g
    go_enter Tryz.func100, Tryz.ntmps100
    go_wp2_with fail
    go_end0
    exact ⟨rfl, HP.out, Kept.refl _ _⟩
end
end Go.Proofs.YtdpemmmbkjmplabGreatDoor
namespace Go.Proofs.YtdpemmmbkjmplabGreatDoor
open Go.RowKit

theorem st_eq0 (k : Nat) (hk : k < 4) : (stP k == ⟨#[97, 115, 107, 105, 110, 103]⟩) = (k == 0) := by
  match k, hk with
  | 0, _ => decide
  | 1, _ => decide
  | 2, _ => decide
  | 3, _ => decide
theorem st_eq1 (k : Nat) (hk : k < 4) : (stP k == ⟨#[112, 114, 101, 112, 97, 114, 105, 110, 103]⟩) = (k == 1) := by
  match k, hk with
  | 0, _ => decide
  | 1, _ => decide
  | 2, _ => decide
  | 3, _ => decide
section
variable {w : World} {lb b cap id : Nat} {deal att : Int} {zs : List Int} {P : PL}
set_option maxRecDepth 100000 in
theorem ldwaits_any (k : Int) (hs : P.stt < 4) (h : LD w lb b cap id deal att zs P) :
    Calls Tryz.prog 117 #[.pointer (some ⟨lb, 0, none⟩), .int .i64 k] w fun e w' => e = .returned (.bool (waitsB P att k)) ∧ w' = w := by
  obtain ⟨c0, c1, c2, c3, c4, c5, c27, c28, c29⟩ := h.cells
  clear h
  unfold waitsB
  generalize P.stt = q at hs c4 ⊢
  by_cases k2 : k = 2
  · subst k2
    match q, hs with
    | 0, _ =>
      rw [stP0] at c4
      by_cases ha : att = 0
      · subst ha
        go_enter Tryz.func117, Tryz.ntmps117
        go_wp2_with fail
        go_ret
        exact ⟨rfl, rfl⟩
      · go_enter Tryz.func117, Tryz.ntmps117
        go_wp2_with fail
        go_ret
        exact ⟨by simp [ha], rfl⟩
    | 1, _ =>
      rw [stP1] at c4
      go_enter Tryz.func117, Tryz.ntmps117
      go_wp2_with fail
      go_ret
      exact ⟨rfl, rfl⟩
    | 2, _ =>
      rw [stP2] at c4
      go_enter Tryz.func117, Tryz.ntmps117
      go_wp2_with fail
      go_ret
      exact ⟨rfl, rfl⟩
    | 3, _ =>
      rw [stP3] at c4
      go_enter Tryz.func117, Tryz.ntmps117
      go_wp2_with fail
      go_ret
      exact ⟨rfl, rfl⟩
  · by_cases k4 : k = 4
    · subst k4
      match q, hs with
      | 0, _ =>
        rw [stP0] at c4
        by_cases ha : 0 < att
        · go_enter Tryz.func117, Tryz.ntmps117
          go_wp2_with fail
          go_ret
          exact ⟨by simp [ha], rfl⟩
        · go_enter Tryz.func117, Tryz.ntmps117
          go_wp2_with fail
          go_ret
          exact ⟨by simp [ha], rfl⟩
      | 1, _ =>
        rw [stP1] at c4
        go_enter Tryz.func117, Tryz.ntmps117
        go_wp2_with fail
        go_ret
        exact ⟨rfl, rfl⟩
      | 2, _ =>
        rw [stP2] at c4
        go_enter Tryz.func117, Tryz.ntmps117
        go_wp2_with fail
        go_ret
        exact ⟨rfl, rfl⟩
      | 3, _ =>
        rw [stP3] at c4
        go_enter Tryz.func117, Tryz.ntmps117
        go_wp2_with fail
        go_ret
        exact ⟨rfl, rfl⟩
    · by_cases k6 : k = 6
      · subst k6
        match q, hs with
        | 0, _ =>
          rw [stP0] at c4
          go_enter Tryz.func117, Tryz.ntmps117
          go_wp2_with fail
          go_ret
          exact ⟨rfl, rfl⟩
        | 1, _ =>
          rw [stP1] at c4
          go_enter Tryz.func117, Tryz.ntmps117
          go_wp2_with fail
          go_ret
          exact ⟨rfl, rfl⟩
        | 2, _ =>
          rw [stP2] at c4
          go_enter Tryz.func117, Tryz.ntmps117
          go_wp2_with fail
          go_ret
          exact ⟨rfl, rfl⟩
        | 3, _ =>
          rw [stP3] at c4
          go_enter Tryz.func117, Tryz.ntmps117
          go_wp2_with fail
          go_ret
          exact ⟨rfl, rfl⟩
      · go_enter Tryz.func117, Tryz.ntmps117
        go_wp2_with fail
        go_ret
        exact ⟨by simp [k2, k4, k6], rfl⟩
end
end Go.Proofs.YtdpemmmbkjmplabGreatDoor
namespace Go.Proofs.YtdpemmmbkjmplabGreatDoor
open Go.RowKit

theorem bit_and0 {s : Int} (k : Nat) (h0 : 0 ≤ s) (h1 : s < 9223372036854775808) : (bits BinOp.and IntKind.i64 (s / 2 ^ k) 1 == 0) = !bit s k := by
  obtain ⟨m, rfl⟩ := Int.eq_ofNat_of_zero_le h0
  have e : ((m : Int) / 2 ^ k) = ((m / 2 ^ k : Nat) : Int) := by simp
  have hlt : m / 2 ^ k < 9223372036854775808 := Nat.lt_of_le_of_lt (Nat.div_le_self _ _) (by omega)
  rw [e, show (1 : Int) = ((1 : Nat) : Int) from rfl, bits_and_nat _ 1 hlt (by decide), Nat.and_one_is_mod]
  unfold bit
  rw [Int.toNat_natCast, Nat.testBit_eq_decide_div_mod_eq, Bool.eq_iff_iff]
  simp; omega
section
variable {w : World} {lb b cap id : Nat} {deal att : Int} {zs : List Int} {P : PL}
theorem ldwaits_is (k : Int) (x : Bool) (hs : P.stt < 4) (h : LD w lb b cap id deal att zs P) (hx : waitsB P att k = x) :
    Calls Tryz.prog 117 #[.pointer (some ⟨lb, 0, none⟩), .int .i64 k] w fun e w' => e = .returned (.bool x) ∧ w' = w := by
  subst hx; exact ldwaits_any k hs h
theorem tk_ids {n : Nat} {f : F9} (h : ¬ (f.t = id ∧ f.d = deal ∧ f.a = att)) : takesB n id deal att P f = false := by
  unfold takesB; rw [decide_eq_false h]; rfl
theorem tk_wait {n : Nat} {f : F9} (h : waitsB P att f.k = false) : takesB n id deal att P f = false := by
  unfold takesB; rw [h]; simp
theorem tk_from {n : Nat} {f : F9} (h : ¬ (0 ≤ f.f ∧ f.f < n)) : takesB n id deal att P f = false := by
  unfold takesB; rw [decide_eq_false h]; simp
theorem tk_in {n : Nat} {f : F9} (h : f.t = id ∧ f.d = deal ∧ f.a = att) (h2 : waitsB P att f.k = true) (h3 : 0 ≤ f.f ∧ f.f < n) : takesB n id deal att P f = !bit P.ans f.f.toNat := by
  unfold takesB; rw [decide_eq_true h, h2, decide_eq_true h3]; rfl
set_option maxHeartbeats 4000000 in
set_option maxRecDepth 100000 in
theorem ldtakes_any (f t d k a : Int) (y : Bool) (p1 p2 p3 : Int) (hn : zs.length ≤ 7) (hs : P.stt < 4) (h : LD w lb b cap id deal att zs P) :
    Calls Tryz.prog 98 #[.pointer (some ⟨lb, 0, none⟩), frV f t d k a y p1 p2 p3] w fun e w' => e = .returned (.bool (takesB zs.length id deal att P ⟨f, t, d, k, a, y, p1, p2, p3⟩)) ∧ Below w.heap.size w w' := by
  obtain ⟨W, HW⟩ : ∃ W, Hid (w.alloc (.cells #[.int .i64 f, .int .i64 t, .int .i64 d, .int .i64 k, .int .i64 a, .bool y, .int .i64 p1, .int .i64 p2, .int .i64 p3] 93) = W) := ⟨_, rfl⟩
  have HB : Hid (Below w.heap.size w W) := by rw [← HW.out]; exact (Below.refl _ _).alloc (Nat.le_refl _) _
  have HR : Hid (W.heap[w.heap.size]? = some (.cells #[.int .i64 f, .int .i64 t, .int .i64 d, .int .i64 k, .int .i64 a, .bool y, .int .i64 p1, .int .i64 p2, .int .i64 p3] 93 (0, 0))) := by rw [← HW.out]; exact heap_alloc_new w _
  have HX := hid (h.later HB.out)
  obtain ⟨b0, b1, b2, b3, b4, b5, b6, b7, b8⟩ := nine HR.out
  obtain ⟨c0, c1, c2, c3, c4, c5, c27, c28, c29⟩ := HX.out.cells
  have hW := HW.out
  have HPW := hid h.pw
  have HST := hid hs
  clear h hs
  obtain ⟨r, HR2⟩ : ∃ r, Hid (takesB zs.length id deal att P ⟨f, t, d, k, a, y, p1, p2, p3⟩ = r) := ⟨_, rfl⟩
  rw [HR2.out]
  by_cases g1 : t = (id : Int)
  · by_cases g2 : d = deal
    · by_cases g3 : a = att
      · subst g1; subst g2; subst g3
        obtain ⟨x, HWt⟩ : ∃ x, Hid (waitsB P a k = x) := ⟨_, rfl⟩
        cases x with
        | false =>
          obtain rfl : r = false := HR2.out.symm.trans (tk_wait HWt.out)
          go_enter Tryz.func98, Tryz.ntmps98
          go_wp2_with fail
          go_quiet ((go_at_call 117; exact Calls.quiet_of_same (ldwaits_is k false HST.out (by first | exact HX.out | exact HX.out.later (below_drewN (Below.refl _ _) _)) HWt.out)))
          go_wp2
          go_ret
          exact ⟨rfl, below_drewN HB.out _⟩
        | true =>
          by_cases g4 : f < 0
          · obtain rfl : r = false := HR2.out.symm.trans (tk_from (by show ¬ (0 ≤ f ∧ f < (zs.length : Int)); omega))
            have g4x : decide (0 ≤ f) = false := decide_eq_false (by omega)
            go_enter Tryz.func98, Tryz.ntmps98
            go_wp2_with fail
            go_quiet ((go_at_call 117; exact Calls.quiet_of_same (ldwaits_is k true HST.out (by first | exact HX.out | exact HX.out.later (below_drewN (Below.refl _ _) _)) HWt.out)))
            go_wp2
            go_quiet (fail)
            go_wp2
            go_ret
            exact ⟨rfl, below_drewN (below_drewN HB.out _) _⟩
          · obtain ⟨m, rfl⟩ := Int.eq_ofNat_of_zero_le (show 0 ≤ f by omega)
            by_cases g5 : (m : Int) < (zs.length : Int)
            · obtain rfl : r = !bit P.ans m := HR2.out.symm.trans (tk_in ⟨rfl, rfl, rfl⟩ HWt.out ⟨by show 0 ≤ (m : Int); omega, g5⟩)
              have hp := (pow_le7 hn).1
              have h1 := HPW.out.lo
              have h2 := HPW.out.hi
              have hbit : Hid ((bits BinOp.and IntKind.i64 (P.ans / 2 ^ m) 1 == 0) = !bit P.ans m) := bit_and0 m h1 (by omega)
              have hm7 : m < 7 := by omega
              go_enter Tryz.func98, Tryz.ntmps98
              go_wp2_with fail
              go_quiet ((go_at_call 117; exact Calls.quiet_of_same (ldwaits_is k true HST.out (by first | exact HX.out | exact HX.out.later (below_drewN (Below.refl _ _) _)) HWt.out)))
              go_wp2
              go_quiet (fail)
              go_wp2
              go_ret
              exact ⟨congrArg (fun z => Ending.returned (.bool z)) hbit.out, below_drewN (below_drewN HB.out _) _⟩
            · obtain rfl : r = false := HR2.out.symm.trans (tk_from (by show ¬ (0 ≤ (m : Int) ∧ (m : Int) < (zs.length : Int)); omega))
              have g5' : ¬ m < zs.length := by omega
              go_enter Tryz.func98, Tryz.ntmps98
              go_wp2_with fail
              go_quiet ((go_at_call 117; exact Calls.quiet_of_same (ldwaits_is k true HST.out (by first | exact HX.out | exact HX.out.later (below_drewN (Below.refl _ _) _)) HWt.out)))
              go_wp2
              go_quiet (fail)
              go_wp2
              go_ret
              exact ⟨rfl, below_drewN (below_drewN HB.out _) _⟩
      · obtain rfl : r = false := HR2.out.symm.trans (tk_ids (fun x => g3 x.2.2))
        have e3 : (a != att) = true := bne_iff_ne.2 g3
        subst g1; subst g2
        go_enter Tryz.func98, Tryz.ntmps98
        go_wp2_with fail
        go_quiet (fail)
        go_wp2
        go_ret
        exact ⟨rfl, below_drewN HB.out _⟩
    · obtain rfl : r = false := HR2.out.symm.trans (tk_ids (fun x => g2 x.2.1))
      have e2 : (d != deal) = true := bne_iff_ne.2 g2
      subst g1
      go_enter Tryz.func98, Tryz.ntmps98
      go_wp2_with fail
      go_quiet (fail)
      go_wp2
      go_ret
      exact ⟨rfl, below_drewN HB.out _⟩
  · obtain rfl : r = false := HR2.out.symm.trans (tk_ids (fun x => g1 x.1))
    have e1 : (t != (id : Int)) = true := bne_iff_ne.2 g1
    go_enter Tryz.func98, Tryz.ntmps98
    go_wp2_with fail
    go_quiet (fail)
    go_wp2
    go_ret
    exact ⟨rfl, below_drewN HB.out _⟩
end
end Go.Proofs.YtdpemmmbkjmplabGreatDoor
namespace Go.Proofs.YtdpemmmbkjmplabGreatDoor
open Go.RowKit

/-- The states that lie at a slice's address. -/
def SL (w : World) (a : Option Addr) (L : List S3) : Prop :=
  ∀ i (h : i < L.length), ∃ b off, a = some ⟨b, off, none⟩ ∧ w.cell? ⟨b, off + i * 3, none⟩ = some (.int .i64 (L[i]'h).p) ∧ w.cell? ⟨b, off + i * 3 + 1, none⟩ = some (.int .i64 (L[i]'h).r) ∧ w.cell? ⟨b, off + i * 3 + 2, none⟩ = some (.int .i64 (L[i]'h).a)
theorem SL.later {w w' : World} {a : Option Addr} {L : List S3} (h : SL w a L) (hb : Below w.heap.size w w') : SL w' a L := fun i hi => by
  obtain ⟨b, off, ha, h0, h1, h2⟩ := h i hi
  exact ⟨b, off, ha, cell_later hb h0, cell_later hb h1, cell_later hb h2⟩
theorem SL.nil (w : World) (a : Option Addr) : SL w a [] := fun _ h => absurd h (Nat.not_lt_zero _)
theorem take_snoc {α : Type} (L : List α) (k : Nat) (h : k < L.length) : L.take (k + 1) = L.take k ++ [L[k]] := by
  rw [List.take_add_one, List.getElem?_eq_getElem h]; rfl
theorem gr_take (p : Int) (L : List S3) (k : Nat) (h : k < L.length) : gr p (L.take (k + 1)) = grS p (gr p (L.take k)) L[k] := by rw [take_snoc L k h, gr_snoc]
end Go.Proofs.YtdpemmmbkjmplabGreatDoor
namespace Go.Proofs.YtdpemmmbkjmplabGreatDoor
open Go.RowKit

set_option maxHeartbeats 1000000 in
set_option maxRecDepth 100000 in
theorem greatest_any (pb : Nat) (a : Option Addr) (cap : Nat) (L : List S3) (ph : Int) (w : World) (hp : w.cell? ⟨pb, 0, none⟩ = some (.slice a L.length cap)) (hl : L.length ≤ 200) (hL : SL w a L) :
    Calls Tryz.prog 133 #[.int .i64 ph, .pointer (some ⟨pb, 0, none⟩)] w fun e w' => e = .returned (.tuple #[.int .i64 (gr ph L).1, .bool (gr ph L).2]) ∧ Below w.heap.size w w' := by
  have HX := hid hL
  have HT : Hid (gr ph (L.take L.length) = gr ph L) := by unfold Hid; rw [List.take_length]
  clear hL
  go_enter Tryz.func133, Tryz.ntmps133
  go_wp2_with fail
  go_loopw [3, 4, 9] (fun m is i wr => ∃ k : Nat, k ≤ L.length ∧ m = .int .i64 (gr ph (L.take k)).1 ∧ is = .bool (gr ph (L.take k)).2 ∧ i = .int .i64 (k : Int) ∧ Below w.heap.size w wr) (fun _ _ i _ => L.length - (intOf i).toNat)
  case atStart => exact ⟨0, Nat.zero_le _, rfl, rfl, rfl, Below.refl _ _⟩
  case round =>
    obtain ⟨k, hk, rfl, rfl, rfl, hb⟩ := hrel
    have HB := hid hb
    by_cases hlt : k < L.length
    · have HG := hid (gr_take ph L k hlt)
      obtain ⟨b, o, rfl, y0, y1, y2⟩ := HX.out k hlt
      obtain ⟨⟨sp, sr, sa⟩, HS⟩ : ∃ s, Hid (L[k]'hlt = s) := ⟨_, rfl⟩
      rw [HS.out] at y0 y1 y2 HG
      replace y0 := cell_later hb y0
      replace y1 := cell_later hb y1
      replace y2 := cell_later hb y2
      obtain ⟨⟨m, is⟩, HM⟩ : ∃ x, Hid (gr ph (L.take k) = x) := ⟨_, rfl⟩
      rw [HM.out] at HG ⊢
      have HBn : ∀ o, Hid (Below w.heap.size w (wr.alloc o)) := fun o => hid (HB.out.alloc HB.out.size o)
      clear hb HS HM
      by_cases h1 : sp = ph
      · subst h1
        cases is with
        | false =>
          have G : Hid (gr sp (L.take (k + 1)) = (sa, true)) := by unfold Hid; rw [HG.out]; unfold grS; exact if_pos ⟨rfl, .inl rfl⟩
          clear HG
          go_wp2_with fail
          go_roundw
          case rel => exact ⟨k + 1, by omega, by rw [G.out], by rw [G.out], by go_num, (HBn _).out⟩
          case measure => simp [intOf]; omega
        | true =>
          by_cases h2 : m < sa
          · have G : Hid (gr sp (L.take (k + 1)) = (sa, true)) := by unfold Hid; rw [HG.out]; unfold grS; exact if_pos ⟨rfl, .inr h2⟩
            clear HG
            go_wp2_with fail
            go_roundw
            case rel => exact ⟨k + 1, by omega, by rw [G.out], by rw [G.out], by go_num, (HBn _).out⟩
            case measure => simp [intOf]; omega
          · have G : Hid (gr sp (L.take (k + 1)) = (m, true)) := by
              unfold Hid; rw [HG.out]; unfold grS
              exact if_neg (fun h => h.2.elim (fun h => by cases h) h2)
            clear HG
            go_wp2_with fail
            go_roundw
            case rel => exact ⟨k + 1, by omega, by rw [G.out], by rw [G.out], by go_num, (HBn _).out⟩
            case measure => simp [intOf]; omega
      · have G : Hid (gr ph (L.take (k + 1)) = (m, is)) := by unfold Hid; rw [HG.out]; unfold grS; exact if_neg (fun h => h1 h.1)
        clear HG
        go_wp2_with fail
        go_roundw
        case rel => exact ⟨k + 1, by omega, by rw [G.out], by rw [G.out], by go_num, (HBn _).out⟩
        case measure => simp [intOf]; omega
    · obtain rfl : k = L.length := by omega
      rw [HT.out]
      go_wp2_with fail
      go_ret2
      exact ⟨rfl, HB.out⟩
end Go.Proofs.YtdpemmmbkjmplabGreatDoor
namespace Go.Proofs.YtdpemmmbkjmplabGreatDoor
open Go.RowKit

theorem greatest_is (pb : Nat) (a : Option Addr) (cap : Nat) (L : List S3) (ph m : Int) (is : Bool) (w : World) (hp : w.cell? ⟨pb, 0, none⟩ = some (.slice a L.length cap)) (hl : L.length ≤ 200) (hL : SL w a L) (h : gr ph L = (m, is)) :
    Calls Tryz.prog 133 #[.int .i64 ph, .pointer (some ⟨pb, 0, none⟩)] w fun e w' => e = .returned (.tuple #[.int .i64 m, .bool is]) ∧ Below w.heap.size w w' := by
  have := greatest_any pb a cap L ph w hp hl hL
  rw [h] at this
  exact this
set_option maxHeartbeats 2000000 in
set_option maxRecDepth 100000 in
theorem choose_any (a : Option Addr) (cap : Nat) (L : List S3) (w : World) (hl : L.length ≤ 200) (hL : SL w a L) :
    Calls Tryz.prog 121 #[.slice a L.length cap] w fun e w' => e = .returned (.tuple #[.int .i64 (chooseL L).1, .bool (chooseL L).2]) ∧ Below w.heap.size w w' := by
  have HL := hid hL
  obtain ⟨⟨cp, cf⟩, HC⟩ : ∃ x, Hid (chooseL L = x) := ⟨_, rfl⟩
  rw [HC.out]
  obtain ⟨⟨m2, i2⟩, H2⟩ : ∃ x, Hid (gr 2 L = x) := ⟨_, rfl⟩
  obtain ⟨⟨m3, i3⟩, H3⟩ : ∃ x, Hid (gr 3 L = x) := ⟨_, rfl⟩
  obtain ⟨⟨m4, i4⟩, H4⟩ : ∃ x, Hid (gr 4 L = x) := ⟨_, rfl⟩
  obtain ⟨⟨m5, i5⟩, H5⟩ : ∃ x, Hid (gr 5 L = x) := ⟨_, rfl⟩
  have HD : Hid ((if i2 = true then ((2 : Int), true) else if i3 = true then (3, true) else if i4 = true ∧ (i5 = false ∨ m5 ≤ m4) then (4, false) else (5, false)) = (cp, cf)) := by
    unfold Hid; rw [← HC.out]; unfold chooseL; rw [H2.out, H3.out, H4.out, H5.out]
  clear hL HC
  have hmf : ∀ (fn : Fn) (first cap : Array Value) (w : World), (Instr.makeFunc fn first cap).run Tryz.prog w = .ok (.func fn first cap) w := fun _ _ _ _ => rfl
  go_enter Tryz.func121, Tryz.ntmps121
  go_wp2_with fail
  go_loopw [16] (fun i wr => ∃ k : Nat, k ≤ 2 ∧ i = .int .i64 (k : Int) ∧ (0 < k → i2 = false) ∧ (1 < k → i3 = false) ∧ Below w.heap.size w wr ∧ wr.cell? ⟨w.heap.size, 0, none⟩ = some (.slice a L.length cap) ∧ wr.cell? ⟨w.heap.size + 1, 0, none⟩ = some (.int .i64 2) ∧ wr.cell? ⟨w.heap.size + 1, 1, none⟩ = some (.int .i64 3)) (fun i _ => 2 - (intOf i).toNat)
  case atStart =>
    refine ⟨0, by omega, rfl, by omega, by omega, ((Below.refl _ _).alloc (Nat.le_refl _) _).alloc (by simp) _, ?_, ?_, ?_⟩
    · exact cell_alloc _ (by simp)
    · rw [World.cell?_alloc_at _ _ _ _ (by simp)]; rfl
    · rw [World.cell?_alloc_at _ _ _ _ (by simp)]; rfl
  case round =>
    obtain ⟨k, hk, rfl, hk1, hk2, hb, c0, c1, c2⟩ := hrel
    have HB := hid hb
    have C0 := hid c0
    have C1 := hid c1
    have C2 := hid c2
    have HLw := hid (HL.out.later hb)
    have hlt0 := cell_lt c0
    have hlt1 := cell_lt c1
    clear hb
    rcases (by omega : k = 0 ∨ k = 1 ∨ k = 2) with rfl | rfl | rfl
    · clear hk1 hk2
      cases i2 with
      | true =>
        obtain ⟨rfl, rfl⟩ : (2 : Int) = cp ∧ true = cf := by simpa using HD.out
        clear HD
        go_wp2_with (go_at_call 133; refine (greatest_is w.heap.size a cap L 2 m2 true _ C0.out hl HLw.out H2.out).mono ?_; rintro e w1 ⟨rfl, hb1⟩)
        go_ret2
        exact ⟨rfl, below_trans HB.out hb1⟩
      | false =>
        go_wp2_with (go_at_call 133; refine (greatest_is w.heap.size a cap L 2 m2 false _ C0.out hl HLw.out H2.out).mono ?_; rintro e w1 ⟨rfl, hb1⟩)
        go_roundw
        case rel => exact ⟨1, by omega, by go_num, (by intros; trivial), by omega, below_trans HB.out hb1, cell_later hb1 C0.out, cell_later hb1 C1.out, cell_later hb1 C2.out⟩
        case measure => simp [intOf]
    · obtain rfl := hk1 (by omega)
      clear hk1 hk2
      cases i3 with
      | true =>
        obtain ⟨rfl, rfl⟩ : (3 : Int) = cp ∧ true = cf := by simpa using HD.out
        clear HD
        go_wp2_with (go_at_call 133; refine (greatest_is w.heap.size a cap L 3 m3 true _ C0.out hl HLw.out H3.out).mono ?_; rintro e w1 ⟨rfl, hb1⟩)
        go_ret2
        exact ⟨rfl, below_trans HB.out hb1⟩
      | false =>
        go_wp2_with (go_at_call 133; refine (greatest_is w.heap.size a cap L 3 m3 false _ C0.out hl HLw.out H3.out).mono ?_; rintro e w1 ⟨rfl, hb1⟩)
        go_roundw
        case rel => exact ⟨2, by omega, by go_num, (by intros; trivial), (by intros; trivial), below_trans HB.out hb1, cell_later hb1 C0.out, cell_later hb1 C1.out, cell_later hb1 C2.out⟩
        case measure => simp [intOf]
    · obtain rfl := hk1 (by omega)
      obtain rfl := hk2 (by omega)
      clear hk1 hk2 c0 c1 c2
      have HD2 : Hid ((if i4 = true ∧ (i5 = false ∨ m5 ≤ m4) then ((4 : Int), false) else (5, false)) = (cp, cf)) := by unfold Hid; simpa using HD.out
      clear HD
      cases i4 with
      | false =>
        obtain ⟨rfl, rfl⟩ : (5 : Int) = cp ∧ false = cf := by simpa using HD2.out
        clear HD2
        go_wp2_with (go_at_call 133; first
          | ((with_reducible refine (greatest_is w.heap.size a cap L 5 m5 i5 _ (cell_later hb1 C0.out) hl (HLw.out.later hb1) H5.out).mono ?_); rintro e w2 ⟨rfl, hb2⟩)
          | ((with_reducible refine (greatest_is w.heap.size a cap L 4 m4 false _ C0.out hl HLw.out H4.out).mono ?_); rintro e w1 ⟨rfl, hb1⟩))
        go_ret2
        exact ⟨rfl, below_trans (below_trans HB.out hb1) hb2⟩
      | true =>
        cases i5 with
        | false =>
          obtain ⟨rfl, rfl⟩ : (4 : Int) = cp ∧ false = cf := by simpa using HD2.out
          clear HD2
          go_wp2_with (go_at_call 133; first
            | ((with_reducible refine (greatest_is w.heap.size a cap L 5 m5 false _ (cell_later hb1 C0.out) hl (HLw.out.later hb1) H5.out).mono ?_); rintro e w2 ⟨rfl, hb2⟩)
            | ((with_reducible refine (greatest_is w.heap.size a cap L 4 m4 true _ C0.out hl HLw.out H4.out).mono ?_); rintro e w1 ⟨rfl, hb1⟩))
          go_ret2
          exact ⟨rfl, below_trans (below_trans HB.out hb1) hb2⟩
        | true =>
          by_cases hm : m5 ≤ m4
          · obtain ⟨rfl, rfl⟩ : (4 : Int) = cp ∧ false = cf := by simpa [hm] using HD2.out
            clear HD2
            go_wp2_with (go_at_call 133; first
              | ((with_reducible refine (greatest_is w.heap.size a cap L 5 m5 true _ (cell_later hb1 C0.out) hl (HLw.out.later hb1) H5.out).mono ?_); rintro e w2 ⟨rfl, hb2⟩)
              | ((with_reducible refine (greatest_is w.heap.size a cap L 4 m4 true _ C0.out hl HLw.out H4.out).mono ?_); rintro e w1 ⟨rfl, hb1⟩))
            go_ret2
            exact ⟨rfl, below_trans (below_trans HB.out hb1) hb2⟩
          · obtain ⟨rfl, rfl⟩ : (5 : Int) = cp ∧ false = cf := by simpa [hm] using HD2.out
            clear HD2
            go_wp2_with (go_at_call 133; first
              | ((with_reducible refine (greatest_is w.heap.size a cap L 5 m5 true _ (cell_later hb1 C0.out) hl (HLw.out.later hb1) H5.out).mono ?_); rintro e w2 ⟨rfl, hb2⟩)
              | ((with_reducible refine (greatest_is w.heap.size a cap L 4 m4 true _ C0.out hl HLw.out H4.out).mono ?_); rintro e w1 ⟨rfl, hb1⟩))
            go_ret2
            exact ⟨rfl, below_trans (below_trans HB.out hb1) hb2⟩
end Go.Proofs.YtdpemmmbkjmplabGreatDoor
namespace Go.Proofs.YtdpemmmbkjmplabGreatDoor
open Go.RowKit

section
variable {w : World} {lb b cap id : Nat} {deal att : Int} {zs : List Int} {P : PL}
set_option maxHeartbeats 1000000 in
set_option maxRecDepth 100000 in
theorem ldvote_any (y : Bool) (hn : zs.length ≤ 7) (h : LD w lb b cap id deal att zs P) :
    Calls Tryz.prog 99 #[.pointer (some ⟨lb, 0, none⟩), .bool y] w fun e w' => ∃ v, e = .returned v ∧ FrB w.heap.size w' v (outL id deal att zs.length (voteP zs.length P y).2) ∧ LD w' lb b cap id deal att zs (voteP zs.length P y).1 ∧ Kept (In1 lb) w w' := by
  obtain ⟨c0, c1, c2, c3, c4, c5, c27, c28, c29⟩ := h.cells
  have HX := hid h
  have hp := (pow_le7 hn).1
  have hp2 := (pow_le7 hn).2
  obtain ⟨R, HR⟩ : ∃ R, Hid (voteP zs.length P y = R) := ⟨_, rfl⟩
  have hlb : lb < w.heap.size := row_ltJ h.row
  rw [HR.out]
  clear h
  cases y with
  | false =>
    obtain rfl : R = decP P 3 := HR.out.symm
    go_enter Tryz.func99, Tryz.ntmps99
    go_wp2_with fail
    refine (lddecide_any 3 HX.out hn).mono ?_
    rintro e w1 ⟨v, rfl, ho, hl, hk⟩
    have HV := hid (And.intro ho (And.intro hl hk))
    clear ho hl hk
    go_wp2_with fail
    go_ret
    exact ⟨_, rfl, HV.out⟩
  | true =>
    by_cases g : P.ans = 2 ^ zs.length - 1
    · obtain rfl : R = preP P 4 := by rw [← HR.out]; unfold voteP; rw [if_neg (by decide), if_pos g]
      rw [g] at c5
      go_enter Tryz.func99, Tryz.ntmps99
      go_wp2_with fail
      go_quiet (fail)
      go_wp2_with fail
      refine (ldprepare_any 4 (HX.out.later (below_drewN (Below.refl _ _) _)) hn).mono ?_
      rintro e w1 ⟨v, rfl, ho, hl, hk⟩
      have HV := hid (And.intro (ho.mono (below_drewN (Below.refl w.heap.size w) nq).size) (And.intro hl ((Kept.of_below (below_drewN (Below.refl _ _) nq)).trans hk)))
      clear ho hl hk
      go_wp2_with fail
      go_ret
      exact ⟨_, rfl, HV.out⟩
    · obtain rfl : R = (P, none) := by rw [← HR.out]; unfold voteP; rw [if_neg (by decide), if_neg g]
      have e1 : (P.ans != 2 ^ zs.length - 1) = true := bne_iff_ne.2 g
      go_enter Tryz.func99, Tryz.ntmps99
      go_wp2_with fail
      go_quiet (fail)
      go_wp2_with fail
      go_ret
      exact ⟨_, rfl, FrB.zero _ _, HX.out.later (below_drewN (Below.refl _ _) _), Kept.of_below (below_drewN (Below.refl _ _) _)⟩
set_option maxRecDepth 100000 in
theorem ldack_any (A : Nat → Addr) (he : errW zs = 0) (hE : Held3 w A) (h : LD w lb b cap id deal att zs P) :
    Calls Tryz.prog 102 #[.pointer (some ⟨lb, 0, none⟩)] w fun e w' => ∃ v, e = .returned v ∧ FrB w.heap.size w' v (outL id deal att zs.length (ackP zs P).2) ∧ LD w' lb b cap id deal att zs (ackP zs P).1 ∧ Kept (In1 lb) w w' := by
  obtain ⟨x, HX⟩ : ∃ x, Hid (enoughB zs P.ans = x) := ⟨_, rfl⟩
  obtain ⟨R, HR⟩ : ∃ R, Hid (ackP zs P = R) := ⟨_, rfl⟩
  rw [HR.out]
  have HL := hid h
  have HE := hid hE
  have HZ := hid he
  have hn := (errW_zero he).2.1
  clear h hE he
  go_enter Tryz.func102, Tryz.ntmps102
  go_wp2_with fail
  refine (ldenough_is A x HL.out HZ.out HE.out HX.out).mono ?_
  rintro e w1 ⟨rfl, hb⟩
  have HL1 := hid (HL.out.later hb)
  have HB := hid hb
  clear hb
  have c27 := HL1.out.cells.2.2.2.2.2.2.1
  cases x with
  | false =>
    obtain rfl : R = (P, none) := by rw [← HR.out]; unfold ackP; rw [if_pos HX.out]
    go_wp2_with fail
    go_ret
    exact ⟨_, rfl, FrB.zero _ _, HL1.out, Kept.of_below HB.out⟩
  | true =>
    obtain rfl : R = decP P (afterI P.prep) := by rw [← HR.out]; unfold ackP; rw [if_neg (by rw [HX.out]; decide)]
    go_wp2_with (go_at_call 122; refine (tafter_any P.prep _).mono ?_; rintro e w2 ⟨rfl, rfl⟩)
    refine (lddecide_any (afterI P.prep) HL1.out hn).mono ?_
    rintro e w2 ⟨v, rfl, ho, hl, hk⟩
    have HV := hid (And.intro (ho.mono HB.out.size) (And.intro hl ((Kept.of_below HB.out).trans hk)))
    clear ho hl hk
    go_wp2_with fail
    go_ret
    exact ⟨_, rfl, HV.out⟩
end
end Go.Proofs.YtdpemmmbkjmplabGreatDoor
namespace Go.Proofs.YtdpemmmbkjmplabGreatDoor
open Go.RowKit

section
variable {w : World} {lb b cap id : Nat} {deal att : Int} {zs : List Int} {P : PL}
theorem LD.setTold (h : LD w lb b cap id deal att zs P) {i : Nat} (hi : i < 7) (s : S3) :
    LD (((w.setCell ⟨lb, 6 + i * 3, none⟩ (.int .i64 s.p)).setCell ⟨lb, 6 + i * 3 + 1, none⟩ (.int .i64 s.r)).setCell ⟨lb, 6 + i * 3 + 2, none⟩ (.int .i64 s.a)) lb b cap id deal att zs { P with told := toldS P.told i s } := by
  obtain ⟨t0, t1, t2, t3, t4, t5, t6, e⟩ := seven h.pw.len
  have hP : P = { P with told := [t0, t1, t2, t3, t4, t5, t6] } := by rw [← e]
  have hw : PW zs.length P := h.pw
  rw [hP] at h
  rw [e]
  have key : ∀ L : List S3, L.length = 7 → PW zs.length { P with told := L } := fun L hL => ⟨hL, hw.lo, hw.hi⟩
  match i, hi with
  | 0, _ => exact ((h.set (Q := { P with told := [⟨s.p, t0.r, t0.a⟩, t1, t2, t3, t4, t5, t6] }) (key _ rfl) rfl).set (Q := { P with told := [⟨s.p, s.r, t0.a⟩, t1, t2, t3, t4, t5, t6] }) (key _ rfl) rfl).set (key _ rfl) rfl
  | 1, _ => exact ((h.set (Q := { P with told := [t0, ⟨s.p, t1.r, t1.a⟩, t2, t3, t4, t5, t6] }) (key _ rfl) rfl).set (Q := { P with told := [t0, ⟨s.p, s.r, t1.a⟩, t2, t3, t4, t5, t6] }) (key _ rfl) rfl).set (key _ rfl) rfl
  | 2, _ => exact ((h.set (Q := { P with told := [t0, t1, ⟨s.p, t2.r, t2.a⟩, t3, t4, t5, t6] }) (key _ rfl) rfl).set (Q := { P with told := [t0, t1, ⟨s.p, s.r, t2.a⟩, t3, t4, t5, t6] }) (key _ rfl) rfl).set (key _ rfl) rfl
  | 3, _ => exact ((h.set (Q := { P with told := [t0, t1, t2, ⟨s.p, t3.r, t3.a⟩, t4, t5, t6] }) (key _ rfl) rfl).set (Q := { P with told := [t0, t1, t2, ⟨s.p, s.r, t3.a⟩, t4, t5, t6] }) (key _ rfl) rfl).set (key _ rfl) rfl
  | 4, _ => exact ((h.set (Q := { P with told := [t0, t1, t2, t3, ⟨s.p, t4.r, t4.a⟩, t5, t6] }) (key _ rfl) rfl).set (Q := { P with told := [t0, t1, t2, t3, ⟨s.p, s.r, t4.a⟩, t5, t6] }) (key _ rfl) rfl).set (key _ rfl) rfl
  | 5, _ => exact ((h.set (Q := { P with told := [t0, t1, t2, t3, t4, ⟨s.p, t5.r, t5.a⟩, t6] }) (key _ rfl) rfl).set (Q := { P with told := [t0, t1, t2, t3, t4, ⟨s.p, s.r, t5.a⟩, t6] }) (key _ rfl) rfl).set (key _ rfl) rfl
  | 6, _ => exact ((h.set (Q := { P with told := [t0, t1, t2, t3, t4, t5, ⟨s.p, t6.r, t6.a⟩] }) (key _ rfl) rfl).set (Q := { P with told := [t0, t1, t2, t3, t4, t5, ⟨s.p, s.r, t6.a⟩] }) (key _ rfl) rfl).set (key _ rfl) rfl
theorem LD.told (h : LD w lb b cap id deal att zs P) : SL w (some ⟨lb, 6, none⟩) P.told := by
  obtain ⟨t0, t1, t2, t3, t4, t5, t6, e⟩ := seven h.pw.len
  have hr := h.row
  unfold pC at hr
  rw [e] at hr ⊢
  intro i hi
  refine ⟨lb, 6, rfl, ?_⟩
  match i, (show i < 7 from hi) with
  | 0, _ => refine ⟨?_, ?_, ?_⟩ <;> rw [cell_of_row _ _ _ _ _ _ hr] <;> rfl
  | 1, _ => refine ⟨?_, ?_, ?_⟩ <;> rw [cell_of_row _ _ _ _ _ _ hr] <;> rfl
  | 2, _ => refine ⟨?_, ?_, ?_⟩ <;> rw [cell_of_row _ _ _ _ _ _ hr] <;> rfl
  | 3, _ => refine ⟨?_, ?_, ?_⟩ <;> rw [cell_of_row _ _ _ _ _ _ hr] <;> rfl
  | 4, _ => refine ⟨?_, ?_, ?_⟩ <;> rw [cell_of_row _ _ _ _ _ _ hr] <;> rfl
  | 5, _ => refine ⟨?_, ?_, ?_⟩ <;> rw [cell_of_row _ _ _ _ _ _ hr] <;> rfl
  | 6, _ => refine ⟨?_, ?_, ?_⟩ <;> rw [cell_of_row _ _ _ _ _ _ hr] <;> rfl
theorem LD.toldAt (h : LD w lb b cap id deal att zs P) {i : Nat} (hi : i < 7) : ∃ x y z, w.cell? ⟨lb, 6 + i * 3, none⟩ = some x ∧ w.cell? ⟨lb, 6 + i * 3 + 1, none⟩ = some y ∧ w.cell? ⟨lb, 6 + i * 3 + 2, none⟩ = some z := by
  obtain ⟨b', off, e, h0, h1, h2⟩ := h.told i (by rw [h.pw.len]; exact hi)
  cases e
  exact ⟨_, _, _, h0, h1, h2⟩
theorem choose_is (a : Option Addr) (cap' : Nat) (L : List S3) (m : Nat) (x : Int) (y : Bool) (hm : L.length = m) (hl : m ≤ 200) (hL : SL w a L) (hx : chooseL L = (x, y)) :
    Calls Tryz.prog 121 #[.slice a m cap'] w fun e w' => e = .returned (.tuple #[.int .i64 x, .bool y]) ∧ Below w.heap.size w w' := by
  subst hm
  have := choose_any a cap' L w hl hL
  rw [hx] at this
  exact this
set_option maxHeartbeats 2000000 in
set_option maxRecDepth 100000 in
theorem ldtell_any (A : Nat → Addr) (i : Nat) (s : S3) (hi : i < 7) (he : errW zs = 0) (hE : Held3 w A) (h : LD w lb b cap id deal att zs P) :
    Calls Tryz.prog 101 #[.pointer (some ⟨lb, 0, none⟩), .int .i64 (i : Int), .agg #[.int .i64 s.p, .int .i64 s.r, .int .i64 s.a]] w fun e w' => ∃ v, e = .returned v ∧ FrB w.heap.size w' v (outL id deal att zs.length (tellP zs P i s).2) ∧ LD w' lb b cap id deal att zs (tellP zs P i s).1 ∧ Kept (In1 lb) w w' := by
  obtain ⟨s1, s2, s3⟩ := s
  simp only
  obtain ⟨x, HX⟩ : ∃ x, Hid (enoughB zs P.ans = x) := ⟨_, rfl⟩
  obtain ⟨R, HR⟩ : ∃ R, Hid (tellP zs P i ⟨s1, s2, s3⟩ = R) := ⟨_, rfl⟩
  rw [HR.out]
  obtain ⟨W, HW⟩ : ∃ W, Hid (w.alloc (.cells #[.int .i64 s1, .int .i64 s2, .int .i64 s3] 43) = W) := ⟨_, rfl⟩
  have HB : Hid (Below w.heap.size w W) := by rw [← HW.out]; exact (Below.refl _ _).alloc (Nat.le_refl _) _
  have HRw : Hid (W.heap[w.heap.size]? = some (.cells #[.int .i64 s1, .int .i64 s2, .int .i64 s3] 43 (0, 0))) := by rw [← HW.out]; exact heap_alloc_new w _
  have b0 : W.cell? ⟨w.heap.size, 0, none⟩ = some (.int .i64 s1) := by rw [cell_of_row _ _ _ _ _ _ HRw.out]; rfl
  have b1 : W.cell? ⟨w.heap.size, 1, none⟩ = some (.int .i64 s2) := by rw [cell_of_row _ _ _ _ _ _ HRw.out]; rfl
  have b2 : W.cell? ⟨w.heap.size, 2, none⟩ = some (.int .i64 s3) := by rw [cell_of_row _ _ _ _ _ _ HRw.out]; rfl
  have HL := hid (h.later HB.out)
  have HE := hid (hE.later HB.out)
  have HZ := hid he
  have hn := (errW_zero he).2.1
  have hlb : lb < w.heap.size := row_ltJ h.row
  obtain ⟨u0, u1, u2, c0, c1, c2⟩ := HL.out.toldAt hi
  have z0 := HL.out.fz (6 + i * 3)
  have z1 := HL.out.fz (6 + i * 3 + 1)
  have z2 := HL.out.fz (6 + i * 3 + 2)
  have hW := HW.out
  have HL2 := hid ((HL.out.setTold hi ⟨s1, s2, s3⟩).later (Below.refl _ _).drew)
  have HK2 : Hid (Kept (In1 lb) W (((W.setCell ⟨lb, 6 + i * 3, none⟩ (.int .i64 s1)).setCell ⟨lb, 6 + i * 3 + 1, none⟩ (.int .i64 s2)).setCell ⟨lb, 6 + i * 3 + 2, none⟩ (.int .i64 s3)).drew) := ((((Kept.refl _ _).set1 _ _).set1 _ _).set1 _ _).drew
  have HE2 := hid (HE.out.kept HK2.out (fun k hk => by rw [show k = lb from hk]; exact h.glo))
  have HX2 : Hid (enoughB zs ({ P with told := toldS P.told i ⟨s1, s2, s3⟩ } : PL).ans = x) := HX.out
  clear h hE he
  have hi2 : (i : Int) < 7 := by omega
  go_enter Tryz.func101, Tryz.ntmps101
  go_wp2_with fail
  go_region
  all_goals go_wp2_with fail
  refine (ldenough_is A x HL2.out HZ.out HE2.out HX2.out).mono ?_
  rintro e w1 ⟨rfl, hb⟩
  have HL3 := hid (HL2.out.later hb)
  have HK3 := hid (((Kept.of_below (S := In1 lb) HB.out).trans HK2.out).trans (Kept.of_below hb))
  clear hb b0 b1 b2 c0 c1 c2 z0 z1 z2 u0 u1 u2
  cases x with
  | false =>
    obtain rfl : R = ({ P with told := toldS P.told i ⟨s1, s2, s3⟩ }, none) := by rw [← HR.out]; unfold tellP; rw [if_pos HX.out]
    go_wp2_with fail
    go_ret
    exact ⟨_, rfl, FrB.zero _ _, HL3.out, HK3.out⟩
  | true =>
    obtain ⟨⟨cx, cy⟩, HC⟩ : ∃ z, Hid (chooseL (toldS P.told i ⟨s1, s2, s3⟩) = z) := ⟨_, rfl⟩
    have HSL := hid HL3.out.told
    have hlb3 : lb < w1.heap.size := row_ltJ HL3.out.row
    go_wp2_with fail
    refine (choose_is (some ⟨lb, 6, none⟩) _ (toldS P.told i ⟨s1, s2, s3⟩) 7 cx cy HL3.out.pw.len (by decide) HSL.out HC.out).mono ?_
    rintro e w2 ⟨rfl, hb⟩
    have HL4 := hid (HL3.out.later hb)
    have HK4 := hid (HK3.out.trans (Kept.of_below hb))
    clear hb
    cases cy with
    | true =>
      obtain rfl : R = decP { P with told := toldS P.told i ⟨s1, s2, s3⟩ } cx := by rw [← HR.out]; unfold tellP; rw [if_neg (by rw [HX.out]; decide), HC.out, if_pos rfl]
      go_wp2_with fail
      refine (lddecide_any cx HL4.out hn).mono ?_
      rintro e w3 ⟨v, rfl, ho, hl, hk⟩
      have HV := hid (And.intro (ho.mono HK4.out.size) (And.intro hl (HK4.out.trans hk)))
      clear ho hl hk
      go_wp2_with fail
      go_ret
      exact ⟨_, rfl, HV.out⟩
    | false =>
      obtain rfl : R = preP { P with told := toldS P.told i ⟨s1, s2, s3⟩ } cx := by rw [← HR.out]; unfold tellP; rw [if_neg (by rw [HX.out]; decide), HC.out, if_neg (by simp)]
      go_wp2_with fail
      refine (ldprepare_any cx HL4.out hn).mono ?_
      rintro e w3 ⟨v, rfl, ho, hl, hk⟩
      have HV := hid (And.intro (ho.mono HK4.out.size) (And.intro hl (HK4.out.trans hk)))
      clear ho hl hk
      go_wp2_with fail
      go_ret
      exact ⟨_, rfl, HV.out⟩
end
end Go.Proofs.YtdpemmmbkjmplabGreatDoor
namespace Go.Proofs.YtdpemmmbkjmplabGreatDoor
open Go.RowKit

section
variable {w : World} {lb b cap id : Nat} {deal att : Int} {zs : List Int} {P : PL}
theorem ldtakes_is (f t d k a : Int) (y : Bool) (p1 p2 p3 : Int) (x : Bool) (hn : zs.length ≤ 7) (hs : P.stt < 4) (h : LD w lb b cap id deal att zs P) (hx : takesB zs.length id deal att P ⟨f, t, d, k, a, y, p1, p2, p3⟩ = x) :
    Calls Tryz.prog 98 #[.pointer (some ⟨lb, 0, none⟩), frV f t d k a y p1 p2 p3] w fun e w' => e = .returned (.bool x) ∧ Below w.heap.size w w' := by
  subst hx; exact ldtakes_any f t d k a y p1 p2 p3 hn hs h
/-- Along Hear: the lead, the frame's row, what has turned, the errors. -/
structure HI (w W : World) (A : Nat → Addr) (lb b cap id : Nat) (deal att : Int) (zs : List Int) (P : PL) (f t d k a : Int) (y : Bool) (p1 p2 p3 : Int) : Prop where
  ld : LD W lb b cap id deal att zs P
  fr : W.heap[w.heap.size]? = some (.cells #[.int .i64 f, .int .i64 t, .int .i64 d, .int .i64 k, .int .i64 a, .bool y, .int .i64 p1, .int .i64 p2, .int .i64 p3] 93 (0, 0))
  kp : Kept (In1 lb) w W
  er : Held3 W A
theorem HI.go {W V : World} {A : Nat → Addr} {Q : PL} {f t d k a : Int} {y : Bool} {p1 p2 p3 : Int} (h : HI w W A lb b cap id deal att zs P f t d k a y p1 p2 p3) (hlb : lb < w.heap.size) (hl : LD V lb b cap id deal att zs Q) (hk : Kept (In1 lb) W V) : HI w V A lb b cap id deal att zs Q f t d k a y p1 p2 p3 :=
  ⟨hl, hk.row h.fr (fun e => by have : w.heap.size = lb := e; omega), h.kp.trans hk, h.er.kept hk (fun i hi => by rw [show i = lb from hi]; exact hl.glo)⟩
theorem HI.later {W V : World} {A : Nat → Addr} {f t d k a : Int} {y : Bool} {p1 p2 p3 : Int} (h : HI w W A lb b cap id deal att zs P f t d k a y p1 p2 p3) (hlb : lb < w.heap.size) (hb : Below W.heap.size W V) : HI w V A lb b cap id deal att zs P f t d k a y p1 p2 p3 :=
  h.go hlb (h.ld.later hb) (Kept.of_below hb)
set_option maxHeartbeats 4000000 in
set_option maxRecDepth 100000 in
theorem ldhear_any (A : Nat → Addr) (f t d k a : Int) (y : Bool) (p1 p2 p3 : Int) (he : errW zs = 0) (hs : P.stt < 4) (hE : Held3 w A) (h : LD w lb b cap id deal att zs P) :
    Calls Tryz.prog 81 #[.pointer (some ⟨lb, 0, none⟩), frV f t d k a y p1 p2 p3] w fun e w' => ∃ v, e = .returned v ∧ FrB w.heap.size w' v (outL id deal att zs.length (phear zs id deal att P ⟨f, t, d, k, a, y, p1, p2, p3⟩).2) ∧ LD w' lb b cap id deal att zs (phear zs id deal att P ⟨f, t, d, k, a, y, p1, p2, p3⟩).1 ∧ Kept (In1 lb) w w' := by
  obtain ⟨R, HR⟩ : ∃ R, Hid (phear zs id deal att P ⟨f, t, d, k, a, y, p1, p2, p3⟩ = R) := ⟨_, rfl⟩
  rw [HR.out]
  obtain ⟨x, HT⟩ : ∃ x, Hid (takesB zs.length id deal att P ⟨f, t, d, k, a, y, p1, p2, p3⟩ = x) := ⟨_, rfl⟩
  obtain ⟨W, HW⟩ : ∃ W, Hid (w.alloc (.cells #[.int .i64 f, .int .i64 t, .int .i64 d, .int .i64 k, .int .i64 a, .bool y, .int .i64 p1, .int .i64 p2, .int .i64 p3] 93) = W) := ⟨_, rfl⟩
  have HB : Hid (Below w.heap.size w W) := by rw [← HW.out]; exact (Below.refl _ _).alloc (Nat.le_refl _) _
  have hlbw : lb < w.heap.size := row_ltJ h.row
  have H1 : Hid (HI w W A lb b cap id deal att zs P f t d k a y p1 p2 p3) := ⟨h.later HB.out, by rw [← HW.out]; exact heap_alloc_new w _, Kept.of_below HB.out, hE.later HB.out⟩
  have HZ := hid he
  have HST := hid hs
  have hn := (errW_zero he).2.1
  obtain ⟨b0, b1, b2, b3, b4, b5, b6, b7, b8⟩ := nine H1.out.fr
  have hW := HW.out
  clear h hE he hs
  go_enter Tryz.func81, Tryz.ntmps81
  go_wp2_with fail
  refine (ldtakes_is f t d k a y p1 p2 p3 x hn HST.out H1.out.ld HT.out).mono ?_
  rintro e w1 ⟨rfl, hb⟩
  have H2 := hid (H1.out.later hlbw hb)
  clear hb b0 b1 b2 b3 b4 b5 b6 b7 b8 H1 HB HW hW
  cases x with
  | false =>
    obtain rfl : R = (P, none) := by rw [← HR.out]; unfold phear; rw [if_neg (by rw [HT.out]; decide)]
    go_wp2_with fail
    go_ret
    exact ⟨_, rfl, FrB.zero _ _, H2.out.ld, H2.out.kp⟩
  | true =>
    obtain ⟨-, -, ⟨q0, q1⟩, -⟩ := takesB_in HT.out
    simp only at q0 q1
    obtain ⟨m, rfl⟩ := Int.eq_ofNat_of_zero_le q0
    have hm : m < zs.length := by omega
    have hm7 : m < 7 := by omega
    obtain ⟨b0, b1, b2, b3, b4, b5, b6, b7, b8⟩ := nine H2.out.fr
    have c5 := H2.out.ld.cells.2.2.2.2.2.1
    have z5 := H2.out.ld.fz 5
    have hbd := ansS_bd hn H2.out.ld.pw.lo H2.out.ld.pw.hi hm
    have HLn := hid (H2.out.ld.setAns (ansS P.ans m) hbd.1 hbd.2)
    have hlb1 : lb < w1.heap.size := row_ltJ H2.out.ld.row
    have hp := (pow_le7 (n := m) (by omega)).1
    have hp2 := (pow_le7 (n := m) (by omega)).2
    unfold ansS at HLn
    have H3 := hid (H2.out.go hlbw (HLn.out.later (Below.refl _ _).drew) ((Kept.refl _ _).set1 _ _).drew)
    have HP : Hid (phear zs id deal att P ⟨(m : Int), t, d, k, a, y, p1, p2, p3⟩ = takenP zs P ⟨(m : Int), t, d, k, a, y, p1, p2, p3⟩) := by unfold Hid phear; rw [if_pos HT.out]
    have HN : Hid (noteP P ⟨(m : Int), t, d, k, a, y, p1, p2, p3⟩ = { P with ans := bits .or .i64 P.ans (2 ^ m) }) := rfl
    by_cases g2 : k = 2
    · subst g2
      obtain rfl : R = voteP zs.length { P with ans := bits .or .i64 P.ans (2 ^ m) } y := by rw [← HR.out, HP.out]; unfold takenP; rw [if_pos rfl]; rfl
      go_wp2_with fail
      go_region
      all_goals go_wp2_with fail
      refine (ldvote_any y hn H3.out.ld).mono ?_
      rintro e w2 ⟨v, rfl, ho, hl, hk⟩
      have HV := hid (And.intro (ho.mono H3.out.kp.size) (And.intro hl (H3.out.kp.trans hk)))
      clear ho hl hk
      go_wp2_with fail
      go_ret
      exact ⟨_, rfl, HV.out⟩
    · have e2 : (k == 2) = false := beq_eq_false_iff_ne.2 g2
      go_wp2_with fail
      go_region
      all_goals go_wp2_with fail
      refine (ldsee_any p2 H3.out.ld).mono ?_
      rintro e w2 ⟨rfl, hl, hk⟩
      have H4 := hid (H3.out.go hlbw hl hk)
      clear hl hk b0 b1 b2 b3 b4 b5 b6 b7 b8 c5 z5
      obtain ⟨b0, b1, b2, b3, b4, b5, b6, b7, b8⟩ := nine H4.out.fr
      have z4 := H4.out.ld.fz 4
      have c4 := H4.out.ld.cells.2.2.2.2.1
      have hlb2 : lb < w2.heap.size := row_ltJ H4.out.ld.row
      cases y with
      | false =>
        obtain rfl : R = ({ seeP { P with ans := bits .or .i64 P.ans (2 ^ m) } p2 with stt := 3 }, none) := by rw [← HR.out, HP.out]; unfold takenP; rw [if_neg (by exact g2), if_pos rfl]; rfl
        have HQ := hid (H4.out.go hlbw (H4.out.ld.setSt 3) ((Kept.refl _ _).set1 _ _))
        rw [stP3] at HQ
        go_wp2_with fail
        go_ret
        exact ⟨_, rfl, FrB.zero _ _, HQ.out.ld, HQ.out.kp⟩
      | true =>
        by_cases g4 : k = 4
        · subst g4
          obtain rfl : R = tellP zs (seeP { P with ans := bits .or .i64 P.ans (2 ^ m) } p2) m ⟨p1, p2, p3⟩ := by rw [← HR.out, HP.out]; unfold takenP; rw [if_neg (by simp), if_neg (by simp), if_pos rfl]; rfl
          go_wp2_with fail
          refine (ldtell_any A m ⟨p1, p2, p3⟩ hm7 HZ.out H4.out.er H4.out.ld).mono ?_
          rintro e w3 ⟨v, rfl, ho, hl, hk⟩
          have HV := hid (And.intro (ho.mono H4.out.kp.size) (And.intro hl (H4.out.kp.trans hk)))
          clear ho hl hk
          go_wp2_with fail
          go_ret
          exact ⟨_, rfl, HV.out⟩
        · have e4 : (k == 4) = false := beq_eq_false_iff_ne.2 g4
          obtain rfl : R = ackP zs (seeP { P with ans := bits .or .i64 P.ans (2 ^ m) } p2) := by rw [← HR.out, HP.out]; unfold takenP; rw [if_neg (by exact g2), if_neg (by simp), if_neg (by exact g4)]; rfl
          go_wp2_with fail
          refine (ldack_any A HZ.out H4.out.er H4.out.ld).mono ?_
          rintro e w3 ⟨v, rfl, ho, hl, hk⟩
          have HV := hid (And.intro (ho.mono H4.out.kp.size) (And.intro hl (H4.out.kp.trans hk)))
          clear ho hl hk
          go_wp2_with fail
          go_ret
          exact ⟨_, rfl, HV.out⟩
end
end Go.Proofs.YtdpemmmbkjmplabGreatDoor
namespace Go.Proofs.YtdpemmmbkjmplabGreatDoor
open Go.RowKit

theorem Tryz.infoInt : (Tryz.prog.info? 3).map (fun i => (i.zero, i.size, i.bytes)) = some (some (.int .i64 0), 1, 8) := by kernel_rfl

/-- A row of integers that is owned is a slice of them. -/
theorem IsSl.owned {w : World} {base : Nat} {v : Value} {zs : List Int} (h : w.ownsRow base 3 1 v zs.length (zs.map (Value.int .i64))) (hm : zs.length ≤ maxLen) : IsSl w v zs := by
  have hc := h
  rcases h.2 with ⟨rfl, h0⟩ | ⟨g, cap, cur, rfl, hb, hg, hle, hcap, hsz, htk⟩
  · exact ⟨none, 0, by rw [h0], hm, fun _ => rfl, fun hl => by omega⟩
  · refine ⟨_, cap, rfl, hm, (fun h => by cases h), fun _ => ⟨g, 0, rfl, fun i hi => ?_⟩⟩
    have := hc.cellAt i (by omega)
    rw [Nat.zero_add, this]
    simp [hi]

set_option maxHeartbeats 400000 in
/-- OwnInts: a slice of the same numbers, in memory of its own. -/
theorem ownInts_own (v : Value) (zs : List Int) (w : World) (hv : IsSl w v zs) (hl : zs.length ≤ 30) :
    Calls Tryz.prog 11 #[v] w fun e w' => ∃ v', e = .returned v' ∧ w'.ownsRow w.heap.size 3 1 v' zs.length (zs.map (Value.int .i64)) ∧ Below w.heap.size w w' := by
  obtain ⟨i0, hi, hz0, hz1, hz2⟩ := info_parts Tryz.infoInt
  obtain ⟨a, cap, rfl, hm, hn, hc⟩ := hv
  have HM := hid hm
  cases a with
  | none =>
    have hcap := hn rfl
    subst hcap
    have hz : zs = [] := by
      cases zs with
      | nil => rfl
      | cons x r => obtain ⟨b, off, h, _⟩ := hc (by simp); cases h
    subst hz
    clear hn hc
    go_enter Tryz.func11, Tryz.ntmps11
    go_wp2_with (at_builtin; refine wpList_append_own_none rfl _ _ 22 rfl w.heap.size 3 i0 1 Tryz.underlying22 hi _ 0 [] rfl (World.ownsRow_nil _ _ _ _) rfl ?_)
    go_ret
    exact ⟨_, rfl, World.ownsRow_nil _ _ _ _, Below.refl _ _⟩
  | some ad =>
    have HC : Hid (∀ j u, (zs.map (Value.int .i64))[j]? = some u → w.cell? (ad.add j) = some u) := by
      intro j u hj
      rw [List.getElem?_map] at hj
      rcases Nat.lt_or_ge j zs.length with h | h
      · obtain ⟨b, off, e, hcc⟩ := hc (by omega)
        have e' := Option.some.inj e
        subst e'
        rw [List.getElem?_eq_getElem h] at hj
        simp at hj
        subst hj
        have := hcc j h
        rw [getD_lt zs j h] at this
        rw [addr_add]; exact this
      · rw [List.getElem?_eq_none h] at hj; cases hj
    clear hc hn
    have HO : Hid (∀ u ∈ zs.map (Value.int .i64), u.oneCell' = true) := by
      intro u hu
      obtain ⟨n, -, rfl⟩ := List.mem_map.1 hu
      rfl
    go_enter Tryz.func11, Tryz.ntmps11
    go_wp2_with (at_builtin; refine wpList_append_own _ rfl _ _ 22 rfl w.heap.size 3 i0 (.int .i64 0) 1 8 Tryz.underlying22 hi hz0 hz1 hz2 rfl (by decide) _ 0 [] rfl (World.ownsRow_nil _ _ _ _) ad zs.length cap (zs.map (Value.int .i64)) rfl (by simp) HC.out HO.out (by have := HM.out; omega) (by omega) (Nat.le_refl _) ?_)
    intro v' w1 hown hgrow _
    have ho2 : w1.ownsRow w.heap.size 3 1 v' zs.length (zs.map (Value.int .i64)) := by simpa using hown
    clear hown
    go_wp2
    go_ret
    exact ⟨_, rfl, ho2, (Below.refl _ _).grown hgrow (Nat.le_refl _) (fun k h => by cases h)⟩
theorem ownInts_any (v : Value) (zs : List Int) (w : World) (hv : IsSl w v zs) (hl : zs.length ≤ 30) :
    Calls Tryz.prog 11 #[v] w fun e w' => ∃ v', e = .returned v' ∧ IsSl w' v' zs ∧ Below w.heap.size w w' := by
  refine (ownInts_own v zs w hv hl).mono ?_
  rintro e w' ⟨v', rfl, ho, hb⟩
  exact ⟨v', rfl, IsSl.owned ho (by unfold maxLen; omega), hb⟩


/-- A slice that a literal made: its cells lie in a new block. -/
theorem IsSl.lit (w : World) (zs : List Int) (hm : zs.length ≤ maxLen) : IsSl (w.alloc (.cells (zs.map (Value.int .i64)).toArray 3)) (.slice (some ⟨w.heap.size, 0, none⟩) zs.length zs.length) zs := by
  refine ⟨_, _, rfl, hm, (fun h => by cases h), fun _ => ⟨_, _, rfl, fun i hi => ?_⟩⟩
  rw [World.cell?_alloc_at _ _ _ _ rfl]
  simp [hi]
end Go.Proofs.YtdpemmmbkjmplabGreatDoor
