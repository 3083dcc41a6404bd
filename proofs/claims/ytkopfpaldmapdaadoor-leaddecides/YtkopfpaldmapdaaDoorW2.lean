/-
  WALKS of package weights' closures: scale, quorum, and what quorum's closure answers.
-/
import Derived.Test.YtkopfpaldmapdaaDoorW1
import Derived.Test.YtkopfpaldmapdaaDoorZ1
import Derived.BigQuiet
import Derived.Deep.QuietTactic
import Derived.Deep.RegionWith
import Derived.Deep.RegionHeld3
import Derived.Laws.EntriesVeiled
namespace Go.Proofs.YtkopfpaldmapdaaDoor
open Go.RowKit


theorem scale_any (a : Option Addr) (len cap : Nat) (w : World) :
    Calls Tryd.prog 113 #[.slice a len cap] w fun e w' => e = .returned (.func (.func 115) #[] #[.pointer (some ⟨w.heap.size, 0, none⟩)]) ∧ w' = w.alloc (.cells #[.slice a len cap] 47) := by
  have hmf : ∀ (fn : Fn) (first cap : Array Value) (w : World), (Instr.makeFunc fn first cap).run Tryd.prog w = .ok (.func fn first cap) w := fun _ _ _ _ => rfl
  go_enter Tryd.func113, Tryd.ntmps113
  go_wp2
  go_ret
  exact ⟨rfl, rfl⟩

set_option maxHeartbeats 1000000 in
theorem quorum_any (b off cap : Nat) (zs : List Int) (w : World) (hl : zs.length ≤ 7) (hok : okTo zs zs.length)
    (hc : ∀ i, i < zs.length → w.cell? ⟨b, off + i, none⟩ = some (.int .i64 (zs.getD i 0))) :
    Calls Tryd.prog 110 #[.slice (some ⟨b, off, none⟩) zs.length cap] w fun e w' => e = .returned (.func (.func 114) #[] #[.pointer (some ⟨w.heap.size + 1, 0, none⟩), .pointer (some ⟨w.heap.size + 2, 0, none⟩)]) ∧
      w' = (((w.alloc (.cells #[.slice (some ⟨b, off, none⟩) zs.length cap] 47)).alloc (.cells #[.func (.func 115) #[] #[.pointer (some ⟨w.heap.size, 0, none⟩)]] 60)).alloc (.cells #[.int .i64 (tot zs)] 3)).drew := by
  have hmf : ∀ (fn : Fn) (first cap : Array Value) (w : World), (Instr.makeFunc fn first cap).run Tryd.prog w = .ok (.func fn first cap) w := fun _ _ _ _ => rfl
  have hp := pow_le7 hl
  have hall : Hid (sumTo zs (2 ^ zs.length - 1) zs.length = tot zs) := sumTo_all zs (Nat.le_refl _)
  have hcw : ∀ (wx : World), Below w.heap.size w wx → ∀ i, i < zs.length → wx.cell? ⟨b, off + i, none⟩ = some (.int .i64 (zs.getD i 0)) := fun wx hb i hi => cell_later hb (hc i hi)
  clear hc
  go_enter Tryd.func110, Tryd.ntmps110
  go_wp2_with (go_at_call 113; refine (scale_any _ _ _ _).mono ?_; rintro e w' ⟨rfl, rfl⟩)
  go_region_held3 (fun w' => w'.cell? ⟨w.heap.size + 1, 0, none⟩ = some (.func (.func 115) #[] #[.pointer (some ⟨w.heap.size, 0, none⟩)])) (go_keep)
    (first | (go_at_call 112; refine (everyone_any _ _ _ _ (by omega)).mono ?_; rintro e w' ⟨rfl, rfl⟩) | (go_at_call 115; refine (scale1_any ⟨w.heap.size, 0, none⟩ b off cap zs _ _ hl hok (by omega) (by omega) (by first | (simp; done) | exact cell_alloc _ (by simp)) (fun i hi => hcw _ (by repeat (first | exact Below.refl _ _ | refine Below.drew ?_ | refine Below.alloc ?_ (by simp; try omega) _)) i hi)).mono ?_; rw [hall.out]; rintro e w' ⟨rfl, rfl⟩))
  all_goals go_wp2
  all_goals go_ret
  all_goals exact ⟨rfl, rfl⟩

/-- What quorum's closure answers: is a set a quorum? -/
theorem quorum1_any (p q r : Addr) (b off cap : Nat) (zs : List Int) (set : Int) (w : World) (hl : zs.length ≤ 7) (hok : okTo zs zs.length) (h0 : 0 ≤ set) (h1 : set < 128)
    (hp : w.cell? p = some (.func (.func 115) #[] #[.pointer (some r)])) (hq : w.cell? q = some (.int .i64 (tot zs)))
    (hr : w.cell? r = some (.slice (some ⟨b, off, none⟩) zs.length cap)) (hc : ∀ i, i < zs.length → w.cell? ⟨b, off + i, none⟩ = some (.int .i64 (zs.getD i 0))) :
    Calls Tryd.prog 114 #[.int .i64 set, .pointer (some p), .pointer (some q)] w fun e w' => e = .returned (.bool (enoughB zs set)) ∧ ∃ n, w' = w.drewN n := by
  have hbd := sumTo_bd set (k := zs.length) (zs := zs) hok
  have hpb := psum_bd (k := zs.length) (zs := zs) hok
  go_enter Tryd.func114, Tryd.ntmps114
  go_wp2_with fail
  go_quiet ((go_at_call 115; exact Calls.quiet_of_same (scale1_any r b off cap zs set _ hl hok h0 h1 (by simpa using hr) (fun i hi => by simpa using hc i hi))))
  go_wp2
  go_ret
  exact ⟨rfl, _, rfl⟩
end Go.Proofs.YtkopfpaldmapdaaDoor
