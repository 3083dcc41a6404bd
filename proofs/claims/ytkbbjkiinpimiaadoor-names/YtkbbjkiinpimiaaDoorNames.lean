/-
  THE WALK of the law Names: a closed sentence: true; nothing that was there is written.
-/
import Derived.Test.YtkbbjkiinpimiaaDoorCodeF
import Derived.Test.YtkbbjkiinpimiaaDoorW9
import Derived.Test.YtkbbjkiinpimiaaDoorSets
namespace Go.Proofs.YtkbbjkiinpimiaaDoor
open Go.RowKit

theorem new_any (s : ByteArray) (w : World) : Calls Tryd.prog 18 #[.string s] w fun e w' => e = .returned (.iface 107 (.pointer (some ⟨w.heap.size, 0, none⟩))) ∧ w' = w.alloc (.cells #[.string s] 109) := by
  go_enter Tryd.func18, Tryd.ntmps18
  go_wp2
  go_ret
  exact ⟨rfl, rfl⟩
/-- Code(errors.New(..)): another one. -/
theorem code_new (A : Nat → Addr) (s : ByteArray) (w : World) (hE : Held9 w A) :
    Calls Tryd.prog 16 #[.iface 107 (.pointer (some ⟨w.heap.size, 0, none⟩))] (w.alloc (.cells #[.string s] 109)) fun e w' => e = .returned (.tuple #[.int .i64 (-1), .int .i64 (-1)]) ∧ Below w.heap.size w w' := by
  have hb : Below w.heap.size w (w.alloc (.cells #[.string s] 109)) := (Below.refl _ _).alloc (Nat.le_refl _) _
  refine (code_not A ⟨w.heap.size, 0, none⟩ _ (hE.later hb) ⟨#[.string s], 109, ?_⟩ (fun k hk e => ?_)).mono ?_
  · show (w.heap.push _)[w.heap.size]? = _
    simp
  · obtain ⟨c, t, h⟩ := hE.row k hk
    rw [← e] at h
    rw [Array.getElem?_eq_none (Nat.le_refl _)] at h
    cases h
  · rintro e w' ⟨rfl, h2⟩
    exact ⟨rfl, below_trans hb h2⟩
/-- SameInts of two slices that lie in blocks of their own. -/
theorem IsSl.block {w : World} {b n : Nat} {zs : List Int} (hn : n = zs.length) (hm : n ≤ 1000) (h : w.heap[b]? = some (.cells (zs.map (Value.int .i64)).toArray 3 (0, 0))) : IsSl w (.slice (some ⟨b, 0, none⟩) n n) zs := by
  subst hn
  refine ⟨_, _, rfl, by unfold maxLen; omega, (fun h => by cases h), fun _ => ⟨_, _, rfl, fun i hi => ?_⟩⟩
  unfold World.cell?
  simp [h, hi]

theorem IsSl.litAt (w : World) (n : Nat) (zs : List Int) (hn : n = w.heap.size) (hm : zs.length ≤ maxLen) : IsSl (w.alloc (.cells (zs.map (Value.int .i64)).toArray 3)) (.slice (some ⟨n, 0, none⟩) zs.length zs.length) zs := by
  subst hn; exact IsSl.lit w zs hm
theorem al (w : World) (o : Obj) : Below w.heap.size w (w.alloc o) := (Below.refl _ _).alloc (Nat.le_refl _) o

def bounds : List Int := [7, 1000, 6, 1048576, 512, 18, 500, 3000, 100, 16]
def phases : List Int := [0, 1, 2, 3, 4, 5, 1, 2, 3, 4, 5, 6, 7]
theorem same_bounds (w : World) : Calls Tryd.prog 15 #[.slice (some ⟨w.heap.size, 0, none⟩) 10 10, .slice (some ⟨w.heap.size + 1, 0, none⟩) 10 10]
    (((w.alloc (.cells (bounds.map (Value.int .i64)).toArray 3)).alloc (.cells (bounds.map (Value.int .i64)).toArray 3)).alloc (.cells (phases.map (Value.int .i64)).toArray 3))
    fun e w' => e = .returned (.bool true) ∧ Below w.heap.size w w' ∧ IsSl w' (.slice (some ⟨w.heap.size + 2, 0, none⟩) 13 13) phases := by
  have h1 := ((IsSl.litAt w w.heap.size bounds rfl (by simp [maxLen, bounds])).later (al _ (.cells (bounds.map (Value.int .i64)).toArray 3))).later (al _ (.cells (phases.map (Value.int .i64)).toArray 3))
  have h2 := (IsSl.litAt (w.alloc (.cells (bounds.map (Value.int .i64)).toArray 3)) (w.heap.size + 1) bounds (by simp) (by simp [maxLen, bounds])).later (al _ (.cells (phases.map (Value.int .i64)).toArray 3))
  have h3 := IsSl.litAt ((w.alloc (.cells (bounds.map (Value.int .i64)).toArray 3)).alloc (.cells (bounds.map (Value.int .i64)).toArray 3)) (w.heap.size + 2) phases (by simp) (by simp [maxLen, phases])
  refine (same_any _ _ bounds _ h1 h2 (by decide)).mono ?_
  rintro e w' ⟨rfl, hb⟩
  exact ⟨rfl, below_trans (below_trans (below_trans (al _ _) (al _ _)) (al _ _)) hb, h3.later hb⟩
theorem same_phases (w : World) (v : Value) (h : IsSl w v phases) : Calls Tryd.prog 15 #[v, .slice (some ⟨w.heap.size, 0, none⟩) 13 13] (w.alloc (.cells (phases.map (Value.int .i64)).toArray 3))
    fun e w' => e = .returned (.bool true) ∧ Below w.heap.size w w' := by
  refine (same_any _ _ phases _ (h.later (al _ _)) (IsSl.litAt w w.heap.size phases rfl (by simp [maxLen, phases])) (by decide)).mono ?_
  rintro e w' ⟨rfl, hb⟩
  exact ⟨rfl, below_trans (al _ _) hb⟩
/-- Code(&api.Fault), its place 7, round the error number k + 1. -/
theorem code_seven (A : Nat → Addr) (k : Nat) (w : World) (hE : Held9 w A) (hk : k < 9) :
    Calls Tryd.prog 16 #[.iface 29 (.pointer (some ⟨w.heap.size, 0, none⟩))] (w.alloc (.cells #[.int .i64 7, .iface 107 (.pointer (some (A k)))] 31)) fun e w' => e = .returned (.tuple #[.int .i64 ((k : Int) + 1), .int .i64 7]) ∧ Below w.heap.size w w' := by
  refine (codeF_at A w.heap.size 0 7 k _ (hE.later (al _ _)) hk ?_ ?_).mono ?_
  · rw [World.cell?_alloc_at _ _ _ _ rfl]; rfl
  · rw [World.cell?_alloc_at _ _ _ _ rfl]; rfl
  · rintro e w' ⟨rfl, hb⟩
    exact ⟨rfl, below_trans (al _ _) hb⟩

set_option maxRecDepth 100000 in
set_option maxHeartbeats 4000000 in
theorem names_any (A : Nat → Addr) (w : World) (hE : Held9 w A) :
    Calls Tryd.prog 3 #[] w fun e w' => e = .returned (.bool true) ∧ Below w.heap.size w w' := by
  have H := hid hE
  clear hE
  go_enter Tryd.func3, Tryd.ntmps3
  go_wp2_with fail
  refine (same_bounds w).mono ?_
  rintro e w1 ⟨rfl, hb1, hs1⟩
  go_wp2_with fail
  refine (same_phases w1 _ hs1).mono ?_
  rintro e w2 ⟨rfl, hb2⟩
  have hB2 := below_trans hb1 hb2
  obtain ⟨g0, g1, g2, g3, g4, g5, g6, g7, g8⟩ := (H.out.later hB2).cells
  clear hb1 hs1 hb2
  go_wp2_with fail
  have hB3 := hid (below_trans hB2 (al w2 (.cells #[.iface 107 (.pointer (some (A 0))), .iface 107 (.pointer (some (A 1))), .iface 107 (.pointer (some (A 2))), .iface 107 (.pointer (some (A 3))), .iface 107 (.pointer (some (A 4))), .iface 107 (.pointer (some (A 5))), .iface 107 (.pointer (some (A 6))), .iface 107 (.pointer (some (A 7))), .iface 107 (.pointer (some (A 8)))] 25)))
  have hcell : ∀ k, k < 9 → (w2.alloc (.cells #[.iface 107 (.pointer (some (A 0))), .iface 107 (.pointer (some (A 1))), .iface 107 (.pointer (some (A 2))), .iface 107 (.pointer (some (A 3))), .iface 107 (.pointer (some (A 4))), .iface 107 (.pointer (some (A 5))), .iface 107 (.pointer (some (A 6))), .iface 107 (.pointer (some (A 7))), .iface 107 (.pointer (some (A 8)))] 25)).cell? ⟨w2.heap.size, k, none⟩ = some (.iface 107 (.pointer (some (A k)))) := fun k hk => errArr_at A k hk w2 25
  have HC := hid hcell
  clear g0 g1 g2 g3 g4 g5 g6 g7 g8 hcell hB2
  go_loopw [5] (fun i wr => ∃ k : Nat, k ≤ 9 ∧ i = .int .i64 k ∧ Below (w2.alloc (.cells #[.iface 107 (.pointer (some (A 0))), .iface 107 (.pointer (some (A 1))), .iface 107 (.pointer (some (A 2))), .iface 107 (.pointer (some (A 3))), .iface 107 (.pointer (some (A 4))), .iface 107 (.pointer (some (A 5))), .iface 107 (.pointer (some (A 6))), .iface 107 (.pointer (some (A 7))), .iface 107 (.pointer (some (A 8)))] 25)).heap.size (w2.alloc (.cells #[.iface 107 (.pointer (some (A 0))), .iface 107 (.pointer (some (A 1))), .iface 107 (.pointer (some (A 2))), .iface 107 (.pointer (some (A 3))), .iface 107 (.pointer (some (A 4))), .iface 107 (.pointer (some (A 5))), .iface 107 (.pointer (some (A 6))), .iface 107 (.pointer (some (A 7))), .iface 107 (.pointer (some (A 8)))] 25)) wr) (fun i _ => 9 - (intOf i).toNat)
  case atStart => exact ⟨0, Nat.zero_le _, rfl, Below.refl _ _⟩
  case round =>
    obtain ⟨k, hk, rfl, hnx⟩ := hrel
    have hW := hid (below_trans hB3.out hnx)
    by_cases hlt : k < 9
    · have hck := cell_later hnx (HC.out k hlt)
      have HCK := hid hck
      have HNX := hid hnx
      clear hnx
      go_wp2_with (first | (go_at_call 16; refine (code_seven A k wr (H.out.later hW.out) hlt).mono ?_; rintro e w4 ⟨rfl, hb4⟩; have hck4 := cell_later hb4 HCK.out) | (go_at_call 17; refine (coded_yes A k _ _ (H.out.later (below_trans hW.out hb4)) hlt (by omega)).mono ?_; rintro e w5 ⟨rfl, hb5⟩))
      go_roundw
      case rel => exact ⟨k + 1, by omega, by go_num, below_trans (below_trans HNX.out hb4) hb5⟩
      case measure => simp [intOf]; omega
    · have HNX := hid hnx
      clear hnx
      go_wp2_with (first | (go_at_call 18; refine (new_any _ _).mono ?_; rintro e w4 ⟨rfl, rfl⟩) | (go_at_call 16; refine (code_new A _ wr (H.out.later hW.out)).mono ?_; rintro e w5 ⟨rfl, hb5⟩) | (go_at_call 17; refine (coded_ok _).mono ?_; rintro e w6 ⟨rfl, rfl⟩))
      go_ret
      exact ⟨rfl, below_trans hW.out hb5⟩
end Go.Proofs.YtkbbjkiinpimiaaDoor
