/-
  THE CONTRACTS of weights.Check, checkSet, Enough, Sum at whatever slice of integers and whatever set.
-/
import Derived.Test.YtkopfpaldmapdaaDoorW3
namespace Go.Proofs.YtkopfpaldmapdaaDoor
open Go.RowKit

/-- A slice value whose elements are zs. -/
def IsSl (w : World) (v : Value) (zs : List Int) : Prop :=
  ∃ a cap, v = .slice a zs.length cap ∧ zs.length ≤ maxLen ∧ (a = none → cap = 0) ∧ (0 < zs.length → ∃ b off, a = some ⟨b, off, none⟩ ∧ ∀ i, i < zs.length → w.cell? ⟨b, off + i, none⟩ = some (.int .i64 (zs.getD i 0)))
theorem IsSl.later {w w' : World} {v : Value} {zs : List Int} (h : IsSl w v zs) (hb : Below w.heap.size w w') : IsSl w' v zs := by
  obtain ⟨a, cap, hv, hm, hn, hc⟩ := h
  refine ⟨a, cap, hv, hm, hn, fun hl => ?_⟩
  obtain ⟨b, off, ha, hcc⟩ := hc hl
  exact ⟨b, off, ha, fun i hi => cell_later hb (hcc i hi)⟩
theorem Held3.later {w w' : World} {A : Nat → Addr} (h : Held3 w A) (hb : Below w.heap.size w w') : Held3 w' A := fun i h1 h3 => cell_later hb (h i h1 h3)

theorem check_any (A : Nat → Addr) (v : Value) (zs : List Int) (w : World) (hv : IsSl w v zs) (hE : Held3 w A) :
    Calls Tryd.prog 79 #[v] w fun e w' => e = .returned (ev A (errW zs)) ∧ w' = w := by
  obtain ⟨a, cap, rfl, hm, -, hc⟩ := hv
  by_cases h : zs.length < 1 ∨ 7 < zs.length
  · rw [errW_shape h]; exact check_shape A a zs.length cap w hm h hE
  · obtain ⟨b, off, rfl, hcc⟩ := hc (by omega)
    exact check_in A b off cap zs w h hE hcc
theorem checkSet_any (A : Nat → Addr) (v : Value) (zs : List Int) (set : Int) (w : World) (hv : IsSl w v zs) (hE : Held3 w A) :
    Calls Tryd.prog 109 #[v, .int .i64 set] w fun e w' => e = .returned (ev A (errS zs set)) ∧ w' = w := by
  have hck := check_any A v zs w hv hE
  obtain ⟨a, cap, rfl, hm, -, hc⟩ := hv
  by_cases h : errW zs = 0
  · rw [h] at hck
    have := checkSet_s A a zs.length cap set w (errW_zero h).2.1 hE hck
    unfold errS; rw [if_pos h]; exact this
  · obtain ⟨c, hcc⟩ : ∃ c, errW zs = c + 1 := ⟨errW zs - 1, by omega⟩
    unfold errS; rw [if_neg h, hcc]; rw [hcc] at hck
    exact checkSet_w A a zs.length cap c set w hck

/-- What quorum's closure has captured: in world w, at the addresses p (scale's closure, over the weights' own box at r) and q (what all weigh). -/
def QF (w : World) (p q : Addr) (zs : List Int) : Prop :=
  ∃ (r : Addr) (b off cap : Nat), w.cell? p = some (.func (.func 115) #[] #[.pointer (some r)]) ∧ w.cell? q = some (.int .i64 (tot zs)) ∧ w.cell? r = some (.slice (some ⟨b, off, none⟩) zs.length cap) ∧
    ∀ i, i < zs.length → w.cell? ⟨b, off + i, none⟩ = some (.int .i64 (zs.getD i 0))
theorem QF.later {w w' : World} {p q : Addr} {zs : List Int} (h : QF w p q zs) (hb : Below w.heap.size w w') : QF w' p q zs := by
  obtain ⟨r, b, off, cap, h1, h2, h3, h4⟩ := h
  exact ⟨r, b, off, cap, cell_later hb h1, cell_later hb h2, cell_later hb h3, fun i hi => cell_later hb (h4 i hi)⟩
theorem quorum_q (b off cap : Nat) (zs : List Int) (w : World) (hl : zs.length ≤ 7) (hok : okTo zs zs.length)
    (hc : ∀ i, i < zs.length → w.cell? ⟨b, off + i, none⟩ = some (.int .i64 (zs.getD i 0))) :
    Calls Tryd.prog 110 #[.slice (some ⟨b, off, none⟩) zs.length cap] w fun e w' => ∃ p q : Addr, e = .returned (.func (.func 114) #[] #[.pointer (some p), .pointer (some q)]) ∧ QF w' p q zs ∧ Below w.heap.size w w' := by
  refine (quorum_any b off cap zs w hl hok hc).mono ?_
  rintro e w' ⟨rfl, rfl⟩
  have hb : Below w.heap.size w (((w.alloc (.cells #[.slice (some ⟨b, off, none⟩) zs.length cap] 47)).alloc (.cells #[.func (.func 115) #[] #[.pointer (some ⟨w.heap.size, 0, none⟩)]] 60)).alloc (.cells #[.int .i64 (tot zs)] 3)).drew :=
    ((((Below.refl _ _).alloc (Nat.le_refl _) _).alloc (by simp) _).alloc (by simp; omega) _).drew
  refine ⟨_, _, rfl, ⟨⟨w.heap.size, 0, none⟩, b, off, cap, ?_, ?_, ?_, fun i hi => cell_later hb (hc i hi)⟩, hb⟩
  · simp only [World.cell?_drew]; exact cell_alloc _ (by simp)
  · simp only [World.cell?_drew]; rw [World.cell?_alloc_at _ _ _ _ (by simp)]; rfl
  · simp only [World.cell?_drew]; exact cell_alloc _ (cell_alloc _ (by simp))
theorem quorum1_q (p q : Addr) (zs : List Int) (set : Int) (w : World) (hl : zs.length ≤ 7) (hok : okTo zs zs.length) (h0 : 0 ≤ set) (h1 : set < 128) (hq : QF w p q zs) :
    Calls Tryd.prog 114 #[.int .i64 set, .pointer (some p), .pointer (some q)] w fun e w' => e = .returned (.bool (enoughB zs set)) ∧ Below w.heap.size w w' := by
  obtain ⟨r, b, off, cap, g1, g2, g3, g4⟩ := hq
  refine (quorum1_any p q r b off cap zs set w hl hok h0 h1 g1 g2 g3 g4).mono ?_
  rintro e w' ⟨rfl, n, rfl⟩
  exact ⟨rfl, below_drewN (Below.refl _ _) n⟩

/-- Enough, a set or weights that are not well: false and the error. -/
theorem enough_bad (A : Nat → Addr) (v : Value) (zs : List Int) (set : Int) (c : Nat) (w : World) (hv : IsSl w v zs) (hE : Held3 w A) (hc : errS zs set = c + 1) :
    Calls Tryd.prog 103 #[v, .int .i64 set] w fun e w' => e = .returned (.tuple #[.bool false, .iface 189 (.pointer (some (A c)))]) ∧ w' = w := by
  have hck := checkSet_any A v zs set w hv hE
  rw [hc] at hck
  have H : Hid (Calls Tryd.prog 109 #[v, .int .i64 set] w fun e w' => e = .returned (.iface 189 (.pointer (some (A c)))) ∧ w' = w) := hck
  clear hck hE hc
  obtain ⟨a, cap, rfl, -, -, -⟩ := hv
  go_enter Tryd.func103, Tryd.ntmps103
  go_wp2_with (go_at_call 109; refine H.out.mono ?_; rintro e w' ⟨rfl, rfl⟩)
  go_ret2
  exact ⟨rfl, rfl⟩
/-- Enough, all well. -/
theorem enough_ok (A : Nat → Addr) (v : Value) (zs : List Int) (set : Int) (w : World) (hv : IsSl w v zs) (hE : Held3 w A) (hc : errS zs set = 0) :
    Calls Tryd.prog 103 #[v, .int .i64 set] w fun e w' => e = .returned (.tuple #[.bool (enoughB zs set), .nilIface]) ∧ Below w.heap.size w w' := by
  have hck := checkSet_any A v zs set w hv hE
  rw [hc] at hck
  have H : Hid (Calls Tryd.prog 109 #[v, .int .i64 set] w fun e w' => e = .returned .nilIface ∧ w' = w) := hck
  obtain ⟨h1, h2, h3⟩ := errS_zero hc
  obtain ⟨h4, h5, h6, -⟩ := errW_zero h1
  have hp := pow_le7 h5
  clear hck hE hc
  obtain ⟨a, cap, rfl, -, -, hcc⟩ := hv
  obtain ⟨b, off, rfl, hcell⟩ := hcc (by omega)
  clear hcc
  have HC := hid hcell
  clear hcell h1
  go_enter Tryd.func103, Tryd.ntmps103
  go_wp2_with (first | (go_at_call 109; refine H.out.mono ?_; rintro e w' ⟨rfl, rfl⟩) | (go_at_call 110; refine (quorum_q b off cap zs _ h5 h6 HC.out).mono ?_; rintro e w1 ⟨p, q, rfl, hQ, hb⟩) | (go_at_call 114; refine (quorum1_q p q zs set _ h5 h6 h2 (by omega) hQ).mono ?_; rintro e w2 ⟨rfl, hb2⟩))
  go_ret2
  exact ⟨rfl, hb.trans (hb2.mono hb.size)⟩
end Go.Proofs.YtkopfpaldmapdaaDoor
