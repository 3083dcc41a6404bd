/-
  WALKS of the law's own helpers: OwnInts (a slice's own copy), heavier (a closed fact).
-/
import Derived.Test.YtkopfpaldmapdaaDoorW4
import Derived.Laws.AppendOwnNone
namespace Go.Proofs.YtkopfpaldmapdaaDoor
open Go.RowKit

theorem Tryd.infoInt : (Tryd.prog.info? 3).map (fun i => (i.zero, i.size, i.bytes)) = some (some (.int .i64 0), 1, 8) := by kernel_rfl

/-- A row of integers that is owned is a slice of them. -/
theorem IsSl.owned {w : World} {base : Nat} {v : Value} {zs : List Int} (h : w.ownsRow base 3 1 v zs.length (zs.map (Value.int .i64))) (hm : zs.length ≤ maxLen) : IsSl w v zs := by
  have hc := h
  rcases h.2 with ⟨rfl, h0⟩ | ⟨g, cap, cur, rfl, hb, hg, hle, hcap, hsz, htk⟩
  · exact ⟨none, 0, by rw [h0], hm, fun _ => rfl, fun hl => by omega⟩
  · refine ⟨_, cap, rfl, hm, (fun h => by cases h), fun _ => ⟨g, 0, rfl, fun i hi => ?_⟩⟩
    have := hc.cellAt i (by omega)
    rw [Nat.zero_add, this]
    simp [hi]

set_option maxHeartbeats 400000 in
/-- OwnInts: a slice of the same numbers, in memory of its own. -/
theorem ownInts_own (v : Value) (zs : List Int) (w : World) (hv : IsSl w v zs) (hl : zs.length ≤ 30) :
    Calls Tryd.prog 29 #[v] w fun e w' => ∃ v', e = .returned v' ∧ w'.ownsRow w.heap.size 3 1 v' zs.length (zs.map (Value.int .i64)) ∧ Below w.heap.size w w' := by
  obtain ⟨i0, hi, hz0, hz1, hz2⟩ := info_parts Tryd.infoInt
  obtain ⟨a, cap, rfl, hm, hn, hc⟩ := hv
  have HM := hid hm
  cases a with
  | none =>
    have hcap := hn rfl
    subst hcap
    have hz : zs = [] := by
      cases zs with
      | nil => rfl
      | cons x r => obtain ⟨b, off, h, _⟩ := hc (by simp); cases h
    subst hz
    clear hn hc
    go_enter Tryd.func29, Tryd.ntmps29
    go_wp2_with (at_builtin; refine wpList_append_own_none rfl _ _ 47 rfl w.heap.size 3 i0 1 Tryd.underlying47 hi _ 0 [] rfl (World.ownsRow_nil _ _ _ _) rfl ?_)
    go_ret
    exact ⟨_, rfl, World.ownsRow_nil _ _ _ _, Below.refl _ _⟩
  | some ad =>
    have HC : Hid (∀ j u, (zs.map (Value.int .i64))[j]? = some u → w.cell? (ad.add j) = some u) := by
      intro j u hj
      rw [List.getElem?_map] at hj
      rcases Nat.lt_or_ge j zs.length with h | h
      · obtain ⟨b, off, e, hcc⟩ := hc (by omega)
        have e' := Option.some.inj e
        subst e'
        rw [List.getElem?_eq_getElem h] at hj
        simp at hj
        subst hj
        have := hcc j h
        rw [getD_lt zs j h] at this
        rw [addr_add]; exact this
      · rw [List.getElem?_eq_none h] at hj; cases hj
    clear hc hn
    have HO : Hid (∀ u ∈ zs.map (Value.int .i64), u.oneCell' = true) := by
      intro u hu
      obtain ⟨n, -, rfl⟩ := List.mem_map.1 hu
      rfl
    go_enter Tryd.func29, Tryd.ntmps29
    go_wp2_with (at_builtin; refine wpList_append_own _ rfl _ _ 47 rfl w.heap.size 3 i0 (.int .i64 0) 1 8 Tryd.underlying47 hi hz0 hz1 hz2 rfl (by decide) _ 0 [] rfl (World.ownsRow_nil _ _ _ _) ad zs.length cap (zs.map (Value.int .i64)) rfl (by simp) HC.out HO.out (by have := HM.out; omega) (by omega) (Nat.le_refl _) ?_)
    intro v' w1 hown hgrow _
    have ho2 : w1.ownsRow w.heap.size 3 1 v' zs.length (zs.map (Value.int .i64)) := by simpa using hown
    clear hown
    go_wp2
    go_ret
    exact ⟨_, rfl, ho2, (Below.refl _ _).grown hgrow (Nat.le_refl _) (fun k h => by cases h)⟩
theorem ownInts_any (v : Value) (zs : List Int) (w : World) (hv : IsSl w v zs) (hl : zs.length ≤ 30) :
    Calls Tryd.prog 29 #[v] w fun e w' => ∃ v', e = .returned v' ∧ IsSl w' v' zs ∧ Below w.heap.size w w' := by
  refine (ownInts_own v zs w hv hl).mono ?_
  rintro e w' ⟨v', rfl, ho, hb⟩
  exact ⟨v', rfl, IsSl.owned ho (by unfold maxLen; omega), hb⟩


/-- A slice that a literal made: its cells lie in a new block. -/
theorem IsSl.lit (w : World) (zs : List Int) (hm : zs.length ≤ maxLen) : IsSl (w.alloc (.cells (zs.map (Value.int .i64)).toArray 3)) (.slice (some ⟨w.heap.size, 0, none⟩) zs.length zs.length) zs := by
  refine ⟨_, _, rfl, hm, (fun h => by cases h), fun _ => ⟨_, _, rfl, fun i hi => ?_⟩⟩
  rw [World.cell?_alloc_at _ _ _ _ rfl]
  simp [hi]
end Go.Proofs.YtkopfpaldmapdaaDoor
