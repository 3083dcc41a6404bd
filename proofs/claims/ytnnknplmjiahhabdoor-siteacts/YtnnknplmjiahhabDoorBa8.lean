/-
  WALKS of the document's answer (threefoldref1): DealOf, OpenError.
  WALKS of the document's answer (threefoldref1): OpenError.
  THE DOCUMENT's JOURNAL IN MEMORY: its plate, a row of six numbers, a row of six states; what Open's two appends a round make.
  THE WALK of the document's Open.
  What a write by the plate's own answer is.
  WALKS of package journal: Open, Get.
  A JOURNAL AND ITS PLATE; what the three writes of a slot leave.
-/
import Derived.Test.YtnnknplmjiahhabDoorBa4
import Derived.Test.YtnnknplmjiahhabDoorBa6
import Derived.Test.YtnnknplmjiahhabDoorBa7
import Derived.Test.YtnnknplmjiahhabDoorBa1
import Derived.Deep.AppendLies
import Derived.Deep.RegionHeldLaw
import Derived.Deep.RegionLaw
namespace Go.Proofs.YtnnknplmjiahhabDoor
open Go.RowKit

theorem rheld_is (B : ByteArray) (k n h1 h2 h3 : Nat) (z : Int) (w : World) (hz : z = (k : Int)) (hB : B.size ≤ 1000) (hk : 18 * (k + 1) ≤ B.size) (h : heldL k (slotL B.data.toList k) = (n, ⟨h1, h2, h3⟩)) :
    Calls Tryd.prog 68 #[.string B, .int .i64 z] w fun e w' => e = .returned (.tuple #[.int .i64 (n : Int), .agg #[.int .i64 (h1 : Int), .int .i64 (h2 : Int), .int .i64 (h3 : Int)]]) ∧ Below w.heap.size w w' := by
  subst hz
  have := rheld_any B k w hB hk
  rw [h] at this
  exact this
set_option maxHeartbeats 4000000 in
set_option maxRecDepth 100000 in
theorem rdeal_any (B : ByteArray) (d n h1 h2 h3 : Nat) (w : World) (hB : B.size ≤ 1000) (hd : 36 * (d + 1) ≤ B.size) (h : dealL B.data.toList d = (n, ⟨h1, h2, h3⟩)) :
    Calls Tryd.prog 50 #[.string B, .int .i64 (d : Int)] w fun e w' => e = .returned (.tuple #[.int .i64 (n : Int), .agg #[.int .i64 (h1 : Int), .int .i64 (h2 : Int), .int .i64 (h3 : Int)]]) ∧ Below w.heap.size w w' := by
  obtain ⟨⟨n1, a1, a2, a3⟩, HA⟩ : ∃ x, Hid (heldL (2 * d) (slotL B.data.toList (2 * d)) = x) := ⟨_, rfl⟩
  obtain ⟨⟨n2, b1, b2, b3⟩, HBb⟩ : ∃ x, Hid (heldL (2 * d + 1) (slotL B.data.toList (2 * d + 1)) = x) := ⟨_, rfl⟩
  have HD : Hid ((if n1 < n2 then (n2, (⟨b1, b2, b3⟩ : St)) else (n1, ⟨a1, a2, a3⟩)) = (n, ⟨h1, h2, h3⟩)) := by unfold Hid; rw [← h]; unfold dealL; rw [HA.out, HBb.out]
  have Z1 : Hid ((2 * (d : Int)) = ((2 * d : Nat) : Int)) := by unfold Hid; omega
  have Z2 : Hid ((2 * (d : Int) + 1) = ((2 * d + 1 : Nat) : Int)) := by unfold Hid; omega
  clear h
  obtain ⟨X0, HX0⟩ : ∃ X, Hid (w.alloc (.cells #[.int .i64 0, .int .i64 0, .int .i64 0] 34) = X) := ⟨_, rfl⟩
  have hX0 := HX0.out
  have R0 : Hid (X0.heap[w.heap.size]? = some (.cells #[.int .i64 0, .int .i64 0, .int .i64 0] 34 (0, 0))) := by rw [← HX0.out]; exact heap_alloc_new w _
  have HB0 : Hid (Below w.heap.size w X0) := by rw [← HX0.out]; exact (Below.refl _ _).alloc (Nat.le_refl _) _
  go_enter Tryd.func50, Tryd.ntmps50
  go_wp2_with fail
  refine (rheld_is B (2 * d) n1 a1 a2 a3 _ _ Z1.out hB (by omega) HA.out).mono ?_
  rintro e w1 ⟨rfl, hb1⟩
  have R1 := hid ((hb1.block _ (row_ltJ R0.out)).trans R0.out)
  have HB1 := hid (HB0.out.trans (hb1.mono HB0.out.size))
  clear hb1
  obtain ⟨X1, HX1⟩ : ∃ X, Hid (w1.alloc (.cells #[.int .i64 (a1 : Int), .int .i64 (a2 : Int), .int .i64 (a3 : Int)] 34) = X) := ⟨_, rfl⟩
  obtain ⟨g1, Hg1⟩ : ∃ n, Hid (w1.heap.size = n) := ⟨_, rfl⟩
  have hX1 := HX1.out
  have hg1 := Hg1.out
  have S1 : Hid (X1.heap[g1]? = some (.cells #[.int .i64 (a1 : Int), .int .i64 (a2 : Int), .int .i64 (a3 : Int)] 34 (0, 0))) := by rw [← HX1.out, ← Hg1.out]; exact heap_alloc_new w1 _
  have R1b : Hid (X1.heap[w.heap.size]? = some (.cells #[.int .i64 0, .int .i64 0, .int .i64 0] 34 (0, 0))) := by rw [← HX1.out]; exact (Below.heap_alloc w1 _ _ (row_ltJ R1.out)).trans R1.out
  have HB1b : Hid (Below w.heap.size w X1) := by rw [← HX1.out]; exact HB1.out.alloc HB1.out.size _
  go_wp2_with fail
  refine (rheld_is B (2 * d + 1) n2 b1 b2 b3 _ _ Z2.out hB (by omega) HBb.out).mono ?_
  rintro e w2 ⟨rfl, hb2⟩
  have R2 := hid ((hb2.block _ (row_ltJ R1b.out)).trans R1b.out)
  have S2 := hid ((hb2.block _ (row_ltJ S1.out)).trans S1.out)
  have HB2 := hid (HB1b.out.trans (hb2.mono HB1b.out.size))
  clear hb2
  obtain ⟨X2, HX2⟩ : ∃ X, Hid (w2.alloc (.cells #[.int .i64 (b1 : Int), .int .i64 (b2 : Int), .int .i64 (b3 : Int)] 34) = X) := ⟨_, rfl⟩
  obtain ⟨g2, Hg2⟩ : ∃ n, Hid (w2.heap.size = n) := ⟨_, rfl⟩
  have hX2 := HX2.out
  have hg2 := Hg2.out
  have S3 : Hid (X2.heap[g2]? = some (.cells #[.int .i64 (b1 : Int), .int .i64 (b2 : Int), .int .i64 (b3 : Int)] 34 (0, 0))) := by rw [← HX2.out, ← Hg2.out]; exact heap_alloc_new w2 _
  have S2b : Hid (X2.heap[g1]? = some (.cells #[.int .i64 (a1 : Int), .int .i64 (a2 : Int), .int .i64 (a3 : Int)] 34 (0, 0))) := by rw [← HX2.out]; exact (Below.heap_alloc w2 _ _ (row_ltJ S2.out)).trans S2.out
  have R2b : Hid (X2.heap[w.heap.size]? = some (.cells #[.int .i64 0, .int .i64 0, .int .i64 0] 34 (0, 0))) := by rw [← HX2.out]; exact (Below.heap_alloc w2 _ _ (row_ltJ R2.out)).trans R2.out
  have HB2b : Hid (Below w.heap.size w X2) := by rw [← HX2.out]; exact HB2.out.alloc HB2.out.size _
  have v0 : X2.cell? ⟨w.heap.size, 0, none⟩ = some (.int .i64 0) := by rw [cell_of_row _ _ _ _ _ _ R2b.out]; rfl
  have v1 : X2.cell? ⟨w.heap.size, 1, none⟩ = some (.int .i64 0) := by rw [cell_of_row _ _ _ _ _ _ R2b.out]; rfl
  have v2 : X2.cell? ⟨w.heap.size, 2, none⟩ = some (.int .i64 0) := by rw [cell_of_row _ _ _ _ _ _ R2b.out]; rfl
  have f0 := frozen_of_row X2 w.heap.size 0 _ _ R2b.out
  have f1 := frozen_of_row X2 w.heap.size 1 _ _ R2b.out
  have f2 := frozen_of_row X2 w.heap.size 2 _ _ R2b.out
  have c0 : X2.cell? ⟨g1, 0, none⟩ = some (.int .i64 (a1 : Int)) := by rw [cell_of_row _ _ _ _ _ _ S2b.out]; rfl
  have c1 : X2.cell? ⟨g1, 1, none⟩ = some (.int .i64 (a2 : Int)) := by rw [cell_of_row _ _ _ _ _ _ S2b.out]; rfl
  have c2 : X2.cell? ⟨g1, 2, none⟩ = some (.int .i64 (a3 : Int)) := by rw [cell_of_row _ _ _ _ _ _ S2b.out]; rfl
  have e0 : X2.cell? ⟨g2, 0, none⟩ = some (.int .i64 (b1 : Int)) := by rw [cell_of_row _ _ _ _ _ _ S3.out]; rfl
  have e1 : X2.cell? ⟨g2, 1, none⟩ = some (.int .i64 (b2 : Int)) := by rw [cell_of_row _ _ _ _ _ _ S3.out]; rfl
  have e2 : X2.cell? ⟨g2, 2, none⟩ = some (.int .i64 (b3 : Int)) := by rw [cell_of_row _ _ _ _ _ _ S3.out]; rfl
  have hdd := HD.out
  by_cases hc : n1 < n2
  · rw [if_pos hc] at hdd
    obtain ⟨rfl, rfl, rfl, rfl⟩ : n2 = n ∧ b1 = h1 ∧ b2 = h2 ∧ b3 = h3 := by simpa using hdd
    clear hdd
    go_wp2_with fail
    go_region
    all_goals go_wp2_with fail
    refine bodyPost_ret (results_row3 rfl _ _ w.heap.size 34 _ (0, 0) _ rfl (set3R R2b.out _ _ _) Tryd.underlying34 rfl sizeStR) rfl ?_
    exact ⟨rfl, (((HB2b.out.setCell (Nat.le_refl _) _).setCell (Nat.le_refl _) _).setCell (Nat.le_refl _) _).drew⟩
  · rw [if_neg hc] at hdd
    obtain ⟨rfl, rfl, rfl, rfl⟩ : n1 = n ∧ a1 = h1 ∧ a2 = h2 ∧ a3 = h3 := by simpa using hdd
    clear hdd
    go_wp2_with fail
    go_region
    all_goals go_wp2_with fail
    refine bodyPost_ret (results_row3 rfl _ _ w.heap.size 34 _ (0, 0) _ rfl (set3R R2b.out _ _ _) Tryd.underlying34 rfl sizeStR) rfl ?_
    exact ⟨rfl, (((HB2b.out.setCell (Nat.le_refl _) _).setCell (Nat.le_refl _) _).setCell (Nat.le_refl _) _).drew⟩
end Go.Proofs.YtnnknplmjiahhabDoor
namespace Go.Proofs.YtnnknplmjiahhabDoor
open Go.RowKit

set_option maxRecDepth 100000 in
theorem ropenerr_any (r : Nat) (B : ByteArray) (off cuts : Bool) (l : Int) (w : World) (h : RP w r B off l cuts) (hB : B.size ≤ 1000) :
    Calls Tryd.prog 16 #[.pointer (some ⟨r, 0, none⟩)] w fun e w' => e = .returned (.int .i64 (if B.size < 216 then 2 else if off then 6 else 0)) ∧ w' = w := by
  have c0 := h.c0
  have c1 := h.c1
  clear h
  by_cases hs : B.size < 216
  · rw [if_pos hs]
    go_enter Tryd.func16, Tryd.ntmps16
    go_wp2
    go_ret
    exact ⟨rfl, rfl⟩
  · rw [if_neg hs]
    cases off with
    | true =>
      go_enter Tryd.func16, Tryd.ntmps16
      go_wp2
      go_ret
      exact ⟨rfl, rfl⟩
    | false =>
      go_enter Tryd.func16, Tryd.ntmps16
      go_wp2
      go_ret
      exact ⟨rfl, rfl⟩
end Go.Proofs.YtnnknplmjiahhabDoor
namespace Go.Proofs.YtnnknplmjiahhabDoor
open Go.RowKit

def numsTo (E : Nat → Nat × St) (k : Nat) : List Value := (List.range k).map fun d => .int .i64 ((E d).1 : Int)
def statesTo (E : Nat → Nat × St) (k : Nat) : List Value := (List.range k).flatMap fun d => [.int .i64 ((E d).2.ph : Int), .int .i64 ((E d).2.pr : Int), .int .i64 ((E d).2.at_ : Int)]
theorem numsTo_succ (E : Nat → Nat × St) (k : Nat) : numsTo E (k + 1) = numsTo E k ++ [.int .i64 ((E k).1 : Int)] := by simp [numsTo, List.range_succ]
theorem statesTo_succ (E : Nat → Nat × St) (k : Nat) : statesTo E (k + 1) = statesTo E k ++ [.int .i64 ((E k).2.ph : Int), .int .i64 ((E k).2.pr : Int), .int .i64 ((E k).2.at_ : Int)] := by simp [statesTo, List.range_succ]
/-- The journal while it is opened: k1 numbers, k2 states. -/
structure OpS (w0 w : World) (m r : Nat) (E : Nat → Nat × St) (vN vS : Value) (k1 k2 : Nat) : Prop where
  row : w.heap[m]? = some (.cells #[.pointer (some ⟨r, 0, none⟩), vN, vS, .bool false] 65 (0, 0))
  nN : w.ownsRow (m + 1) 3 1 vN k1 (numsTo E k1)
  nS : w.ownsRow (m + 1) 34 3 vS k2 (statesTo E k2)
  ne : ∀ b, vN.ownBlock = some b → vS.ownBlock ≠ some b
  bel : Below m w0 w
section
variable {w0 w W w' : World} {m r : Nat} {E : Nat → Nat × St} {vN vS : Value} {k1 k2 : Nat}
theorem OpS.mlt (h : OpS w0 w m r E vN vS k1 k2) : m < w.heap.size := row_ltJ h.row
theorem OpS.later (h : OpS w0 w m r E vN vS k1 k2) (hb : Below w.heap.size w w') : OpS w0 w' m r E vN vS k1 k2 :=
  ⟨(hb.block _ h.mlt).trans h.row, own_later h.nN hb (Nat.le_refl _), own_later h.nS hb (Nat.le_refl _), h.ne, h.bel.trans (hb.mono (Nat.le_of_lt h.mlt))⟩
theorem own_setOther {e : TypeId} {size n base : Nat} {v : Value} {xs : List Value} (h : w.ownsRow base e size v n xs) (hm : m < base) (i : Nat) (x : Value) : (w.setCell ⟨m, i, none⟩ x).ownsRow base e size v n xs := by
  refine ⟨h.1, ?_⟩
  rcases h.2 with hn | ⟨g, cap, cur, rfl, hb', hgg, rest⟩
  · exact .inl hn
  · exact .inr ⟨g, cap, cur, rfl, hb', (Below.heap_setCell _ _ _ _ (by show g ≠ m; omega)).trans hgg, rest⟩
theorem grown_row {row : Option Nat} (hg : W.grownBy w' row) {b : Nat} {o : Obj} (h : W.heap[b]? = some o) (hne : some b ≠ row) : w'.heap[b]? = some o := (hg.block b (row_ltJ h) hne).trans h
theorem OpS.pushN {g n cap H : Nat} (h : OpS w0 w m r E vN vS k1 k2) (hb : Below w.heap.size w W) (hg : W.grownBy w' vN.ownBlock) (hown : w'.ownsRow (m + 1) 3 1 (.slice (some ⟨g, 0, none⟩) n cap) (k1 + 1) (numsTo E (k1 + 1)))
    (hat : vN.ownBlock = some g ∨ g = H) (hH : w.heap.size ≤ H) : OpS w0 (w'.setCell ⟨m, 1, none⟩ (.slice (some ⟨g, 0, none⟩) n cap)) m r E (.slice (some ⟨g, 0, none⟩) n cap) vS (k1 + 1) k2 := by
  have hW := h.later hb
  have hmn : some m ≠ vN.ownBlock := fun e => by have := (h.nN.lt m e.symm).1; omega
  have hr := grown_row hg hW.row hmn
  refine ⟨heap_setCell_same w' m 1 _ _ _ hr, own_setOther hown (by omega) _ _, own_setOther (hW.nS.kept hg ?_) (by omega) _ _, ?_, ?_⟩
  · cases hs : vS.ownBlock with
    | none => exact .inl rfl
    | some b => exact .inr fun e => (h.ne b e.symm) hs
  · intro b hb' hs
    have hbg : b = g := by simpa [Value.ownBlock] using hb'.symm
    subst hbg
    rcases hat with e | e
    · exact h.ne _ e hs
    · have := (h.nS.lt _ hs).2; omega
  · refine (Below.grown hW.bel hg (Nat.le_of_lt hW.mlt) ?_).setCell (Nat.le_refl _) _
    intro j hj
    have := (h.nN.lt j hj).1
    omega
theorem OpS.pushS {g n cap H : Nat} (h : OpS w0 w m r E vN vS k1 k2) (hb : Below w.heap.size w W) (hg : W.grownBy w' vS.ownBlock) (hown : w'.ownsRow (m + 1) 34 3 (.slice (some ⟨g, 0, none⟩) n cap) (k2 + 1) (statesTo E (k2 + 1)))
    (hat : vS.ownBlock = some g ∨ g = H) (hH : w.heap.size ≤ H) : OpS w0 (w'.setCell ⟨m, 2, none⟩ (.slice (some ⟨g, 0, none⟩) n cap)) m r E vN (.slice (some ⟨g, 0, none⟩) n cap) k1 (k2 + 1) := by
  have hW := h.later hb
  have hmn : some m ≠ vS.ownBlock := fun e => by have := (h.nS.lt m e.symm).1; omega
  have hr := grown_row hg hW.row hmn
  refine ⟨heap_setCell_same w' m 2 _ _ _ hr, own_setOther (hW.nN.kept hg ?_) (by omega) _ _, own_setOther hown (by omega) _ _, ?_, ?_⟩
  · cases hs : vN.ownBlock with
    | none => exact .inl rfl
    | some b => exact .inr fun e => h.ne b hs e.symm
  · intro b hb' hs
    have hbg : b = g := by simpa [Value.ownBlock] using hs.symm
    subst hbg
    rcases hat with e | e
    · exact h.ne _ hb' e
    · have := (h.nN.lt _ hb').2; omega
  · refine (Below.grown hW.bel hg (Nat.le_of_lt hW.mlt) ?_).setCell (Nat.le_refl _) _
    intro j hj
    have := (h.nS.lt j hj).1
    omega
end
/-- The document's journal: its block, the rows of numbers and of states. -/
structure RJ (w : World) (m gn gs r : Nat) (E : Nat → Nat × St) (dead : Bool) : Prop where
  row : ∃ cn cs, w.heap[m]? = some (.cells #[.pointer (some ⟨r, 0, none⟩), .slice (some ⟨gn, 0, none⟩) 6 cn, .slice (some ⟨gs, 0, none⟩) 6 cs, .bool dead] 65 (0, 0))
  nums : ∃ N, w.heap[gn]? = some (.cells N 3 (0, 0)) ∧ ∀ d, d < 6 → N[d]? = some (.int .i64 ((E d).1 : Int))
  sts : ∃ S, w.heap[gs]? = some (.cells S 34 (0, 0)) ∧ ∀ d, d < 6 → S[d * 3]? = some (.int .i64 ((E d).2.ph : Int)) ∧ S[d * 3 + 1]? = some (.int .i64 ((E d).2.pr : Int)) ∧ S[d * 3 + 2]? = some (.int .i64 ((E d).2.at_ : Int))
  mn : m ≠ gn
  ms : m ≠ gs
  ns : gn ≠ gs
theorem OpS.done {w0 w : World} {m r : Nat} {E : Nat → Nat × St} {vN vS : Value} (h : OpS w0 w m r E vN vS 6 6) : ∃ gn gs, RJ w m gn gs r E false ∧ m < gn ∧ m < gs := by
  obtain ⟨row, nN, nS, ne, bel⟩ := h
  have hN := nN
  have hS := nS
  rcases nN.2 with ⟨_, h0⟩ | ⟨gn, cn, N, rfl, b1, hN1, -, -, -, htN⟩
  · omega
  rcases nS.2 with ⟨_, h0⟩ | ⟨gs, cs, S, rfl, b2, hS1, -, -, -, htS⟩
  · omega
  refine ⟨gn, gs, ⟨⟨cn, cs, row⟩, ⟨N, hN1, ?_⟩, ⟨S, hS1, ?_⟩, by omega, by omega, ?_⟩, by omega, by omega⟩
  · intro d hd
    have := hN.cellAt d (by omega)
    rw [cell_of_row _ _ _ _ _ _ hN1] at this
    rw [this]
    rcases six hd with rfl | rfl | rfl | rfl | rfl | rfl <;> rfl
  · intro d hd
    have c0 := hS.cellAt (d * 3) (by omega)
    have c1 := hS.cellAt (d * 3 + 1) (by omega)
    have c2 := hS.cellAt (d * 3 + 2) (by omega)
    rw [cell_of_row _ _ _ _ _ _ hS1] at c0 c1 c2
    rw [c0, c1, c2]
    rcases six hd with rfl | rfl | rfl | rfl | rfl | rfl <;> exact ⟨rfl, rfl, rfl⟩
  · intro e
    subst e
    exact ne gn rfl rfl
end Go.Proofs.YtnnknplmjiahhabDoor
namespace Go.Proofs.YtnnknplmjiahhabDoor
open Go.RowKit

theorem Tryd.infoS : (Tryd.prog.info? 34).map (fun i => (i.zero, i.size, i.bytes)) = some (some (.agg #[.int .i64 0, .int .i64 0, .int .i64 0]), 3, 24) := by kernel_rfl
set_option maxHeartbeats 4000000 in
set_option maxRecDepth 100000 in
theorem ropen_any (r : Nat) (B : ByteArray) (off cuts : Bool) (l : Int) (w : World) (h : RP w r B off l cuts) (hB : B.size ≤ 1000) (h6 : 216 ≤ B.size) :
    Calls Tryd.prog 31 #[.pointer (some ⟨r, 0, none⟩)] w fun e w' => ∃ m gn gs, e = .returned (.pointer (some ⟨m, 0, none⟩)) ∧ RJ w' m gn gs r (dealL B.data.toList) false ∧ Below w.heap.size w w' ∧ w.heap.size ≤ m ∧ w.heap.size ≤ gn ∧ w.heap.size ≤ gs := by
  obtain ⟨i0, hi, hz0, hz1, hz2⟩ := info_parts Tryd.infoI
  obtain ⟨j0, hj, hy0, hy1, hy2⟩ := info_parts Tryd.infoS
  obtain ⟨E, HE⟩ : ∃ E, Hid (dealL B.data.toList = E) := ⟨_, rfl⟩
  rw [HE.out]
  have H := hid h
  have hrl : r < w.heap.size := row_ltJ h
  clear h
  obtain ⟨W, HW⟩ : ∃ W, Hid (w.alloc (.cells #[.pointer (some ⟨r, 0, none⟩), .slice none 0 0, .slice none 0 0, .bool false] 65) = W) := ⟨_, rfl⟩
  have hW := HW.out
  have H0 : Hid (OpS w W w.heap.size r E (.slice none 0 0) (.slice none 0 0) 0 0) := by
    rw [← HW.out]
    exact ⟨heap_alloc_new w _, World.ownsRow_nil _ _ _ _, World.ownsRow_nil _ _ _ _, fun b hb => by simp [Value.ownBlock] at hb, (Below.refl _ _).alloc (Nat.le_refl _) _⟩
  obtain ⟨m, Hm⟩ : ∃ m, Hid (w.heap.size = m) := ⟨_, rfl⟩
  have hm := Hm.out
  rw [hm] at H0
  go_enter Tryd.func31, Tryd.ntmps31
  go_wp2_with fail
  go_loopw [4] (fun i wr => ∃ k : Nat, ∃ vN vS : Value, k ≤ 6 ∧ i = .int .i64 (k : Int) ∧ OpS w wr m r E vN vS k k) (fun i _ => 6 - (intOf i).toNat)
  case atStart => exact ⟨0, _, _, by omega, rfl, H0.out⟩
  case round =>
    obtain ⟨k, vN, vS, hk, rfl, hop⟩ := hrel
    have HO := hid hop
    clear hop
    by_cases hlt : k < 6
    · have cr : wr.cell? ⟨r, 0, none⟩ = some (.string B) := (H.out.kept (S := fun _ => False) (Kept.of_below (by rw [Hm.out]; exact HO.out.bel)) (fun x => x)).c0
      obtain ⟨⟨n, h1, h2, h3⟩, HD⟩ : ∃ x, Hid (E k = x) := ⟨_, rfl⟩
      have HD2 : Hid (dealL B.data.toList k = (n, ⟨h1, h2, h3⟩)) := by rw [HE.out]; exact HD.out
      go_wp2_with fail
      refine (rdeal_any B k n h1 h2 h3 wr hB (by omega) HD2.out).mono ?_
      rintro e w1 ⟨rfl, hb1⟩
      obtain ⟨X1, HX1⟩ : ∃ X, Hid (w1.alloc (.cells #[.int .i64 (h1 : Int), .int .i64 (h2 : Int), .int .i64 (h3 : Int)] 34) = X) := ⟨_, rfl⟩
      obtain ⟨sb, Hsb⟩ : ∃ n, Hid (w1.heap.size = n) := ⟨_, rfl⟩
      have hsb := Hsb.out
      have HB1 : Hid (Below wr.heap.size wr X1) := by rw [← HX1.out]; exact hb1.alloc hb1.size _
      have HS1 : Hid (X1.heap[sb]? = some (.cells #[.int .i64 (h1 : Int), .int .i64 (h2 : Int), .int .i64 (h3 : Int)] 34 (0, 0))) := by rw [← HX1.out, ← Hsb.out]; exact heap_alloc_new w1 _
      have HO1 := hid (HO.out.later HB1.out)
      have HOw := hid (HO.out.later hb1)
      have mlt : m < sb := by have h1 := HO.out.mlt; have h2 := hb1.size; have h3 := Hsb.out; omega
      have cN : w1.cell? ⟨m, 1, none⟩ = some vN := by rw [cell_of_row _ _ _ _ _ _ HOw.out.row]; rfl
      have HNS : Hid (numsTo E (k + 1) = numsTo E k ++ [.int .i64 (n : Int)]) := by unfold Hid; rw [numsTo_succ, HD.out]
      have HSS : Hid (statesTo E (k + 1) = statesTo E k ++ [.int .i64 (h1 : Int), .int .i64 (h2 : Int), .int .i64 (h3 : Int)]) := by unfold Hid; rw [statesTo_succ, HD.out]
      have HWr : Hid (wr.heap.size ≤ w1.heap.size) := hb1.size
      have HO1r : Hid (((w1.alloc (.cells #[.int .i64 (h1 : Int), .int .i64 (h2 : Int), .int .i64 (h3 : Int)] 34)).alloc (.cells #[.int .i64 (n : Int)] 3)).heap[m]? = some (.cells #[.pointer (some ⟨r, 0, none⟩), vN, vS, .bool false] 65 (0, 0))) := by
        rw [HX1.out]; exact (Below.heap_alloc _ _ _ HO1.out.mlt).trans HO1.out.row
      clear hb1 cr
      go_wp2_with (at_builtin; refine wpList_append_lies _ rfl (.tmp 27) (.tmp 29) 47 rfl (m + 1) 3 i0 (.int .i64 0) 1 8 Tryd.underlying47 hi hz0 hz1 hz2 rfl (by decide) vN k (numsTo E k) rfl (by exact World.ownsRow.alloc (World.ownsRow.alloc HOw.out.nN _) _) ⟨sb + 1, 0, none⟩ 1 1 [.int .i64 (n : Int)] rfl rfl ?d3 ?d4 (by decide) ?d5 ?d6 ?d7 (sb + 2) ?d8 ?_)
      case d3 =>
        have e : ((w1.alloc (.cells #[.int .i64 (h1 : Int), .int .i64 (h2 : Int), .int .i64 (h3 : Int)] 34)).heap.size) = sb + 1 := by rw [← Hsb.out]; simp
        rw [← e]
        exact lit_cells _ _ _
      case d4 => intro u hu; simp at hu; subst hu; rfl
      case d5 => unfold maxLen; omega
      case d6 => omega
      case d7 => simp; omega
      case d8 => simp; omega
      intro g3 c3 w3 hown3 hg3 hat3 hlt3
      have HX2 : Hid (Below wr.heap.size wr ((w1.alloc (.cells #[.int .i64 (h1 : Int), .int .i64 (h2 : Int), .int .i64 (h3 : Int)] 34)).alloc (.cells #[.int .i64 (n : Int)] 3))) := by
        rw [HX1.out]; exact HB1.out.alloc HB1.out.size _
      have HP := hid (HO.out.pushN HX2.out hg3 (by rw [HNS.out]; exact hown3) hat3 (by have h1 := HWr.out; have h3 := Hsb.out; omega))
      have HS3 : Hid (w3.heap[sb]? = some (.cells #[.int .i64 (h1 : Int), .int .i64 (h2 : Int), .int .i64 (h3 : Int)] 34 (0, 0))) := by
        refine grown_row hg3 (b := sb) ?_ ?_
        · rw [HX1.out]; exact (Below.heap_alloc _ _ _ (row_ltJ HS1.out)).trans HS1.out
        · intro e
          have h1 := (HO.out.nN.lt sb e.symm).2
          have h2 := HOw.out.bel.size
          have h3 := HB1.out.size
          have h4 := Hsb.out
          have h5 := HWr.out
          omega
      have hr3 := grown_row hg3 (b := m) (HO1r.out) (fun e => by have := (HO.out.nN.lt m e.symm).1; omega)
      have x1 : w3.cell? ⟨m, 1, none⟩ = some vN := by rw [cell_of_row _ _ _ _ _ _ hr3]; rfl
      have y1 := frozen_of_row w3 m 1 _ _ hr3
      clear hown3 hg3 hat3
      obtain ⟨X3, HX3⟩ : ∃ X, Hid (w3.setCell ⟨m, 1, none⟩ (.slice (some ⟨g3, 0, none⟩) (k + 1) c3) = X) := ⟨_, rfl⟩
      rw [HX3.out] at HP
      have HS4 : Hid (X3.heap[sb]? = some (.cells #[.int .i64 (h1 : Int), .int .i64 (h2 : Int), .int .i64 (h3 : Int)] 34 (0, 0))) := by
        rw [← HX3.out]; exact (Below.heap_setCell _ _ _ _ (by show sb ≠ m; omega)).trans HS3.out
      go_wp2_with fail
      rw [HX3.out]
      clear x1 y1 cN
      have x2 : X3.cell? ⟨m, 2, none⟩ = some vS := by rw [cell_of_row _ _ _ _ _ _ HP.out.row]; rfl
      have s0 : X3.cell? ⟨sb, 0, none⟩ = some (.int .i64 (h1 : Int)) := by rw [cell_of_row _ _ _ _ _ _ HS4.out]; rfl
      have s1 : X3.cell? ⟨sb, 1, none⟩ = some (.int .i64 (h2 : Int)) := by rw [cell_of_row _ _ _ _ _ _ HS4.out]; rfl
      have s2 : X3.cell? ⟨sb, 2, none⟩ = some (.int .i64 (h3 : Int)) := by rw [cell_of_row _ _ _ _ _ _ HS4.out]; rfl
      have mx3 := HP.out.mlt
      have HNM : Hid (some m ≠ vS.ownBlock) := fun e => by have := (HO.out.nS.lt m e.symm).1; omega
      have HNB : Hid (some sb ≠ vS.ownBlock) := fun e => by have h1 := (HO.out.nS.lt sb e.symm).2; have h2 := HWr.out; have h3 := Hsb.out; omega
      have HBX : Hid (Below X3.heap.size X3 (X3.alloc (.cells #[.int .i64 (h1 : Int), .int .i64 (h2 : Int), .int .i64 (h3 : Int)] 34)).drew) := ((Below.refl _ _).alloc (Nat.le_refl _) _).drew
      go_region_law ((refine step_append_lies _ (by rfl) _ _ _ (by rfl) (m + 1) 34 j0 (.agg #[.int .i64 0, .int .i64 0, .int .i64 0]) 3 24 Tryd.underlying32 hj hy0 hy1 hy2 (by rfl) (by decide) vS k (statesTo E k) (by rfl) (by exact World.ownsRow.alloc HP.out.nS _) ⟨X3.heap.size, 0, none⟩ 1 1 [.int .i64 (h1 : Int), .int .i64 (h2 : Int), .int .i64 (h3 : Int)] (by rfl) (by rfl) (by exact lit_cells X3 _ _) (by intro u hu; simp at hu; rcases hu with rfl | rfl | rfl <;> rfl) (by decide) (by unfold maxLen; omega) (by omega) (by exact Nat.le_trans mx3 (by simp)) (X3.heap.size + 1) (by simp) ?_; intro g5 c5 w5 hown5 hg5 hat5 hlt5; have HQ5 := hid (HP.out.pushS HBX.out hg5 (by rw [HSS.out]; exact hown5) hat5 (by omega)); have hr5 := grown_row hg5 (b := m) (show (X3.alloc (.cells #[.int .i64 (h1 : Int), .int .i64 (h2 : Int), .int .i64 (h3 : Int)] 34)).drew.heap[m]? = _ from (Below.heap_alloc X3 _ _ mx3).trans HP.out.row) HNM.out; have hs5 := grown_row hg5 (b := sb) (show (X3.alloc (.cells #[.int .i64 (h1 : Int), .int .i64 (h2 : Int), .int .i64 (h3 : Int)] 34)).drew.heap[sb]? = _ from (Below.heap_alloc X3 _ _ (row_ltJ HS4.out)).trans HS4.out) HNB.out; have x2' : w5.cell? ⟨m, 2, none⟩ = some vS := (by rw [cell_of_row _ _ _ _ _ _ hr5]; rfl); have y2' := frozen_of_row w5 m 2 _ _ hr5; have s0' : w5.cell? ⟨sb, 0, none⟩ = some (.int .i64 (h1 : Int)) := (by rw [cell_of_row _ _ _ _ _ _ hs5]; rfl); have s1' : w5.cell? ⟨sb, 1, none⟩ = some (.int .i64 (h2 : Int)) := (by rw [cell_of_row _ _ _ _ _ _ hs5]; rfl); have s2' : w5.cell? ⟨sb, 2, none⟩ = some (.int .i64 (h3 : Int)) := (by rw [cell_of_row _ _ _ _ _ _ hs5]; rfl); clear hr5 hs5 hown5 hg5 hat5 hlt5))
      all_goals go_wp2_with fail
      all_goals go_roundw
      case rel => exact ⟨k + 1, _, _, by omega, by go_num, by first | exact HQ5.out | exact HQ5.out.later (Below.refl _ _).drew⟩
      case measure => simp [intOf]; omega
      all_goals first | exact ⟨k + 1, _, _, by omega, by go_num, by first | exact HQ5.out | exact HQ5.out.later (Below.refl _ _).drew⟩ | (simp [intOf]; omega)
    · obtain rfl : k = 6 := by omega
      obtain ⟨gn, gs, hj, b1, b2⟩ := HO.out.done
      have HJ := hid hj
      have HBl := hid HO.out.bel
      clear hj
      go_wp2_with fail
      go_ret
      exact ⟨m, gn, gs, rfl, HJ.out, by have := HBl.out; rw [← Hm.out] at this; exact this, by omega, by omega, by omega⟩
end Go.Proofs.YtnnknplmjiahhabDoor
namespace Go.Proofs.YtnnknplmjiahhabDoor
open Go.RowKit

/-- What the plate answers to a write that lies on it: done, or cut ahead of its end. -/
theorem wr_of (B s : ByteArray) (l : Int) (a : Nat) (h : a + s.size ≤ B.size) (h0 : 0 < s.size) : Wr B.data.toList a s.data.toList (wB B s l a).data.toList (wC B s l a) := by
  have hb : ¬ wBad B s a := by unfold wBad; omega
  by_cases hl : l = -2
  · simp only [wC, wB, if_neg hb, if_pos hl]
    exact .inr ⟨rfl, 0, by rw [← size_list]; exact h0, by rw [List.take_zero, putL_nil]⟩
  · by_cases hn : 0 ≤ l ∧ l < s.size
    · simp only [wC, wB, if_neg hb, if_neg hl, if_pos hn, Int.toNat_natCast]
      refine .inr ⟨rfl, l.toNat, by rw [← size_list]; omega, ?_⟩
      rw [putB_putL (by omega)]
    · simp only [wC, wB, if_neg hb, if_neg hl, if_neg hn, Int.toNat_natCast]
      refine .inl ⟨rfl, ?_⟩
      rw [putB_putL (Nat.le_refl _), size_list, List.take_length]
theorem wL_off (B s : ByteArray) (l : Int) (a : Nat) (h : wC B s l a = 6) : wL B s l a = -2 := by
  unfold wC at h
  unfold wL
  split at h
  · cases h
  · rename_i hb
    rw [if_neg hb]
    split at h
    · rename_i hl; rw [if_pos hl]
    · rename_i hl
      rw [if_neg hl]
      split at h
      · rename_i hn; rw [if_pos hn]
      · cases h
theorem bits_xor_nat (a b : Nat) (ha : a < 9223372036854775808) (hb : b < 9223372036854775808) : bits .xor .i64 (a : Int) (b : Int) = ((a ^^^ b : Nat) : Int) := by
  have hx : a ^^^ b < 2 ^ 63 := Nat.xor_lt_two_pow (by omega) (by omega)
  show IntKind.i64.wrap ((BitVec.ofInt 64 (a : Int) ^^^ BitVec.ofInt 64 (b : Int)).toNat : Int) = _
  rw [BitVec.toNat_xor, ofInt_nat a ha, ofInt_nat b hb, IntKind.wrap_i64]
  omega
end Go.Proofs.YtnnknplmjiahhabDoor
namespace Go.Proofs.YtnnknplmjiahhabDoor
open Go.RowKit

theorem slotL_take (L : List UInt8) (k : Nat) (hk : k < 12) : slotL (L.take 216) k = slotL L k := by
  apply List.ext_getElem?
  intro m
  rw [slotL_get, slotL_get]
  split
  · rw [List.getElem?_take, if_pos (by omega)]
  · rfl
theorem dealL_take (L : List UInt8) (d : Nat) (hd : d < 6) : dealL (L.take 216) d = dealL L d := by
  unfold dealL
  rw [slotL_take L _ (by omega), slotL_take L _ (by omega)]
theorem newest_is (B : ByteArray) (d n ph pr a : Nat) (w : World) (hB : B.size = 216) (hd : d < 6) (h : dealL B.data.toList d = (n, ⟨ph, pr, a⟩)) :
    Calls Tryd.prog 37 #[.string B, .int .i64 (d : Int)] w fun e w' => e = .returned (.agg #[.int .i64 (ph : Int), .int .i64 (pr : Int), .int .i64 (a : Int), .int .u32 (n : Int)]) ∧ Below w.heap.size w w' := by
  have := newest_any B d w hB hd
  rw [h] at this
  exact this
def openE (L : List UInt8) (k : Nat) : Nat → Nat × St := fun d => if d < k then dealL L d else (0, St.zero)
theorem openE_step (L : List UInt8) (k : Nat) : openE L (k + 1) = updE (openE L k) k (dealL L k) := by
  funext d
  unfold openE updE
  by_cases h : d = k
  · subst h; rw [if_pos (by omega), if_pos rfl]
  · rw [if_neg h]
    show _ = if d < k then dealL L d else (0, St.zero)
    by_cases h2 : d < k
    · rw [if_pos (by omega), if_pos h2]
    · rw [if_neg (by omega), if_neg h2]
theorem place6 (w : World) : Calls Tryd.prog 36 #[.int .i64 6, .int .u32 0] w fun e w' => e = .returned (.int .i64 216) ∧ w' = w := place_any 6 0 w (by omega) (by omega)
theorem read6 (A : Nat → Addr) (p q : Nat) (B X : ByteArray) (l : Int) (w : World) (h : Pl w p q B l) (hE : HeldE w A) (hB : B.size ≤ 1000) (hl : ¬ l = -2) (hb : 216 ≤ B.size) (hX : B.extract 0 (0 + 216) = X) :
    Calls Tryd.prog 35 #[.pointer (some ⟨p, 0, none⟩), .int .i64 0, .int .i64 216] w fun e w' => e = .returned (.tuple #[.string X, .nilIface]) ∧ w' = w := by
  rw [← hX]; exact pread_ok A p q B l 0 216 w h hE hB hl (by omega)
theorem openE_all (L : List UInt8) (d : Nat) (hd : d < 6) : openE L 6 d = dealL L d := if_pos hd

set_option maxHeartbeats 2000000 in
set_option maxRecDepth 100000 in
theorem open_ok (A : Nat → Addr) (p q : Nat) (B : ByteArray) (l : Int) (w : World) (h : Pl w p q B l) (hE : HeldE w A) (hB : B.size ≤ 1000) (h6 : 216 ≤ B.size) (hl : ¬ l = -2) :
    Calls Tryd.prog 24 #[.pointer (some ⟨p, 0, none⟩)] w fun e w' => ∃ j, e = .returned (.tuple #[.pointer (some ⟨j, 0, none⟩), .nilIface]) ∧ JR w' j p (dealL B.data.toList) false ∧ Below w.heap.size w w' ∧ w.heap.size ≤ j := by
  have H := hid h
  have HE := hid hE
  have HL := hid hl
  obtain ⟨X, HX⟩ : ∃ X, Hid (B.extract 0 (0 + 216) = X) := ⟨_, rfl⟩
  have HXl : Hid (X.data.toList = B.data.toList.take 216) := by rw [← HX.out, ]; unfold Hid; rw [ext_list]; rfl
  have hX : X.size = 216 := by rw [size_list, HXl.out, List.length_take, ← size_list]; omega
  have HF : Hid (∀ w' j, JR w' j p (openE X.data.toList 6) false → JR w' j p (dealL B.data.toList) false) := fun w' j hj => hj.ext (fun d hd => by rw [openE_all _ _ hd, HXl.out, dealL_take _ _ hd])
  have HS : Hid (∀ k, openE X.data.toList (k + 1) = updE (openE X.data.toList k) k (dealL X.data.toList k)) := openE_step _
  have H0 : Hid (openE X.data.toList 0 = fun _ => (0, St.zero)) := by unfold Hid openE; funext d; rw [if_neg (by omega)]
  clear h hE hl
  go_enter Tryd.func24, Tryd.ntmps24
  go_wp2_with (first | (go_at_call 36; refine (place6 _).mono ?_; rintro e wx ⟨rfl, hx⟩; subst wx) | (go_at_call 35; refine (read6 A p q B X l _ H.out HE.out hB HL.out h6 HX.out).mono ?_; rintro e wx ⟨rfl, hx⟩; subst wx))
  go_loopw [23] (fun i wr => ∃ k : Nat, k ≤ 6 ∧ i = .int .i64 (k : Int) ∧ JR wr w.heap.size p (openE X.data.toList k) false ∧ Below w.heap.size w wr) (fun i _ => 6 - (intOf i).toNat)
  case atStart => exact ⟨0, by omega, rfl, by rw [H0.out]; exact heap_alloc_new w _, (Below.refl _ _).alloc (Nat.le_refl _) _⟩
  case round =>
    obtain ⟨k, hk, rfl, hJ, hb⟩ := hrel
    have HJ := hid hJ
    have HB := hid hb
    clear hJ hb
    by_cases hlt : k < 6
    · obtain ⟨⟨n, ph, pr, a⟩, HD⟩ : ∃ x, Hid (dealL X.data.toList k = x) := ⟨_, rfl⟩
      go_wp2_with fail
      go_region_held3 (fun _ => True) (trivial) (first | (go_at_call 37; (with_reducible refine (newest_is X k n ph pr a _ hX hlt HD.out).mono ?_); rintro e w2 ⟨rfl, hb2⟩; have HJ2 := hid (HJ.out.drew.later hb2 HJ.out.lt); have HB2 := hid (HB.out.drew.trans (hb2.mono HB.out.size)); obtain ⟨c0, c1, c2, c3⟩ := HJ2.out.ent hlt; have f0 := HJ2.out.fz (1 + k * 4); have f1 := HJ2.out.fz (1 + k * 4 + 1); have f2 := HJ2.out.fz (1 + k * 4 + 2); have f3 := HJ2.out.fz (1 + k * 4 + 3); clear hb2))
      all_goals go_wp2_with fail
      all_goals go_roundw
      case rel => exact ⟨k + 1, by omega, by go_num, by rw [HS.out, HD.out]; exact HJ2.out.set hlt (n, ⟨ph, pr, a⟩), (((HB2.out.setCell (Nat.le_refl _) _).setCell (Nat.le_refl _) _).setCell (Nat.le_refl _) _).setCell (Nat.le_refl _) _⟩
      case measure => simp [intOf]; omega
    · obtain rfl : k = 6 := by omega
      go_wp2_with fail
      go_ret2
      exact ⟨w.heap.size, rfl, HF.out _ _ HJ.out, HB.out, Nat.le_refl _⟩

theorem sizeState : (Tryd.prog.info? 34).map (·.size) = some 3 := by kernel_rfl
theorem set3 {w : World} {g : Nat} {a b c : Value} {t : TypeId} (h : w.heap[g]? = some (.cells #[a, b, c] t (0, 0))) (x0 x1 x2 : Value) :
    (((w.setCell ⟨g, 0, none⟩ x0).setCell ⟨g, 1, none⟩ x1).setCell ⟨g, 2, none⟩ x2).heap[g]? = some (.cells #[x0, x1, x2] t (0, 0)) := by
  have h0 := heap_setCell_same w g 0 _ _ x0 h
  have h1 := heap_setCell_same _ g 1 _ _ x1 h0
  exact heap_setCell_same _ g 2 _ _ x2 h1
/-- A state as a value. -/
def stV (s : St) : Value := .agg #[.int .i64 s.ph, .int .i64 s.pr, .int .i64 s.at_]
set_option maxRecDepth 100000 in
theorem get_ok (j p d : Nat) (E : Nat → Nat × St) (over : Bool) (w : World) (h : JR w j p E over) (hd : d < 6) :
    Calls Tryd.prog 25 #[.pointer (some ⟨j, 0, none⟩), .int .i64 (d : Int)] w fun e w' => e = .returned (.tuple #[stV (E d).2, .nilIface]) ∧ Below w.heap.size w w' := by
  have HK : Hid (decide (0 ≤ (d : Int) ∧ (d : Int) < 6) = true) := decide_eq_true ⟨by omega, by omega⟩
  obtain ⟨c0, c1, c2, c3⟩ := h.ent hd
  have hj := h.lt
  unfold stV
  generalize (E d).2.ph = ph at c0 ⊢
  generalize (E d).2.pr = pr at c1 ⊢
  generalize (E d).2.at_ = a at c2 ⊢
  clear h
  go_enter Tryd.func25, Tryd.ntmps25
  go_wp2_with (go_at_call 38; refine (known_any d _).mono ?_; rw [HK.out]; rintro e wx ⟨rfl, hx⟩; subst wx)
  refine bodyPost_ret (results_row2 rfl _ _ w.heap.size 34 #[.int .i64 (ph : Int), .int .i64 (pr : Int), .int .i64 (a : Int)] (0, 0) _ rfl (heap_alloc_new w _) Tryd.underlying34 rfl sizeState) rfl ?_
  exact ⟨rfl, (Below.refl _ _).alloc (Nat.le_refl _) _⟩
set_option maxRecDepth 100000 in
theorem get_bad (A : Nat → Addr) (v : Value) (d : Int) (w : World) (hE : HeldE w A) (hd : ¬ (0 ≤ d ∧ d < 6)) :
    Calls Tryd.prog 25 #[v, .int .i64 d] w fun e w' => e = .returned (.tuple #[stV St.zero, .iface 157 (.pointer (some (A 1)))]) ∧ Below w.heap.size w w' := by
  have HK : Hid (decide (0 ≤ d ∧ d < 6) = false) := decide_eq_false hd
  have g1 := hE.g1
  have g1b := cell_allocJ (o := .cells #[.int .i64 0, .int .i64 0, .int .i64 0] 34) g1
  clear hE hd
  go_enter Tryd.func25, Tryd.ntmps25
  go_wp2_with (go_at_call 38; refine (known_any d _).mono ?_; rw [HK.out]; rintro e wx ⟨rfl, hx⟩; subst wx)
  go_region
  all_goals go_wp2
  refine bodyPost_ret (results_row2 rfl _ _ w.heap.size 34 #[.int .i64 0, .int .i64 0, .int .i64 0] (0, 0) _ rfl (heap_alloc_new w _) Tryd.underlying34 rfl sizeState) rfl ?_
  exact ⟨rfl, ((Below.refl _ _).alloc (Nat.le_refl _) _).drew⟩
/-- No plate. -/
theorem open_nil (A : Nat → Addr) (w : World) (hE : HeldE w A) :
    Calls Tryd.prog 24 #[.pointer none] w fun e w' => e = .returned (.tuple #[.pointer none, .iface 157 (.pointer (some (A 2)))]) ∧ Below w.heap.size w w' := by
  have g2 : w.cell? ⟨2, 0, none⟩ = some (.iface 157 (.pointer (some (A 2)))) := hE.g2
  clear hE
  go_enter Tryd.func24, Tryd.ntmps24
  go_wp2_with fail
  go_quiet (fail)
  go_wp2
  go_ret2
  exact ⟨rfl, below_drewN (Below.refl _ _) _⟩
/-- Too few bytes, or no power. -/
theorem open_bad (A : Nat → Addr) (p q : Nat) (B : ByteArray) (l : Int) (c : Nat) (w : World) (h : Pl w p q B l) (hE : HeldE w A) (hB : B.size ≤ 1000) (hc : rC B l 0 216 = c + 1) :
    Calls Tryd.prog 24 #[.pointer (some ⟨p, 0, none⟩)] w fun e w' => e = .returned (.tuple #[.pointer none, .iface 157 (.pointer (some (A c)))]) ∧ w' = w := by
  have H := hid h
  have HE := hid hE
  have HC := hid hc
  clear h hE hc
  go_enter Tryd.func24, Tryd.ntmps24
  go_wp2_with (first | (go_at_call 36; refine (place6 _).mono ?_; rintro e wx ⟨rfl, hx⟩; subst wx) | (go_at_call 35; refine (read_bad A p q B l 0 216 c _ H.out HE.out hB (by omega) HC.out).mono ?_; rintro e wx ⟨rfl, hx⟩; subst wx))
  go_ret2
  exact ⟨rfl, rfl⟩
end Go.Proofs.YtnnknplmjiahhabDoor
namespace Go.Proofs.YtnnknplmjiahhabDoor
open Go.RowKit

/-- A journal over its plate, in memory that was not there in w0. -/
structure JP (w0 w : World) (j p q : Nat) (E : Nat → Nat × St) (over : Bool) (B : ByteArray) (l : Int) : Prop where
  bel : Below w0.heap.size w0 w
  jr : JR w j p E over
  pl : Pl w p q B l
  jp : j ≠ p
  jq : j ≠ q
  j0 : w0.heap.size ≤ j
  p0 : w0.heap.size ≤ p
  q0 : w0.heap.size ≤ q
  l0 : -2 ≤ l
  l1 : l ≤ 9223372036854775807
  sz : B.size ≤ 1000
  s6 : 216 ≤ B.size
section
variable {w0 w w' : World} {j p q : Nat} {E : Nat → Nat × St} {over : Bool} {B B' : ByteArray} {l l' : Int} {A : Nat → Addr}
theorem JP.later (h : JP w0 w j p q E over B l) (hb : Below w.heap.size w w') : JP w0 w' j p q E over B l :=
  ⟨h.bel.trans (hb.mono h.bel.size), h.jr.later hb h.jr.lt, h.pl.kept (S := fun _ => False) (Kept.of_below hb) (fun x => x) (fun x => x), h.jp, h.jq, h.j0, h.p0, h.q0, h.l0, h.l1, h.sz, h.s6⟩
theorem JP.drew (h : JP w0 w j p q E over B l) : JP w0 w.drew j p q E over B l := h.later (Below.refl _ _).drew
theorem JP.plate (h : JP w0 w j p q E over B l) (hk : Kept (In2 p q) w w') (hp : Pl w' p q B' l') (h0 : -2 ≤ l') (h1 : l' ≤ 9223372036854775807) (hs : B'.size = B.size) : JP w0 w' j p q E over B' l' :=
  ⟨hk.below h.bel.size (fun k g => by have := h.p0; have := h.q0; unfold In2 at g; omega) h.bel, hk.row h.jr (fun g => g.elim h.jp h.jq), hp, h.jp, h.jq, h.j0, h.p0, h.q0, h0, h1, by rw [hs]; exact h.sz, by rw [hs]; exact h.s6⟩
theorem JP.held (h : JP w0 w j p q E over B l) (hE : HeldE w0 A) : HeldE w A := hE.later h.bel
theorem JP.gp (h : JP w0 w j p q E over B l) (hE : HeldE w0 A) : 1 ≠ p ∧ 1 ≠ q := by
  have := cell_lt hE.g5
  have := h.p0
  have := h.q0
  exact ⟨fun e => by subst e; simp at *; omega, fun e => by subst e; simp at *; omega⟩
/-- The journal alone is written. -/
theorem JP.own {E' : Nat → Nat × St} {over' : Bool} (h : JP w0 w j p q E over B l) (hk : Kept (In1 j) w w') (hj : JR w' j p E' over') : JP w0 w' j p q E' over' B l :=
  ⟨hk.below h.bel.size (fun k g => by have := h.j0; unfold In1 at g; omega) h.bel, hj, h.pl.kept hk (fun g => h.jp g.symm) (fun g => h.jq g.symm), h.jp, h.jq, h.j0, h.p0, h.q0, h.l0, h.l1, h.sz, h.s6⟩
end
theorem wL_ge (B s : ByteArray) (l a : Int) (h : -2 ≤ l) : -2 ≤ wL B s l a := by
  unfold wL
  repeat' split
  all_goals omega
theorem wL_le (B s : ByteArray) (l a : Int) (h : l ≤ 9223372036854775807) : wL B s l a ≤ 9223372036854775807 := by
  unfold wL
  repeat' split
  all_goals omega
/-- A write onto a journal's plate. -/
theorem write_jp (A : Nat → Addr) (w0 w : World) (j p q : Nat) (E : Nat → Nat × St) (over : Bool) (B s : ByteArray) (l a : Int) (h : JP w0 w j p q E over B l) (hE : HeldE w0 A) (hs : s.size ≤ 1000) (c : Nat) (hc : wC B s l a = c) :
    Calls Tryd.prog 59 #[.pointer (some ⟨p, 0, none⟩), .int .i64 a, .string s] w fun e w' => e = .returned (ev A c) ∧ JP w0 w' j p q E over (wB B s l a) (wL B s l a) ∧ Kept (In2 p q) w w' := by
  rw [← hc]
  refine (write_pl A p q B s l a w h.pl (h.held hE) h.sz hs h.l0 h.l1 (h.gp hE).1 (h.gp hE).2).mono ?_
  rintro e w' ⟨rfl, hp, hk⟩
  exact ⟨rfl, h.plate hk hp (wL_ge B s l a h.l0) (wL_le B s l a h.l1) (wB_size B s l a), hk⟩

/-- A write by its three answers. -/
structure Out where
  c : Nat
  b : ByteArray
  l : Int
def wOut (B s : ByteArray) (l : Int) (a : Nat) : Out := ⟨wC B s l a, wB B s l a, wL B s l a⟩
/-- The last byte of slot k made 0, if it is not. -/
def fill1 (B : ByteArray) (l : Int) (k : Nat) : Out := if l = -2 then ⟨6, B, l⟩ else if B.data.toList[18 * k + 17]? = some 0 then ⟨0, B, l⟩ else wOut B (bA [0]) l (18 * k + 17)
def fill2 (B : ByteArray) (l : Int) (k n : Nat) (s : St) : Out := if (fill1 B l k).c = 0 then wOut (fill1 B l k).b (bA (bodyL n s)) (fill1 B l k).l (18 * k) else fill1 B l k
def fill3 (B : ByteArray) (l : Int) (k n : Nat) (s : St) : Out := if (fill2 B l k n s).c = 0 then wOut (fill2 B l k n s).b (bA [165]) (fill2 B l k n s).l (18 * k + 17) else fill2 B l k n s
end Go.Proofs.YtnnknplmjiahhabDoor
