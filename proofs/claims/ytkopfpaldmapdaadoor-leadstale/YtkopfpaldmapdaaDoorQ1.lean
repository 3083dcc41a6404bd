/-
  THE PROGRAM's LEAD in memory; toAll.
-/
import Derived.Test.YtkopfpaldmapdaaDoorQ0
import Derived.Test.YtkopfpaldmapdaaDoorZK
import Derived.Test.YtkopfpaldmapdaaDoorW4
namespace Go.Proofs.YtkopfpaldmapdaaDoor
open Go.RowKit

def toldC (L : List S3) : List Value := L.flatMap fun s => [.int .i64 s.p, .int .i64 s.r, .int .i64 s.a]
def pC (id : Nat) (deal att : Int) (vw : Value) (P : PL) : List Value :=
  .int .i64 id :: .int .i64 deal :: .int .i64 att :: vw :: .string (stP P.stt) :: .int .i64 P.ans :: (toldC P.told ++ [.int .i64 P.prep, .int .i64 P.seen, .bool P.has])
theorem seven {L : List S3} (h : L.length = 7) : ∃ a b c d e f g, L = [a, b, c, d, e, f, g] := by
  match L, h with
  | [a, b, c, d, e, f, g], _ => exact ⟨a, b, c, d, e, f, g, rfl⟩
/-- A lead in memory: its row; its weights, in a block of their own. -/
structure LD (w : World) (lb b cap id : Nat) (deal att : Int) (zs : List Int) (P : PL) : Prop where
  row : w.heap[lb]? = some (.cells (pC id deal att (.slice (some ⟨b, 0, none⟩) zs.length cap) P).toArray 102 (0, 0))
  ws : ∀ i, i < zs.length → w.cell? ⟨b, 0 + i, none⟩ = some (.int .i64 (zs.getD i 0))
  bl : b < lb
  pw : PW zs.length P
  glo : ∀ j, gW j < lb
section
variable {w w' : World} {lb b cap id : Nat} {deal att : Int} {zs : List Int} {P : PL}
theorem LD.kept {S : Nat → Prop} (h : LD w lb b cap id deal att zs P) (k : Kept S w w') (h1 : ¬ S lb) (h2 : ¬ S b) : LD w' lb b cap id deal att zs P :=
  ⟨k.row h.row h1, fun i hi => by
    have := h.ws i hi
    have hb : b < w.heap.size := cell_lt this
    unfold World.cell? at this ⊢
    rw [show w'.heap[(⟨b, 0 + i, none⟩ : Addr).block]? = w.heap[(⟨b, 0 + i, none⟩ : Addr).block]? from k.block b hb h2]
    exact this, h.bl, h.pw, h.glo⟩
theorem LD.later (h : LD w lb b cap id deal att zs P) (hb : Below w.heap.size w w') : LD w' lb b cap id deal att zs P :=
  h.kept (S := fun _ => False) (Kept.of_below hb) (fun x => x) (fun x => x)
theorem LD.sl (h : LD w lb b cap id deal att zs P) (hm : zs.length ≤ 7) : IsSl w (.slice (some ⟨b, 0, none⟩) zs.length cap) zs :=
  ⟨_, cap, rfl, by unfold maxLen; omega, (fun x => by cases x), fun _ => ⟨b, 0, rfl, h.ws⟩⟩
theorem LD.cells (h : LD w lb b cap id deal att zs P) :
    w.cell? ⟨lb, 0, none⟩ = some (.int .i64 (id : Int)) ∧ w.cell? ⟨lb, 1, none⟩ = some (.int .i64 deal) ∧ w.cell? ⟨lb, 2, none⟩ = some (.int .i64 att) ∧ w.cell? ⟨lb, 3, none⟩ = some (.slice (some ⟨b, 0, none⟩) zs.length cap) ∧
    w.cell? ⟨lb, 4, none⟩ = some (.string (stP P.stt)) ∧ w.cell? ⟨lb, 5, none⟩ = some (.int .i64 P.ans) ∧ w.cell? ⟨lb, 27, none⟩ = some (.int .i64 P.prep) ∧ w.cell? ⟨lb, 28, none⟩ = some (.int .i64 P.seen) ∧ w.cell? ⟨lb, 29, none⟩ = some (.bool P.has) := by
  have hr := h.row
  obtain ⟨t0, t1, t2, t3, t4, t5, t6, e⟩ := seven h.pw.len
  unfold pC at hr
  rw [e] at hr
  refine ⟨?_, ?_, ?_, ?_, ?_, ?_, ?_, ?_, ?_⟩ <;> rw [cell_of_row _ _ _ _ _ _ hr] <;> rfl
theorem LD.fz (h : LD w lb b cap id deal att zs P) (i : Nat) : w.frozen? ⟨lb, i, none⟩ = false := by
  first
    | exact frozen_of_row h.row
    | (unfold World.frozen?; simp [h.row])
/-- A cell of the row is written. -/
theorem LD.set {Q : PL} {i : Nat} {v : Value} (h : LD w lb b cap id deal att zs P) (hq : PW zs.length Q)
    (e : (pC id deal att (.slice (some ⟨b, 0, none⟩) zs.length cap) P).set i v = pC id deal att (.slice (some ⟨b, 0, none⟩) zs.length cap) Q) : LD (w.setCell ⟨lb, i, none⟩ v) lb b cap id deal att zs Q :=
  ⟨by rw [heap_setCell_same w lb i _ _ _ h.row, List.setIfInBounds_toArray, e], fun j hj => by
    have := h.ws j hj
    have hb := h.bl
    unfold World.cell? at this ⊢
    rw [show (w.setCell ⟨lb, i, none⟩ v).heap[(⟨b, 0 + j, none⟩ : Addr).block]? = w.heap[(⟨b, 0 + j, none⟩ : Addr).block]? from heap_setCell_other _ _ _ _ (by show b ≠ lb; omega)]
    exact this, h.bl, hq, h.glo⟩
theorem LD.setSt (h : LD w lb b cap id deal att zs P) (k : Nat) : LD (w.setCell ⟨lb, 4, none⟩ (.string (stP k))) lb b cap id deal att zs { P with stt := k } :=
  h.set ⟨h.pw.len, h.pw.lo, h.pw.hi⟩ rfl
theorem LD.setAns (h : LD w lb b cap id deal att zs P) (x : Int) (h0 : 0 ≤ x) (h1 : x < 2 ^ zs.length) : LD (w.setCell ⟨lb, 5, none⟩ (.int .i64 x)) lb b cap id deal att zs { P with ans := x } :=
  h.set ⟨h.pw.len, h0, h1⟩ rfl
theorem LD.setPrep (h : LD w lb b cap id deal att zs P) (x : Int) : LD (w.setCell ⟨lb, 27, none⟩ (.int .i64 x)) lb b cap id deal att zs { P with prep := x } := by
  obtain ⟨t0, t1, t2, t3, t4, t5, t6, e⟩ := seven h.pw.len
  exact h.set ⟨h.pw.len, h.pw.lo, h.pw.hi⟩ (by unfold pC; simp only [e]; rfl)
theorem LD.setSeen (h : LD w lb b cap id deal att zs P) (x : Int) : LD (w.setCell ⟨lb, 28, none⟩ (.int .i64 x)) lb b cap id deal att zs { P with seen := x } := by
  obtain ⟨t0, t1, t2, t3, t4, t5, t6, e⟩ := seven h.pw.len
  exact h.set ⟨h.pw.len, h.pw.lo, h.pw.hi⟩ (by unfold pC; simp only [e]; rfl)
theorem LD.setHas (h : LD w lb b cap id deal att zs P) (x : Bool) : LD (w.setCell ⟨lb, 29, none⟩ (.bool x)) lb b cap id deal att zs { P with has := x } := by
  obtain ⟨t0, t1, t2, t3, t4, t5, t6, e⟩ := seven h.pw.len
  exact h.set ⟨h.pw.len, h.pw.lo, h.pw.hi⟩ (by unfold pC; simp only [e]; rfl)
end
/-- Frames in memory that a call made: its blocks are new ones. -/
def FrB (base : Nat) (w : World) (v : Value) (L : List F9) : Prop := ∃ ad cap, v = .slice ad L.length cap ∧ FL w ad L ∧ ∀ p, ad = some p → base ≤ p.block
theorem FrB.fr {base : Nat} {w : World} {v : Value} {L : List F9} (h : FrB base w v L) : IsFr w v L := by
  obtain ⟨ad, cap, e, hf, -⟩ := h
  exact ⟨ad, cap, e, hf⟩
theorem FrB.mono {base B : Nat} {w : World} {v : Value} {L : List F9} (h : FrB base w v L) (hb : B ≤ base) : FrB B w v L := by
  obtain ⟨ad, cap, e, hf, hg⟩ := h
  exact ⟨ad, cap, e, hf, fun p hp => Nat.le_trans hb (hg p hp)⟩
theorem FrB.zero (base : Nat) (w : World) : FrB base w (.slice none 0 0) [] := ⟨none, 0, rfl, FL.nil _ _, fun p hp => by cases hp⟩
theorem FrB.owned {w : World} {base : Nat} {v : Value} {L : List F9} (h : w.ownsRow base 36 9 v L.length (frCells L)) : FrB base w v L := by
  obtain ⟨ad, cap, e, hf⟩ := IsFr.owned h
  subst e
  refine ⟨ad, cap, rfl, hf, fun p hp => ?_⟩
  subst hp
  rcases h.2 with ⟨hx, -⟩ | ⟨g, cap', cur, hx, hb, -⟩
  · cases hx
  · cases hx
    exact hb
theorem FrB.kept {S : Nat → Prop} {base : Nat} {w w' : World} {v : Value} {L : List F9} (h : FrB base w v L) (k : Kept S w w') (hS : ∀ i, S i → i < base) : FrB base w' v L := by
  obtain ⟨ad, cap, e, hf, hg⟩ := h
  refine ⟨ad, cap, e, fun i hi => ?_, hg⟩
  obtain ⟨b, off, ha, hc⟩ := hf i hi
  refine ⟨b, off, ha, fun j hj => ?_⟩
  have h2 := hc j hj
  have h3 : (f9L (L[i]'hi))[j]? = some ((f9L (L[i]'hi))[j]'(by rw [f9L_length]; exact hj)) := List.getElem?_eq_getElem _
  rw [h3] at h2 ⊢
  have hb : b < w.heap.size := cell_lt h2
  have hgb : base ≤ b := hg _ ha
  unfold World.cell? at h2 ⊢
  rw [show w'.heap[(⟨b, off + i * 9 + j, none⟩ : Addr).block]? = w.heap[(⟨b, off + i * 9 + j, none⟩ : Addr).block]? from k.block b hb (fun hs => by have := hS b hs; omega)]
  exact h2
theorem Tryd.infoFq : (Tryd.prog.info? 36).map (fun i => (i.zero, i.size, i.bytes)) = some (some (frV 0 0 0 0 0 false 0 0 0), 9, 72) := by kernel_rfl
theorem lit_cellsQ (w : World) (t : TypeId) (L : List Value) : ∀ j u, L[j]? = some u → (w.alloc (.cells L.toArray t)).cell? ((⟨w.heap.size, 0, none⟩ : Addr).add j) = some u := by
  intro j u h
  rw [addr_add, cell_of_row _ _ _ _ _ _ (heap_alloc_new w _), List.getElem?_toArray, Nat.zero_add]
  exact h
theorem f9_oneQ (x : F9) : ∀ u ∈ f9L x, u.oneCell' = true := by
  intro u hu
  simp [f9L] at hu
  rcases hu with rfl | rfl | rfl | rfl | rfl | rfl | rfl | rfl | rfl <;> rfl
set_option maxHeartbeats 4000000 in
set_option maxRecDepth 100000 in
theorem ldtoAll_own (lb b cap id : Nat) (deal att : Int) (zs : List Int) (P : PL) (kind ph : Int) (w : World) (h : LD w lb b cap id deal att zs P) (hn : zs.length ≤ 7) :
    Calls Tryd.prog 77 #[.pointer (some ⟨lb, 0, none⟩), .int .i64 kind, .int .i64 ph] w fun e w' => ∃ v, e = .returned v ∧ w'.ownsRow w.heap.size 36 9 v (toL id deal kind att ph zs.length).length (frCells (toL id deal kind att ph zs.length)) ∧ Below w.heap.size w w' := by
  obtain ⟨i0, hi, hz0, hz1, hz2⟩ := info_parts Tryd.infoFq
  have H := hid h
  obtain ⟨c0, c1, c2, c3, -, -, -, -, -⟩ := h.cells
  clear h
  obtain ⟨n, HN⟩ : ∃ n, Hid (zs.length = n) := ⟨_, rfl⟩
  rw [HN.out] at c3 hn ⊢
  obtain ⟨L, HL⟩ : ∃ L, Hid (toL id deal kind att ph = L) := ⟨_, rfl⟩
  rw [HL.out]
  have HLE : Hid (∀ k, (L k).length = k) := by rw [← HL.out]; exact toL_length _ _ _ _ _
  have H0 : Hid (L 0 = []) := by rw [← HL.out]; rfl
  go_enter Tryd.func77, Tryd.ntmps77
  go_wp2_with fail
  clear c0 c1 c2 c3
  go_loopw [7, 14] (fun v i wr => ∃ k : Nat, k ≤ n ∧ i = .int .i64 (k : Int) ∧ wr.ownsRow w.heap.size 36 9 v (L k).length (frCells (L k)) ∧ Below w.heap.size w wr) (fun _ i _ => n - (intOf i).toNat)
  case atStart => exact ⟨0, Nat.zero_le _, rfl, by rw [H0.out]; exact World.ownsRow_nil _ _ _ _, Below.refl _ _⟩
  case round =>
    obtain ⟨k, hk, rfl, hown, hb⟩ := hrel
    have HO := hid hown
    have HB := hid hb
    obtain ⟨c0, c1, c2, c3, -, -, -, -, -⟩ := (H.out.later hb).cells
    have hlb : lb < wr.heap.size := row_ltJ (H.out.later hb).row
    have hle := Nat.le_of_eq (HLE.out k)
    clear hown hb
    by_cases hlt : k < n
    · have HS : Hid (L (k + 1) = L k ++ [⟨id, k, deal, kind, att, false, ph, 0, 0⟩]) := by rw [← HL.out]; rfl
      have HS2 : Hid ((L (k + 1)).length = (L k).length + 1 ∧ frCells (L (k + 1)) = frCells (L k) ++ f9L ⟨id, k, deal, kind, att, false, ph, 0, 0⟩) := by
        rw [HS.out]
        exact ⟨by simp, by rw [frCells_append]; rfl⟩
      have HZ := World.ownsRow.alloc HO.out
      have hws := HB.out.size
      go_wp2_with fail
      go_region_law ((refine step_append_lies _ (by rfl) _ _ _ (by rfl) w.heap.size 36 i0 (frV 0 0 0 0 0 false 0 0 0) 9 72 Tryd.underlying40 hi hz0 hz1 hz2 (by rfl) (by decide) _ (L k).length (frCells (L k)) (by rfl) (by exact HZ _) ⟨wr.heap.size, 0, none⟩ 1 1 (f9L ⟨id, k, deal, kind, att, false, ph, 0, 0⟩) (by rfl) (by rfl) (by exact lit_cellsQ wr 36 (f9L ⟨id, k, deal, kind, att, false, ph, 0, 0⟩)) (by exact f9_oneQ _) (by decide) (by unfold maxLen; omega) (by omega) (by exact Nat.le_trans hws (by simp)) (wr.heap.size + 1) (by simp) ?_; intro g5 c5 w5 hown5 hg5 hat5 hlt5; have HQ5 := hid (And.intro (show w5.ownsRow w.heap.size 36 9 (.slice (some ⟨g5, 0, none⟩) ((L k).length + 1) c5) (L (k + 1)).length (frCells (L (k + 1))) by rw [HS2.out.1, HS2.out.2]; exact hown5) ((HB.out.alloc HB.out.size (.cells (f9L ⟨id, k, deal, kind, att, false, ph, 0, 0⟩).toArray 36)).drew.grown hg5 (by simp; omega) (fun j hj => (HO.out.lt j hj).1))); clear hown5 hg5 hat5))
      all_goals go_wp2_with fail
      all_goals go_roundw
      all_goals first | exact ⟨k + 1, by omega, by go_num, HQ5.out.1, HQ5.out.2⟩ | exact ⟨k + 1, by omega, by go_num, HQ5.out.1, HQ5.out.2.drew⟩ | (simp [intOf]; omega)
    · obtain rfl : k = n := by omega
      go_wp2_with fail
      go_ret
      exact ⟨_, rfl, HO.out, HB.out⟩
theorem ldtoAll_any (lb b cap id : Nat) (deal att : Int) (zs : List Int) (P : PL) (kind ph : Int) (w : World) (h : LD w lb b cap id deal att zs P) (hn : zs.length ≤ 7) :
    Calls Tryd.prog 77 #[.pointer (some ⟨lb, 0, none⟩), .int .i64 kind, .int .i64 ph] w fun e w' => ∃ v, e = .returned v ∧ FrB w.heap.size w' v (toL id deal kind att ph zs.length) ∧ Below w.heap.size w w' := by
  refine (ldtoAll_own lb b cap id deal att zs P kind ph w h hn).mono ?_
  rintro e w' ⟨v, h1, h2, h3⟩
  exact ⟨v, h1, FrB.owned h2, h3⟩
end Go.Proofs.YtkopfpaldmapdaaDoor
