/-
  PLAIN: what a Put leaves of a journal that knows its plate; a list of six states in memory.
-/
import Derived.Test.YtkbbjkiinpimiaaDoorJM
import Derived.Test.YtkbbjkiinpimiaaDoorJN
namespace Go.Proofs.YtkbbjkiinpimiaaDoor
open Go.RowKit

theorem fits_of {s : St} (h : fitsB s.ph s.pr s.at_ = true) : s.fits := by
  have := of_decide_eq_true h
  refine ⟨by omega, by omega, by omega⟩
section
variable {B : ByteArray} {l : Int} {d : Nat} {s : St}
theorem nextK_le (hd : d < 6) (m : Nat) : nextK d m < 12 := by unfold nextK; omega
theorem putIn_size (E : Nat → Nat × St) : (putIn E B l d s).b.size = B.size := by
  unfold putIn
  repeat' split
  · rfl
  · rfl
  · exact fill3_size
  · exact fill3_size
/-- A Put of a right state: it is there, or all is as it was and power is off. -/
theorem put_out (hB : 216 ≤ B.size) (hd : d < 6) (hs : s.fits) (hn : (dealL B.data.toList d).1 + 1 < 4294967295) (hl : l ≠ -2) :
    ((putIn (dealL B.data.toList) B l d s).c = 0 ∧ (putIn (dealL B.data.toList) B l d s).over = false ∧ (putIn (dealL B.data.toList) B l d s).e = dealL (putIn (dealL B.data.toList) B l d s).b.data.toList ∧ (putIn (dealL B.data.toList) B l d s).l ≠ -2 ∧
      (dealL (putIn (dealL B.data.toList) B l d s).b.data.toList d).2 = s ∧ (∀ e, e ≠ d → dealL (putIn (dealL B.data.toList) B l d s).b.data.toList e = dealL B.data.toList e) ∧ (dealL (putIn (dealL B.data.toList) B l d s).b.data.toList d).1 ≤ (dealL B.data.toList d).1 + 1) ∨
    ((putIn (dealL B.data.toList) B l d s).c = 6 ∧ (putIn (dealL B.data.toList) B l d s).over = true ∧ (putIn (dealL B.data.toList) B l d s).l = -2 ∧ dealL (putIn (dealL B.data.toList) B l d s).b.data.toList = dealL B.data.toList) := by
  have hk := nextK_le hd (dealL B.data.toList d).1
  have ho := fill3_out (B := B) (l := l) (k := nextK d (dealL B.data.toList d).1) (n := (dealL B.data.toList d).1 + 1) (s := s) (by omega)
  unfold putIn
  by_cases h1 : (dealL B.data.toList d).2 = s
  · rw [if_pos h1]
    exact .inl ⟨rfl, rfl, rfl, hl, h1, fun _ _ => rfl, by show (dealL B.data.toList d).1 ≤ _; omega⟩
  · rw [if_neg h1, if_neg (by omega)]
    rcases ho with ⟨c, z, o⟩ | ⟨c, t, o⟩
    · rw [if_pos c]
      have e1 := deal_done (by omega) hs z
      have e2 : ∀ e, e ≠ d → dealL (fill3 B l (nextK d (dealL B.data.toList d).1) ((dealL B.data.toList d).1 + 1) s).b.data.toList e = dealL B.data.toList e := fun e he => deal_other z.1 he
      refine .inl ⟨rfl, rfl, ?_, o, ?_, e2, ?_⟩
      · funext e
        show updE _ d _ e = _
        unfold updE
        by_cases he : e = d
        · subst he; rw [if_pos rfl]; exact e1.symm
        · rw [if_neg he]; exact (e2 e he).symm
      · show (dealL _ d).2 = s; rw [e1]
      · show (dealL _ d).1 ≤ _; rw [e1]; exact Nat.le_refl _
    · rw [if_neg (by omega)]
      refine .inr ⟨c, rfl, o, ?_⟩
      funext e
      by_cases he : e = d
      · subst he; exact deal_torn (by rw [← size_list]; omega) t
      · exact deal_other t.1 he
theorem put_free (hB : 216 ≤ B.size) (hd : d < 6) (hn : (dealL B.data.toList d).1 + 1 < 4294967295) : (putIn (dealL B.data.toList) B (-1) d s).c = 0 ∧ (putIn (dealL B.data.toList) B (-1) d s).l = -1 := by
  have hk := nextK_le hd (dealL B.data.toList d).1
  have ho := fill3_free (B := B) (k := nextK d (dealL B.data.toList d).1) (n := (dealL B.data.toList d).1 + 1) (s := s) (by omega)
  unfold putIn
  by_cases h1 : (dealL B.data.toList d).2 = s
  · rw [if_pos h1]; exact ⟨rfl, rfl⟩
  · rw [if_neg h1, if_neg (by omega), if_pos ho.1]; exact ⟨rfl, ho.2⟩
theorem put_same (E : Nat → Nat × St) (h : (E d).2 = s) : putIn E B l d s = ⟨0, E, false, B, l⟩ := by unfold putIn; rw [if_pos h]
end
theorem slot_zero (n k : Nat) (h : 18 * (k + 1) ≤ n) : (slotL (zeroB n).data.toList k)[17]? = some 0 := by
  have e : (zeroB n).data.toList = List.replicate n 0 := by simp [zeroB]
  rw [slotL_get, if_pos (by decide), e, List.getElem?_replicate, if_pos (by omega)]
theorem deal_zero (n d : Nat) (h : 36 * (d + 1) ≤ n) : dealL (zeroB n).data.toList d = (0, St.zero) := by
  have hz : ∀ k, 18 * (k + 1) ≤ n → heldL k (slotL (zeroB n).data.toList k) = (0, St.zero) := fun k hk => heldL_torn k _ 0 (last_of_17 (slotL_length (by rw [← size_list, zeroB_size]; exact hk)) (slot_zero n k hk)) (by decide)
  unfold dealL
  rw [hz _ (by omega), hz _ (by omega), if_neg (Nat.lt_irrefl _)]

/-- A state's cells. -/
def stL (s : St) : List Value := [.int .i64 s.ph, .int .i64 s.pr, .int .i64 s.at_]
/-- Six states in block b. -/
def NR (w : World) (b : Nat) (N : Nat → St) : Prop := w.heap[b]? = some (.cells (stL (N 0) ++ (stL (N 1) ++ (stL (N 2) ++ (stL (N 3) ++ (stL (N 4) ++ stL (N 5)))))).toArray 74 (0, 0))
def updN (N : Nat → St) (d : Nat) (s : St) : Nat → St := fun e => if e = d then s else N e
theorem NR.cell {w : World} {b : Nat} {N : Nat → St} (h : NR w b N) (i : Nat) : w.cell? ⟨b, i, none⟩ = (stL (N 0) ++ (stL (N 1) ++ (stL (N 2) ++ (stL (N 3) ++ (stL (N 4) ++ stL (N 5))))))[i]? := by
  rw [cell_of_row w b i _ _ _ h, List.getElem?_toArray]
theorem NR.ent {w : World} {b d : Nat} {N : Nat → St} (h : NR w b N) (hd : d < 6) : w.cell? ⟨b, d * 3, none⟩ = some (.int .i64 (N d).ph) ∧ w.cell? ⟨b, d * 3 + 1, none⟩ = some (.int .i64 (N d).pr) ∧ w.cell? ⟨b, d * 3 + 2, none⟩ = some (.int .i64 (N d).at_) := by
  rw [h.cell, h.cell, h.cell]
  rcases six hd with rfl | rfl | rfl | rfl | rfl | rfl <;> exact ⟨rfl, rfl, rfl⟩
theorem NR.fz {w : World} {b : Nat} {N : Nat → St} (h : NR w b N) (i : Nat) : w.frozen? ⟨b, i, none⟩ = false := frozen_of_row w b i _ _ h
theorem NR.set {w : World} {b d : Nat} {N : Nat → St} (h : NR w b N) (hd : d < 6) (x : St) :
    NR (((w.setCell ⟨b, d * 3, none⟩ (.int .i64 x.ph)).setCell ⟨b, d * 3 + 1, none⟩ (.int .i64 x.pr)).setCell ⟨b, d * 3 + 2, none⟩ (.int .i64 x.at_)) b (updN N d x) := by
  have h0 := heap_setCell_same w b (d * 3) _ _ (.int .i64 x.ph) h
  have h1 := heap_setCell_same _ b (d * 3 + 1) _ _ (.int .i64 x.pr) h0
  have h2 := heap_setCell_same _ b (d * 3 + 2) _ _ (.int .i64 x.at_) h1
  unfold NR
  rw [h2]
  rcases six hd with rfl | rfl | rfl | rfl | rfl | rfl <;> rfl
theorem NR.ext {w : World} {b : Nat} {N M : Nat → St} (h : NR w b N) (he : ∀ d, d < 6 → N d = M d) : NR w b M := by
  unfold NR at h ⊢
  rw [← he 0 (by decide), ← he 1 (by decide), ← he 2 (by decide), ← he 3 (by decide), ← he 4 (by decide), ← he 5 (by decide)]
  exact h
theorem NR.lt {w : World} {b : Nat} {N : Nat → St} (h : NR w b N) : b < w.heap.size := row_ltJ h
theorem NR.later {w w' : World} {b X : Nat} {N : Nat → St} (h : NR w b N) (hb : Below X w w') (hx : b < X) : NR w' b N := (hb.block b hx).trans h
theorem Tryd.infoSt : (Tryd.prog.info? 74).map (fun i => (i.zero, i.size, i.bytes)) = some (some (.agg #[.int .i64 0, .int .i64 0, .int .i64 0]), 3, 24) := by kernel_rfl
theorem made_st : madeCells (Value.agg #[.int .i64 0, .int .i64 0, .int .i64 0]).cells 18 = (stL St.zero ++ (stL St.zero ++ (stL St.zero ++ (stL St.zero ++ (stL St.zero ++ stL St.zero))))).toArray := by first | rfl | kernel_rfl
theorem mkSt (w : World) : (Instr.makeSlice 72 (.int .i64 6) (.int .i64 6)).run Tryd.prog w = .ok (.slice (some ⟨w.heap.size, 0, none⟩) 6 6) (w.alloc (.cells (stL St.zero ++ (stL St.zero ++ (stL St.zero ++ (stL St.zero ++ (stL St.zero ++ stL St.zero))))).toArray 74)) := by
  obtain ⟨i0, hi, hz0, hz1, hz2⟩ := info_parts Tryd.infoSt
  have hr := run_make (P := Tryd.prog) w 72 74 i0 _ Tryd.underlying72 hi hz0 .i64 .i64 6 6 (by omega) (Int.le_refl _) (by rw [hz2]; decide) (by decide)
  rw [hz1, show Int.toNat 6 * 3 = 18 from rfl, made_st] at hr
  exact hr
theorem NR.new (w : World) : NR (w.alloc (.cells (stL St.zero ++ (stL St.zero ++ (stL St.zero ++ (stL St.zero ++ (stL St.zero ++ stL St.zero))))).toArray 74)) w.heap.size (fun _ => St.zero) := heap_alloc_new w _
end Go.Proofs.YtkbbjkiinpimiaaDoor
