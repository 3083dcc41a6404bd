/-
  PLAIN: what the three writes of a slot leave: done, or torn with power off.
  PLAIN: what a Put leaves of a journal that knows its plate; a list of six states in memory.
  CONTRACTS of Open, Get and Put over a journal and its plate, as the laws meet them.
  WHAT STANDS ALONG THE LAWS ON JOURNALS: a journal that knows its plate, six states beside it; a law's list of puts in memory.
  THE WALK of the law's asJournal: two journals tell the same.
  BOTH JOURNALS SIDE BY SIDE: every Put's answer; what stands along the law JournalActs.
  A SITE IN MEMORY (package site): its row, the map of what it refuses.
-/
import Derived.Test.YtnnknplmjiahhabDoorBa8
import Derived.Test.YtnnknplmjiahhabDoorBa9
import Derived.Test.YtnnknplmjiahhabDoorBa10
import Derived.Test.YtnnknplmjiahhabDoorBa1
import Derived.Deep.CutRange
import Derived.Maps.OwnSet
namespace Go.Proofs.YtnnknplmjiahhabDoor

theorem wL_on (B s : ByteArray) (l a : Int) (h : wC B s l a = 0) : wL B s l a ≠ -2 := by
  unfold wC at h
  unfold wL
  split at h
  · cases h
  · rename_i hb
    rw [if_neg hb]
    split at h
    · cases h
    · rename_i hl
      rw [if_neg hl]
      split at h
      · cases h
      · rename_i hn
        rw [if_neg hn]
        split <;> omega
theorem wFree (B s : ByteArray) (a : Nat) (h : a + s.size ≤ B.size) : wC B s (-1) a = 0 ∧ wL B s (-1) a = -1 := by
  have hb : ¬ wBad B s a := by unfold wBad; omega
  unfold wC wL
  have h1 : ¬ ((-1 : Int) = -2) := by decide
  have h2 : ¬ (0 ≤ (-1 : Int) ∧ (-1 : Int) < s.size) := by omega
  rw [if_neg hb, if_neg hb, if_neg h1, if_neg h1, if_neg h2, if_neg h2, if_pos (by decide)]
  exact ⟨rfl, rfl⟩
section
variable {B : ByteArray} {l : Int} {k n : Nat} {s : St}
theorem fill1_out (hB : 18 * (k + 1) ≤ B.size) : ((fill1 B l k).c = 0 ∧ Zeroed B.data.toList k (fill1 B l k).b.data.toList ∧ (fill1 B l k).l ≠ -2) ∨ ((fill1 B l k).c = 6 ∧ Torn B.data.toList k (fill1 B l k).b.data.toList ∧ (fill1 B l k).l = -2) := by
  unfold fill1
  by_cases hl : l = -2
  · rw [if_pos hl]
    exact .inr ⟨rfl, ⟨Only.refl _ _, .inl rfl⟩, hl⟩
  · rw [if_neg hl]
    by_cases hz : B.data.toList[18 * k + 17]? = some 0
    · rw [if_pos hz]
      exact .inl ⟨rfl, zero_skip hz, hl⟩
    · rw [if_neg hz]
      have hw := wr_of B (bA [0]) l (18 * k + 17) (by rw [bA_size]; simp; omega) (by rw [bA_size]; exact Nat.one_pos)
      rw [bA_list] at hw
      rcases zero_wr (by rw [← size_list]; exact hB) hw with ⟨c, z⟩ | ⟨c, t⟩
      · exact .inl ⟨c, z, wL_on _ _ _ _ c⟩
      · exact .inr ⟨c, t, wL_off _ _ _ _ c⟩
theorem fill1_size : (fill1 B l k).b.size = B.size := by
  unfold fill1
  repeat' split
  · rfl
  · rfl
  · exact wB_size _ _ _ _
theorem fill2_size : (fill2 B l k n s).b.size = B.size := by
  unfold fill2
  split
  · exact (wB_size _ _ _ _).trans fill1_size
  · exact fill1_size
theorem fill3_size : (fill3 B l k n s).b.size = B.size := by
  unfold fill3
  split
  · exact (wB_size _ _ _ _).trans fill2_size
  · exact fill2_size
theorem fill2_out (hB : 18 * (k + 1) ≤ B.size) : ((fill2 B l k n s).c = 0 ∧ Bodied B.data.toList k n s (fill2 B l k n s).b.data.toList ∧ (fill2 B l k n s).l ≠ -2) ∨ ((fill2 B l k n s).c = 6 ∧ Torn B.data.toList k (fill2 B l k n s).b.data.toList ∧ (fill2 B l k n s).l = -2) := by
  have hs := fill1_size (B := B) (l := l) (k := k)
  unfold fill2
  rcases fill1_out (l := l) hB with ⟨c, z, ho⟩ | ⟨c, t, ho⟩
  · rw [if_pos c]
    have hw := wr_of (fill1 B l k).b (bA (bodyL n s)) (fill1 B l k).l (18 * k) (by rw [bA_size, bodyL_length, hs]; omega) (by rw [bA_size, bodyL_length]; decide)
    rw [bA_list] at hw
    rcases body_wr (by rw [← size_list]; exact hB) z hw with ⟨c2, z2⟩ | ⟨c2, t2⟩
    · exact .inl ⟨c2, z2, wL_on _ _ _ _ c2⟩
    · exact .inr ⟨c2, t2, wL_off _ _ _ _ c2⟩
  · rw [if_neg (by omega)]
    exact .inr ⟨c, t, ho⟩
/-- Done, with power; or torn, without. -/
theorem fill3_out (hB : 18 * (k + 1) ≤ B.size) : ((fill3 B l k n s).c = 0 ∧ Done B.data.toList k n s (fill3 B l k n s).b.data.toList ∧ (fill3 B l k n s).l ≠ -2) ∨ ((fill3 B l k n s).c = 6 ∧ Torn B.data.toList k (fill3 B l k n s).b.data.toList ∧ (fill3 B l k n s).l = -2) := by
  have hs := fill2_size (B := B) (l := l) (k := k) (n := n) (s := s)
  unfold fill3
  rcases fill2_out (l := l) (n := n) (s := s) hB with ⟨c, z, ho⟩ | ⟨c, t, ho⟩
  · rw [if_pos c]
    have hw := wr_of (fill2 B l k n s).b (bA [165]) (fill2 B l k n s).l (18 * k + 17) (by rw [bA_size, hs]; simp; omega) (by rw [bA_size]; exact Nat.one_pos)
    rw [bA_list] at hw
    rcases last_wr (by rw [← size_list]; exact hB) z hw with ⟨c2, z2⟩ | ⟨c2, t2⟩
    · exact .inl ⟨c2, z2, wL_on _ _ _ _ c2⟩
    · exact .inr ⟨c2, t2, wL_off _ _ _ _ c2⟩
  · rw [if_neg (by omega)]
    exact .inr ⟨c, t, ho⟩
/-- No cut ahead: done. -/
theorem fill3_free (hB : 18 * (k + 1) ≤ B.size) : (fill3 B (-1) k n s).c = 0 ∧ (fill3 B (-1) k n s).l = -1 := by
  have h1 : (fill1 B (-1) k).c = 0 ∧ (fill1 B (-1) k).l = -1 := by
    unfold fill1
    rw [if_neg (by decide)]
    split
    · exact ⟨rfl, rfl⟩
    · exact wFree _ _ (18 * k + 17) (by rw [bA_size]; simp; omega)
  have s1 := fill1_size (B := B) (l := -1) (k := k)
  have h2 : (fill2 B (-1) k n s).c = 0 ∧ (fill2 B (-1) k n s).l = -1 := by
    unfold fill2
    rw [if_pos h1.1, h1.2]
    exact wFree _ _ (18 * k) (by rw [bA_size, bodyL_length, s1]; omega)
  have s2 := fill2_size (B := B) (l := -1) (k := k) (n := n) (s := s)
  unfold fill3
  rw [if_pos h2.1, h2.2]
  exact wFree _ _ (18 * k + 17) (by rw [bA_size, s2]; simp; omega)
end
end Go.Proofs.YtnnknplmjiahhabDoor
namespace Go.Proofs.YtnnknplmjiahhabDoor
open Go.RowKit

theorem fits_of {s : St} (h : fitsB s.ph s.pr s.at_ = true) : s.fits := by
  have := of_decide_eq_true h
  refine ⟨by omega, by omega, by omega⟩
section
variable {B : ByteArray} {l : Int} {d : Nat} {s : St}
theorem nextK_le (hd : d < 6) (m : Nat) : nextK d m < 12 := by unfold nextK; omega
theorem putIn_size (E : Nat → Nat × St) : (putIn E B l d s).b.size = B.size := by
  unfold putIn
  repeat' split
  · rfl
  · rfl
  · exact fill3_size
  · exact fill3_size
/-- A Put of a right state: it is there, or all is as it was and power is off. -/
theorem put_out (hB : 216 ≤ B.size) (hd : d < 6) (hs : s.fits) (hn : (dealL B.data.toList d).1 + 1 < 4294967295) (hl : l ≠ -2) :
    ((putIn (dealL B.data.toList) B l d s).c = 0 ∧ (putIn (dealL B.data.toList) B l d s).over = false ∧ (putIn (dealL B.data.toList) B l d s).e = dealL (putIn (dealL B.data.toList) B l d s).b.data.toList ∧ (putIn (dealL B.data.toList) B l d s).l ≠ -2 ∧
      (dealL (putIn (dealL B.data.toList) B l d s).b.data.toList d).2 = s ∧ (∀ e, e ≠ d → dealL (putIn (dealL B.data.toList) B l d s).b.data.toList e = dealL B.data.toList e) ∧ (dealL (putIn (dealL B.data.toList) B l d s).b.data.toList d).1 ≤ (dealL B.data.toList d).1 + 1) ∨
    ((putIn (dealL B.data.toList) B l d s).c = 6 ∧ (putIn (dealL B.data.toList) B l d s).over = true ∧ (putIn (dealL B.data.toList) B l d s).l = -2 ∧ dealL (putIn (dealL B.data.toList) B l d s).b.data.toList = dealL B.data.toList) := by
  have hk := nextK_le hd (dealL B.data.toList d).1
  have ho := fill3_out (B := B) (l := l) (k := nextK d (dealL B.data.toList d).1) (n := (dealL B.data.toList d).1 + 1) (s := s) (by omega)
  unfold putIn
  by_cases h1 : (dealL B.data.toList d).2 = s
  · rw [if_pos h1]
    exact .inl ⟨rfl, rfl, rfl, hl, h1, fun _ _ => rfl, by show (dealL B.data.toList d).1 ≤ _; omega⟩
  · rw [if_neg h1, if_neg (by omega)]
    rcases ho with ⟨c, z, o⟩ | ⟨c, t, o⟩
    · rw [if_pos c]
      have e1 := deal_done (by omega) hs z
      have e2 : ∀ e, e ≠ d → dealL (fill3 B l (nextK d (dealL B.data.toList d).1) ((dealL B.data.toList d).1 + 1) s).b.data.toList e = dealL B.data.toList e := fun e he => deal_other z.1 he
      refine .inl ⟨rfl, rfl, ?_, o, ?_, e2, ?_⟩
      · funext e
        show updE _ d _ e = _
        unfold updE
        by_cases he : e = d
        · subst he; rw [if_pos rfl]; exact e1.symm
        · rw [if_neg he]; exact (e2 e he).symm
      · show (dealL _ d).2 = s; rw [e1]
      · show (dealL _ d).1 ≤ _; rw [e1]; exact Nat.le_refl _
    · rw [if_neg (by omega)]
      refine .inr ⟨c, rfl, o, ?_⟩
      funext e
      by_cases he : e = d
      · subst he; exact deal_torn (by rw [← size_list]; omega) t
      · exact deal_other t.1 he
theorem put_free (hB : 216 ≤ B.size) (hd : d < 6) (hn : (dealL B.data.toList d).1 + 1 < 4294967295) : (putIn (dealL B.data.toList) B (-1) d s).c = 0 ∧ (putIn (dealL B.data.toList) B (-1) d s).l = -1 := by
  have hk := nextK_le hd (dealL B.data.toList d).1
  have ho := fill3_free (B := B) (k := nextK d (dealL B.data.toList d).1) (n := (dealL B.data.toList d).1 + 1) (s := s) (by omega)
  unfold putIn
  by_cases h1 : (dealL B.data.toList d).2 = s
  · rw [if_pos h1]; exact ⟨rfl, rfl⟩
  · rw [if_neg h1, if_neg (by omega), if_pos ho.1]; exact ⟨rfl, ho.2⟩
theorem put_same (E : Nat → Nat × St) (h : (E d).2 = s) : putIn E B l d s = ⟨0, E, false, B, l⟩ := by unfold putIn; rw [if_pos h]
end
theorem slot_zero (n k : Nat) (h : 18 * (k + 1) ≤ n) : (slotL (zeroB n).data.toList k)[17]? = some 0 := by
  have e : (zeroB n).data.toList = List.replicate n 0 := by simp [zeroB]
  rw [slotL_get, if_pos (by decide), e, List.getElem?_replicate, if_pos (by omega)]
theorem deal_zero (n d : Nat) (h : 36 * (d + 1) ≤ n) : dealL (zeroB n).data.toList d = (0, St.zero) := by
  have hz : ∀ k, 18 * (k + 1) ≤ n → heldL k (slotL (zeroB n).data.toList k) = (0, St.zero) := fun k hk => heldL_torn k _ 0 (last_of_17 (slotL_length (by rw [← size_list, zeroB_size]; exact hk)) (slot_zero n k hk)) (by decide)
  unfold dealL
  rw [hz _ (by omega), hz _ (by omega), if_neg (Nat.lt_irrefl _)]

/-- A state's cells. -/
def stL (s : St) : List Value := [.int .i64 s.ph, .int .i64 s.pr, .int .i64 s.at_]
/-- Six states in block b. -/
def NR (w : World) (b : Nat) (N : Nat → St) : Prop := w.heap[b]? = some (.cells (stL (N 0) ++ (stL (N 1) ++ (stL (N 2) ++ (stL (N 3) ++ (stL (N 4) ++ stL (N 5)))))).toArray 34 (0, 0))
def updN (N : Nat → St) (d : Nat) (s : St) : Nat → St := fun e => if e = d then s else N e
theorem NR.cell {w : World} {b : Nat} {N : Nat → St} (h : NR w b N) (i : Nat) : w.cell? ⟨b, i, none⟩ = (stL (N 0) ++ (stL (N 1) ++ (stL (N 2) ++ (stL (N 3) ++ (stL (N 4) ++ stL (N 5))))))[i]? := by
  rw [cell_of_row w b i _ _ _ h, List.getElem?_toArray]
theorem NR.ent {w : World} {b d : Nat} {N : Nat → St} (h : NR w b N) (hd : d < 6) : w.cell? ⟨b, d * 3, none⟩ = some (.int .i64 (N d).ph) ∧ w.cell? ⟨b, d * 3 + 1, none⟩ = some (.int .i64 (N d).pr) ∧ w.cell? ⟨b, d * 3 + 2, none⟩ = some (.int .i64 (N d).at_) := by
  rw [h.cell, h.cell, h.cell]
  rcases six hd with rfl | rfl | rfl | rfl | rfl | rfl <;> exact ⟨rfl, rfl, rfl⟩
theorem NR.fz {w : World} {b : Nat} {N : Nat → St} (h : NR w b N) (i : Nat) : w.frozen? ⟨b, i, none⟩ = false := frozen_of_row w b i _ _ h
theorem NR.set {w : World} {b d : Nat} {N : Nat → St} (h : NR w b N) (hd : d < 6) (x : St) :
    NR (((w.setCell ⟨b, d * 3, none⟩ (.int .i64 x.ph)).setCell ⟨b, d * 3 + 1, none⟩ (.int .i64 x.pr)).setCell ⟨b, d * 3 + 2, none⟩ (.int .i64 x.at_)) b (updN N d x) := by
  have h0 := heap_setCell_same w b (d * 3) _ _ (.int .i64 x.ph) h
  have h1 := heap_setCell_same _ b (d * 3 + 1) _ _ (.int .i64 x.pr) h0
  have h2 := heap_setCell_same _ b (d * 3 + 2) _ _ (.int .i64 x.at_) h1
  unfold NR
  rw [h2]
  rcases six hd with rfl | rfl | rfl | rfl | rfl | rfl <;> rfl
theorem NR.ext {w : World} {b : Nat} {N M : Nat → St} (h : NR w b N) (he : ∀ d, d < 6 → N d = M d) : NR w b M := by
  unfold NR at h ⊢
  rw [← he 0 (by decide), ← he 1 (by decide), ← he 2 (by decide), ← he 3 (by decide), ← he 4 (by decide), ← he 5 (by decide)]
  exact h
theorem NR.lt {w : World} {b : Nat} {N : Nat → St} (h : NR w b N) : b < w.heap.size := row_ltJ h
theorem NR.later {w w' : World} {b X : Nat} {N : Nat → St} (h : NR w b N) (hb : Below X w w') (hx : b < X) : NR w' b N := (hb.block b hx).trans h
theorem Tryd.infoSt : (Tryd.prog.info? 34).map (fun i => (i.zero, i.size, i.bytes)) = some (some (.agg #[.int .i64 0, .int .i64 0, .int .i64 0]), 3, 24) := by kernel_rfl
theorem made_st : madeCells (Value.agg #[.int .i64 0, .int .i64 0, .int .i64 0]).cells 18 = (stL St.zero ++ (stL St.zero ++ (stL St.zero ++ (stL St.zero ++ (stL St.zero ++ stL St.zero))))).toArray := by first | rfl | kernel_rfl
theorem mkSt (w : World) : (Instr.makeSlice 32 (.int .i64 6) (.int .i64 6)).run Tryd.prog w = .ok (.slice (some ⟨w.heap.size, 0, none⟩) 6 6) (w.alloc (.cells (stL St.zero ++ (stL St.zero ++ (stL St.zero ++ (stL St.zero ++ (stL St.zero ++ stL St.zero))))).toArray 34)) := by
  obtain ⟨i0, hi, hz0, hz1, hz2⟩ := info_parts Tryd.infoSt
  have hr := run_make (P := Tryd.prog) w 32 34 i0 _ Tryd.underlying32 hi hz0 .i64 .i64 6 6 (by omega) (Int.le_refl _) (by rw [hz2]; decide) (by decide)
  rw [hz1, show Int.toNat 6 * 3 = 18 from rfl, made_st] at hr
  exact hr
theorem NR.new (w : World) : NR (w.alloc (.cells (stL St.zero ++ (stL St.zero ++ (stL St.zero ++ (stL St.zero ++ (stL St.zero ++ stL St.zero))))).toArray 34)) w.heap.size (fun _ => St.zero) := heap_alloc_new w _
end Go.Proofs.YtnnknplmjiahhabDoor
namespace Go.Proofs.YtnnknplmjiahhabDoor
open Go.RowKit

section
variable {w0 w w1 w2 : World} {j p q : Nat} {E : Nat → Nat × St} {over : Bool} {B : ByteArray} {l : Int} {A : Nat → Addr}
theorem jp_new (hb : Below w0.heap.size w0 w1) (h : Pl w1 p q B l) (hp : w0.heap.size ≤ p) (hq : w0.heap.size ≤ q) (hj : JR w2 j p E over) (hb2 : Below w1.heap.size w1 w2) (hj0 : w1.heap.size ≤ j) (h0 : -2 ≤ l) (h1 : l ≤ 9223372036854775807) (hs : B.size ≤ 1000) (h6 : 216 ≤ B.size) : JP w0 w2 j p q E over B l := by
  have e1 := row_lt h.head
  have e2 := row_lt h.row
  exact ⟨hb.trans (hb2.mono hb.size), hj, h.kept (S := fun _ => False) (Kept.of_below hb2) (fun x => x) (fun x => x), by omega, by omega, Nat.le_trans hb.size hj0, hp, hq, h0, h1, hs, h6⟩
theorem get_jp (d : Nat) (s : St) (h : JP w0 w j p q E over B l) (hd : d < 6) (hs : (E d).2 = s) :
    Calls Tryd.prog 25 #[.pointer (some ⟨j, 0, none⟩), .int .i64 (d : Int)] w fun e w' => e = .returned (.tuple #[.agg #[.int .i64 (s.ph : Int), .int .i64 (s.pr : Int), .int .i64 (s.at_ : Int)], .nilIface]) ∧ Below w.heap.size w w' := by
  have := get_ok j p d E over w h.jr hd
  rw [hs] at this
  exact this
theorem put_ok (d : Nat) (s : St) (h : JP w0 w j p q E false B l) (hE : HeldE w0 A) (hd : d < 6) (hf : fitsB s.ph s.pr s.at_ = true) (hn : (E d).1 < 4294967296) (hc : (putIn E B l d s).c = 0) :
    Calls Tryd.prog 29 #[.pointer (some ⟨j, 0, none⟩), .int .i64 (d : Int), .agg #[.int .i64 (s.ph : Int), .int .i64 (s.pr : Int), .int .i64 (s.at_ : Int)]] w fun e w' => e = .returned .nilIface ∧ JP w0 w' j p q (putIn E B l d s).e (putIn E B l d s).over (putIn E B l d s).b (putIn E B l d s).l ∧ Kept (In3 j p q) w w' := by
  have := put_in A w0 w j p q E B l d s h hE hd hf hn
  rw [hc] at this
  exact this
theorem put_no (d : Nat) (s : St) (c : Nat) (h : JP w0 w j p q E false B l) (hE : HeldE w0 A) (hd : d < 6) (hf : fitsB s.ph s.pr s.at_ = true) (hn : (E d).1 < 4294967296) (hc : (putIn E B l d s).c = c + 1) :
    Calls Tryd.prog 29 #[.pointer (some ⟨j, 0, none⟩), .int .i64 (d : Int), .agg #[.int .i64 (s.ph : Int), .int .i64 (s.pr : Int), .int .i64 (s.at_ : Int)]] w fun e w' => e = .returned (.iface 157 (.pointer (some (A c)))) ∧ JP w0 w' j p q (putIn E B l d s).e (putIn E B l d s).over (putIn E B l d s).b (putIn E B l d s).l ∧ Kept (In3 j p q) w w' := by
  have := put_in A w0 w j p q E B l d s h hE hd hf hn
  rw [hc] at this
  exact this
end
end Go.Proofs.YtnnknplmjiahhabDoor
namespace Go.Proofs.YtnnknplmjiahhabDoor
open Go.RowKit

/-- A put of a law's list. -/
structure Put6 where
  deal : Int
  ph : Int
  pr : Int
  at_ : Int
  cut : Int
  boot : Bool
def put6C (t : Put6) : Array Value := #[.int .i64 t.deal, .int .i64 t.ph, .int .i64 t.pr, .int .i64 t.at_, .int .i64 t.cut, .bool t.boot]
/-- The puts xs lie behind the address. -/
def PutsIn (w : World) (ad : Option Addr) (xs : List Put6) : Prop := ∀ i (h : i < xs.length), ∃ b off, ad = some ⟨b, off, none⟩ ∧ w.cell? ⟨b, off + i * 6, none⟩ = some (.int .i64 (xs[i]'h).deal) ∧ w.cell? ⟨b, off + i * 6 + 1, none⟩ = some (.int .i64 (xs[i]'h).ph) ∧ w.cell? ⟨b, off + i * 6 + 2, none⟩ = some (.int .i64 (xs[i]'h).pr) ∧
    w.cell? ⟨b, off + i * 6 + 3, none⟩ = some (.int .i64 (xs[i]'h).at_) ∧ w.cell? ⟨b, off + i * 6 + 4, none⟩ = some (.int .i64 (xs[i]'h).cut) ∧ w.cell? ⟨b, off + i * 6 + 5, none⟩ = some (.bool (xs[i]'h).boot) ∧ (xs[i]'h).cut ≤ 9223372036854775807

/-- The states of deals as a plate tells them. -/
def sts (B : ByteArray) : Nat → St := fun d => (dealL B.data.toList d).2
structure CI (w0 w : World) (j p q nb : Nat) (B : ByteArray) (l : Int) (N : Nat → St) (m : Nat) : Prop where
  jp : JP w0 w j p q (dealL B.data.toList) false B l
  pow : l ≠ -2
  nr : NR w nb N
  nb0 : w0.heap.size ≤ nb
  nbj : nb ≠ j
  nbp : nb ≠ p
  nbq : nb ≠ q
  same : ∀ d, d < 6 → N d = sts B d
  num : ∀ d, d < 6 → (dealL B.data.toList d).1 ≤ m
section
variable {w0 w w' : World} {j p q nb m : Nat} {B : ByteArray} {l : Int} {N : Nat → St} {A : Nat → Addr}
theorem CI.later (h : CI w0 w j p q nb B l N m) (hb : Below w.heap.size w w') : CI w0 w' j p q nb B l N m :=
  ⟨h.jp.later hb, h.pow, h.nr.later hb h.nr.lt, h.nb0, h.nbj, h.nbp, h.nbq, h.same, h.num⟩
theorem CI.drew (h : CI w0 w j p q nb B l N m) : CI w0 w.drew j p q nb B l N m := h.later (Below.refl _ _).drew
theorem CI.drewN (h : CI w0 w j p q nb B l N m) (n : Nat) : CI w0 (w.drewN n) j p q nb B l N m := h.later (below_drewN (Below.refl _ _) n)
theorem CI.mono {m' : Nat} (h : CI w0 w j p q nb B l N m) (hm : m ≤ m') : CI w0 w j p q nb B l N m' :=
  ⟨h.jp, h.pow, h.nr, h.nb0, h.nbj, h.nbp, h.nbq, h.same, fun d hd => Nat.le_trans (h.num d hd) hm⟩
theorem CI.lts (h : CI w0 w j p q nb B l N m) : j < w.heap.size ∧ p < w.heap.size ∧ q < w.heap.size ∧ nb < w.heap.size := ⟨h.jp.jr.lt, row_lt h.jp.pl.head, row_lt h.jp.pl.row, h.nr.lt⟩
/-- A cut is set. -/
theorem CI.cut (h : CI w0 w j p q nb B l N m) {n : Int} (hk : Kept (In2 p q) w w') (hp : Pl w' p q B n) (h0 : 0 ≤ n) (h1 : n ≤ 9223372036854775807) : CI w0 w' j p q nb B n N m :=
  ⟨h.jp.plate hk hp (by omega) h1 rfl, by omega, hk.row h.nr (fun g => g.elim h.nbp h.nbq), h.nb0, h.nbj, h.nbp, h.nbq, h.same, h.num⟩
/-- The states that stand behind a Put that was done, once the list is told it. -/
theorem CI.put (h : CI w0 w j p q nb B l N m) {d : Nat} {s : St} {B' : ByteArray} {l' : Int} {E' : Nat → Nat × St} {over' : Bool} (hj : JP w0 w' j p q E' over' B' l') (hk : Kept (In3 j p q) w w') (ho : over' = false) (hE : E' = dealL B'.data.toList) (hl : l' ≠ -2)
    (hs : (dealL B'.data.toList d).2 = s) (hot : ∀ e, e ≠ d → dealL B'.data.toList e = dealL B.data.toList e) (hn : (dealL B'.data.toList d).1 ≤ (dealL B.data.toList d).1 + 1) (hd : d < 6) :
    JP w0 w' j p q (dealL B'.data.toList) false B' l' ∧ NR w' nb N ∧ ∀ w'', NR w'' nb (updN N d s) → JP w0 w'' j p q (dealL B'.data.toList) false B' l' → CI w0 w'' j p q nb B' l' (updN N d s) (m + 1) := by
  subst ho hE
  refine ⟨hj, hk.row h.nr (fun g => by rcases g with g | g | g; exact h.nbj g; exact h.nbp g; exact h.nbq g), fun w'' hn2 hj2 => ⟨hj2, hl, hn2, h.nb0, h.nbj, h.nbp, h.nbq, fun e he => ?_, fun e he => ?_⟩⟩
  · unfold updN sts
    by_cases g : e = d
    · rw [if_pos g, g, hs]
    · rw [if_neg g, hot e g]; exact h.same e he
  · by_cases g : e = d
    · have := h.num d hd; rw [g]; omega
    · rw [hot e g]; have := h.num e he; omega
/-- The list alone is written. -/
theorem JP.aside (h : JP w0 w j p q (dealL B.data.toList) false B l) (hk : Kept (In1 nb) w w') (h0 : w0.heap.size ≤ nb) (hj : nb ≠ j) (hp : nb ≠ p) (hq : nb ≠ q) : JP w0 w' j p q (dealL B.data.toList) false B l :=
  ⟨hk.below h.bel.size (fun k g => by unfold In1 at g; omega) h.bel, hk.row h.jr (fun g => hj g.symm), h.pl.kept hk (fun g => hp g.symm) (fun g => hq g.symm), h.jp, h.jq, h.j0, h.p0, h.q0, h.l0, h.l1, h.sz, h.s6⟩
/-- Behind a Put that was cut: power again, opened anew. -/
theorem CI.reopen {w5 w6 w7 : World} {j2 : Nat} {B' : ByteArray} {l' : Int} {E' : Nat → Nat × St} {ov : Bool} (h : CI w0 w j p q nb B l N m) (hj : JP w0 w5 j p q E' ov B' l') (hk : Kept (In3 j p q) w w5) (hd : dealL B'.data.toList = dealL B.data.toList)
    (hP6 : Pl w6 p q B' (-1)) (hK6 : Kept (In2 p q) w5 w6) (hJ7 : JR w7 j2 p (dealL B'.data.toList) false) (hb7 : Below w6.heap.size w6 w7) (hj7 : w6.heap.size ≤ j2) : CI w0 w7 j2 p q nb B' (-1) N m := by
  have b6 : Below w0.heap.size w0 w6 := hK6.below hj.bel.size (fun k g => by have := hj.p0; have := hj.q0; unfold In2 at g; omega) hj.bel
  have n5 : NR w5 nb N := hk.row h.nr (fun g => by rcases g with g | g | g; exact h.nbj g; exact h.nbp g; exact h.nbq g)
  have n6 : NR w6 nb N := hK6.row n5 (fun g => g.elim h.nbp h.nbq)
  have n7 : NR w7 nb N := n6.later hb7 n6.lt
  have l6 := n6.lt
  refine ⟨jp_new b6 hP6 hj.p0 hj.q0 hJ7 hb7 hj7 (by omega) (by omega) hj.sz hj.s6, by omega, n7, h.nb0, by omega, h.nbp, h.nbq, fun d g => ?_, fun d g => ?_⟩
  · unfold sts; rw [hd]; exact h.same d g
  · rw [hd]; exact h.num d g
theorem updN_same (N : Nat → St) (d : Nat) : updN N d (N d) = N := by
  funext e
  unfold updN
  by_cases g : e = d
  · rw [if_pos g, g]
  · rw [if_neg g]
/-- The list is told what it has. -/
theorem CI.again (h : CI w0 w j p q nb B l N m) (hk : Kept (In1 nb) w w') (hn : NR w' nb N) : CI w0 w' j p q nb B l N m :=
  ⟨h.jp.aside hk h.nb0 h.nbj h.nbp h.nbq, h.pow, hn, h.nb0, h.nbj, h.nbp, h.nbq, h.same, h.num⟩
end
theorem dec_or4 (a b c d : Prop) [Decidable a] [Decidable b] [Decidable c] [Decidable d] : (decide a || decide b || decide c || decide d) = decide (a ∨ b ∨ c ∨ d) := by
  by_cases ha : a <;> by_cases hb : b <;> by_cases hc : c <;> by_cases hd : d <;> simp [ha, hb, hc, hd]
end Go.Proofs.YtnnknplmjiahhabDoor
namespace Go.Proofs.YtnnknplmjiahhabDoor
open Go.RowKit

theorem st_neq (x0 x1 x2 : Int) (w : World) :
    (binOp .neq 34 (.agg #[.int .i64 x0, .int .i64 x1, .int .i64 x2]) (.agg #[.int .i64 x0, .int .i64 x1, .int .i64 x2])).run Tryd.prog w = .ok (.bool false) w := by
  go_simp
theorem get_is (j p d : Nat) (E : Nat → Nat × St) (over : Bool) (h1 h2 h3 : Nat) (w : World) (h : JR w j p E over) (hd : d < 6) (hs : (E d).2 = ⟨h1, h2, h3⟩) :
    Calls Tryd.prog 25 #[.pointer (some ⟨j, 0, none⟩), .int .i64 (d : Int)] w fun e w' => e = .returned (.tuple #[.agg #[.int .i64 (h1 : Int), .int .i64 (h2 : Int), .int .i64 (h3 : Int)], .nilIface]) ∧ Below w.heap.size w w' := by
  have := get_ok j p d E over w h hd
  rw [hs] at this
  exact this
theorem get_isnt (A : Nat → Addr) (v : Value) (d : Int) (w : World) (hE : HeldE w A) (hd : ¬ (0 ≤ d ∧ d < 6)) :
    Calls Tryd.prog 25 #[v, .int .i64 d] w fun e w' => e = .returned (.tuple #[.agg #[.int .i64 0, .int .i64 0, .int .i64 0], .iface 157 (.pointer (some (A 1)))]) ∧ Below w.heap.size w w' := get_bad A v d w hE hd
end Go.Proofs.YtnnknplmjiahhabDoor
namespace Go.Proofs.YtnnknplmjiahhabDoor
open Go.RowKit

/-- What any Put answers and leaves. -/
def pOut (E : Nat → Nat × St) (over : Bool) (B : ByteArray) (l : Int) (dl ph pr a : Int) : POut :=
  if over = true then ⟨6, E, true, B, l⟩ else if (0 ≤ dl ∧ dl < 6) ∧ fitsB ph pr a = true then putIn E B l dl.toNat ⟨ph.toNat, pr.toNat, a.toNat⟩ else ⟨2, E, false, B, l⟩
/-- The program's blocks and the document's are others, and new. -/
structure Apart (w0 : World) (j p q m gn gs r : Nat) : Prop where
  dis : ∀ x, In3 j p q x → ¬ In4 m gn gs r x
  low : ∀ x, In4 m gn gs r x → w0.heap.size ≤ x
section
variable {w0 w w' : World} {j p q m gn gs r : Nat} {E : Nat → Nat × St} {over dead : Bool} {B : ByteArray} {l : Int} {A : Nat → Addr}
theorem in_nat {dl ph pr a : Int} (h : (0 ≤ dl ∧ dl < 6) ∧ fitsB ph pr a = true) : ∃ d h1 h2 h3 : Nat, dl = d ∧ ph = h1 ∧ pr = h2 ∧ a = h3 := by
  obtain ⟨b1, b2, b3, b4, b5, b6⟩ := of_decide_eq_true h.2
  exact ⟨dl.toNat, ph.toNat, pr.toNat, a.toNat, by omega, by omega, by omega, by omega⟩
theorem jput_any (dl ph pr a : Int) (o : POut) (ho : pOut E over B l dl ph pr a = o) (h : JP w0 w j p q E over B l) (hE : HeldE w0 A) (hn : ∀ d, d < 6 → (E d).1 < 4294967296) :
    Calls Tryd.prog 29 #[.pointer (some ⟨j, 0, none⟩), .int .i64 dl, .agg #[.int .i64 ph, .int .i64 pr, .int .i64 a]] w fun e w' => e = .returned (ev A o.c) ∧ JP w0 w' j p q o.e o.over o.b o.l ∧ Kept (In3 j p q) w w' := by
  subst ho
  unfold pOut
  cases over with
  | true => rw [if_pos rfl]; exact put_over A w0 w j p q E B l dl ph pr a h hE
  | false =>
    rw [if_neg (by decide)]
    by_cases hb : (0 ≤ dl ∧ dl < 6) ∧ fitsB ph pr a = true
    · rw [if_pos hb]
      obtain ⟨d, h1, h2, h3, rfl, rfl, rfl, rfl⟩ := in_nat hb
      simp only [Int.toNat_natCast]
      exact put_in A w0 w j p q E B l d ⟨h1, h2, h3⟩ h hE (by omega) hb.2 (hn d (by omega))
    · rw [if_neg hb]; exact put_bound A w0 w j p q E B l dl ph pr a h hE hb
theorem rput_any (dl ph pr a : Int) (o : POut) (ho : pOut E over B l dl ph pr a = o) (h : RK w m gn gs r E over B l) (hn : ∀ d, d < 6 → (E d).1 < 4294967296) :
    Calls Tryd.prog 34 #[.pointer (some ⟨m, 0, none⟩), .int .i64 dl, .agg #[.int .i64 ph, .int .i64 pr, .int .i64 a]] w fun e w' => e = .returned (.int .i64 (o.c : Int)) ∧ RK w' m gn gs r o.e o.over o.b o.l ∧ Kept (In4 m gn gs r) w w' := by
  subst ho
  unfold pOut
  cases over with
  | true =>
    rw [if_pos rfl]
    refine (rput_over dl ph pr a h).mono ?_
    rintro e w' ⟨rfl, hb⟩
    exact ⟨rfl, h.later hb, Kept.of_below hb⟩
  | false =>
    rw [if_neg (by decide)]
    by_cases hb : (0 ≤ dl ∧ dl < 6) ∧ fitsB ph pr a = true
    · rw [if_pos hb]
      obtain ⟨d, h1, h2, h3, rfl, rfl, rfl, rfl⟩ := in_nat hb
      simp only [Int.toNat_natCast]
      exact rput_in d h1 h2 h3 h (by omega) hb.2 (hn d (by omega))
    · rw [if_neg hb]
      refine (rput_bound dl ph pr a h hb).mono ?_
      rintro e w' ⟨rfl, hb'⟩
      exact ⟨rfl, h.later hb', Kept.of_below hb'⟩
theorem putIn_c (E : Nat → Nat × St) (B : ByteArray) (l : Int) (d : Nat) (s : St) : (putIn E B l d s).c ≤ 9 := by
  have h1 : (fill1 B l (nextK d (E d).1)).c ≤ 9 := by
    unfold fill1
    split
    · show 6 ≤ 9; omega
    · split
      · exact Nat.zero_le _
      · exact wC_le _ _ _ _
  have h2 : (fill2 B l (nextK d (E d).1) ((E d).1 + 1) s).c ≤ 9 := by
    unfold fill2
    split
    · exact wC_le _ _ _ _
    · exact h1
  have h3 : (fill3 B l (nextK d (E d).1) ((E d).1 + 1) s).c ≤ 9 := by
    unfold fill3
    split
    · exact wC_le _ _ _ _
    · exact h2
  unfold putIn
  split
  · exact Nat.zero_le _
  · split
    · show 5 ≤ 9; omega
    · split
      · exact Nat.zero_le _
      · exact h3
theorem pOut_c (dl ph pr a : Int) : (pOut E over B l dl ph pr a).c ≤ 9 := by
  unfold pOut
  split
  · show 6 ≤ 9; omega
  · split
    · exact putIn_c _ _ _ _ _
    · show 2 ≤ 9; omega
theorem pOut_n (dl ph pr a : Int) (hn : ∀ d, d < 6 → (E d).1 < 4294967296) : ∀ d, d < 6 → ((pOut E over B l dl ph pr a).e d).1 < 4294967296 := by
  intro d hd
  unfold pOut
  split
  · exact hn d hd
  · split
    · rename_i h2
      unfold putIn
      split
      · exact hn d hd
      · split
        · exact hn d hd
        · rename_i h4
          split
          · show (updE E dl.toNat _ d).1 < _
            unfold updE
            split
            · have := hn dl.toNat (by omega)
              show (E dl.toNat).1 + 1 < _
              omega
            · exact hn d hd
          · exact hn d hd
    · exact hn d hd
theorem deal_lt (L : List UInt8) (d : Nat) : (dealL L d).1 < 4294967296 := by
  unfold dealL
  split
  all_goals first | exact heldL_lt _ _ | (split <;> exact heldL_lt _ _)
/-- Other blocks are written. -/
theorem JP.far {S : Nat → Prop} (h : JP w0 w j p q E over B l) (k : Kept S w w') (hS : ∀ x, S x → w0.heap.size ≤ x) (hd : ∀ x, In3 j p q x → ¬ S x) : JP w0 w' j p q E over B l :=
  ⟨k.below h.bel.size hS h.bel, k.row h.jr (hd j (.inl rfl)), h.pl.kept k (hd p (.inr (.inl rfl))) (hd q (.inr (.inr rfl))), h.jp, h.jq, h.j0, h.p0, h.q0, h.l0, h.l1, h.sz, h.s6⟩
theorem RK.far {S : Nat → Prop} (h : RK w m gn gs r E over B l) (k : Kept S w w') (hd : ∀ x, S x → ¬ In4 m gn gs r x) : RK w' m gn gs r E over B l :=
  h.kept k (fun e => hd _ e (.inl rfl)) (fun e => hd _ e (.inr (.inl rfl))) (fun e => hd _ e (.inr (.inr (.inl rfl)))) (fun e => hd _ e (.inr (.inr (.inr rfl))))
theorem In2.in3 {x : Nat} (h : In2 p q x) : In3 j p q x := .inr h
/-- A cut on the document's plate. -/
theorem rcut_rk (n : Int) (c : Nat) (l' : Int) (h : RK w m gn gs r E over B l) (hn : n ≤ 9223372036854775807) (hc : cC l n = c) (hl : cL l n = l') :
    Calls Tryd.prog 19 #[.pointer (some ⟨r, 0, none⟩), .int .i64 n] w fun e w' => e = .returned (.int .i64 (c : Int)) ∧ RK w' m gn gs r E over B l' ∧ Kept (In4 m gn gs r) w w' := by
  subst hc hl
  obtain ⟨off, l2, cuts, p1, p2⟩ := h.rp
  refine (cut_rp r B l n l2 off cuts w p1 p2 hn).mono ?_
  rintro e w' ⟨rfl, hx, hk⟩
  exact ⟨rfl, ⟨h.rj.kept hk (fun e => h.rm e.symm) (fun e => h.rn e.symm) (fun e => h.rs e.symm), hx, h.rm, h.rn, h.rs, h.sz, h.s6⟩, hk.mono (fun k e => .inr (.inr (.inr e)))⟩
theorem jcut_jp (n : Int) (c : Nat) (l' : Int) (h : JP w0 w j p q E over B l) (hE : HeldE w0 A) (h0 : 0 ≤ n) (hn : n ≤ 9223372036854775807) (hc : cC l n = c) (hl : cL l n = l') :
    Calls Tryd.prog 10 #[.pointer (some ⟨p, 0, none⟩), .int .i64 n] w fun e w' => e = .returned (ev A c) ∧ JP w0 w' j p q E over B l' ∧ Kept (In3 j p q) w w' := by
  subst hc hl
  refine (cut_pl A p q B l n w h.pl (h.held hE)).mono ?_
  rintro e w' ⟨rfl, hp, hk⟩
  refine ⟨rfl, h.plate hk hp ?_ ?_ rfl, hk.mono (fun k e => .inr e)⟩
  · unfold cL
    have := h.l0
    split
    · omega
    · split <;> omega
  · unfold cL
    have := h.l1
    split
    · omega
    · split <;> omega
/-- The document's plate has power again. -/
theorem ron_rk (h : RK w m gn gs r E over B l) :
    Calls Tryd.prog 20 #[.pointer (some ⟨r, 0, none⟩)] w fun e w' => e = .returned (.tuple #[]) ∧ RK w' m gn gs r E over B (-1) ∧ Kept (In4 m gn gs r) w w' := by
  obtain ⟨off, l2, cuts, p1, p2⟩ := h.rp
  refine (rpon_any r B off cuts l2 w p1).mono ?_
  rintro e w' ⟨rfl, hx, hk⟩
  exact ⟨rfl, ⟨h.rj.kept hk (fun e => h.rm e.symm) (fun e => h.rn e.symm) (fun e => h.rs e.symm), ⟨false, l2, false, hx, .inr (.inl ⟨rfl, rfl, rfl⟩)⟩, h.rm, h.rn, h.rs, h.sz, h.s6⟩, hk.mono (fun k e => .inr (.inr (.inr e)))⟩
theorem jon_jp (h : JP w0 w j p q E over B l) :
    Calls Tryd.prog 11 #[.pointer (some ⟨p, 0, none⟩)] w fun e w' => e = .returned (.tuple #[]) ∧ JP w0 w' j p q E over B (-1) ∧ Kept (In3 j p q) w w' := by
  refine (pon_any p q B l w h.pl).mono ?_
  rintro e w' ⟨rfl, hp, hk⟩
  exact ⟨rfl, h.plate hk hp (by omega) (by omega) rfl, hk.mono (fun k e => .inr e)⟩
/-- Both are opened anew. -/
theorem jopen_jp (h : JP w0 w j p q E over B (-1)) (hE : HeldE w0 A) :
    Calls Tryd.prog 24 #[.pointer (some ⟨p, 0, none⟩)] w fun e w' => ∃ j', e = .returned (.tuple #[.pointer (some ⟨j', 0, none⟩), .nilIface]) ∧ JP w0 w' j' p q (dealL B.data.toList) false B (-1) ∧ Below w.heap.size w w' ∧ w.heap.size ≤ j' := by
  refine (open_ok A p q B (-1) w h.pl (h.held hE) h.sz h.s6 (by decide)).mono ?_
  rintro e w' ⟨j', rfl, hj, hb, hj0⟩
  have hl : p < w.heap.size ∧ q < w.heap.size := ⟨row_lt h.pl.head, row_lt h.pl.row⟩
  have hz := h.bel.size
  exact ⟨j', rfl, ⟨h.bel.trans (hb.mono h.bel.size), hj, h.pl.kept (S := fun _ => False) (Kept.of_below hb) (fun x => x) (fun x => x), by omega, by omega, by omega, h.p0, h.q0, by decide, by decide, h.sz, h.s6⟩, hb, hj0⟩
theorem ropen_rk (h : RK w m gn gs r E over B l) :
    Calls Tryd.prog 31 #[.pointer (some ⟨r, 0, none⟩)] w fun e w' => ∃ m' gn' gs', e = .returned (.pointer (some ⟨m', 0, none⟩)) ∧ RK w' m' gn' gs' r (dealL B.data.toList) false B l ∧ Below w.heap.size w w' ∧ w.heap.size ≤ m' ∧ w.heap.size ≤ gn' ∧ w.heap.size ≤ gs' := by
  obtain ⟨off, l2, cuts, p1, p2⟩ := h.rp
  have hl := row_ltJ p1
  refine (ropen_any r B off cuts l2 w p1 h.sz h.s6).mono ?_
  rintro e w' ⟨m', gn', gs', rfl, hj, hb, b1, b2, b3⟩
  exact ⟨m', gn', gs', rfl, ⟨hj, ⟨off, l2, cuts, p1.kept (S := fun _ => False) (Kept.of_below hb) (fun x => x), p2⟩, by omega, by omega, by omega, h.sz, h.s6⟩, hb, b1, b2, b3⟩
end
end Go.Proofs.YtnnknplmjiahhabDoor
namespace Go.Proofs.YtnnknplmjiahhabDoor
open Go.RowKit

theorem mlaw : Maps.Keyed Tryd.prog 3 := Maps.int_keyed Tryd.underlying3
theorem munit (w : World) : (zeroValue 77).run Tryd.prog w = .ok (.agg #[]) w := by kernel_rfl
theorem mkey {a : Int} (h : -9223372036854775808 ≤ a ∧ a ≤ 9223372036854775807) : keyOf Tryd.prog 3 (.int .i64 a) = some (.int .i64 a) := by
  refine Maps.keyOf_int_mk Tryd.underlying3 ?_
  have h1 : IntKind.i64.min = -9223372036854775808 := by decide
  have h2 : IntKind.i64.max = 9223372036854775807 := by decide
  simp only [Lit.wf, Bool.and_eq_true, decide_eq_true_eq, h1, h2]
  exact h
theorem mkeyN {d : Nat} (h : d < 6) : keyOf Tryd.prog 3 (.int .i64 (d : Int)) = some (.int .i64 (d : Int)) := mkey (by omega)
/-- A site: its journal, its number, its map of at most n deals that it refuses. -/
structure SR (w : World) (s j mb : Nat) (id : Int) (R : Nat → Bool) (n : Nat) : Prop where
  row : w.heap[s]? = some (.cells #[.pointer (some ⟨j, 0, none⟩), .int .i64 id, .map (some mb)] 76 (0, 0))
  ref : ∃ D : DataW Unit, w.ownsMap Tryd.prog 3 unitElem mb n D ∧ ∀ d : Nat, d < 6 → Maps.has D (.int .i64 (d : Int)) = R d
theorem ownsMap_kept {S : Nat → Prop} {w w' : World} {P : Program} {k : TypeId} {H : Type} {R : Value → Option (DataW H × List MemPlace)} {b n : Nat} {D : DataW H} (h : w.ownsMap P k R b n D) (hk : Kept S w w') (hs : ¬ S b) : w'.ownsMap P k R b n D := by
  obtain ⟨es, cl, hb, r⟩ := h
  exact ⟨es, cl, hk.row hb hs, r⟩
section
variable {w w' : World} {s j mb n : Nat} {id : Int} {R : Nat → Bool}
theorem SR.kept {S : Nat → Prop} (h : SR w s j mb id R n) (k : Kept S w w') (h1 : ¬ S s) (h2 : ¬ S mb) : SR w' s j mb id R n := by
  obtain ⟨r, D, hD, hh⟩ := h
  exact ⟨k.row r h1, D, ownsMap_kept hD k h2, hh⟩
theorem SR.later (h : SR w s j mb id R n) (hb : Below w.heap.size w w') : SR w' s j mb id R n := h.kept (S := fun _ => False) (Kept.of_below hb) (fun x => x) (fun x => x)
theorem SR.drew (h : SR w s j mb id R n) : SR w.drew s j mb id R n := h.later (Below.refl _ _).drew
theorem SR.mono {m : Nat} (h : SR w s j mb id R n) (hn : n ≤ m) : SR w s j mb id R m := by
  obtain ⟨r, D, hD, hh⟩ := h
  exact ⟨r, D, hD.mono hn, hh⟩
theorem SR.cells (h : SR w s j mb id R n) : w.cell? ⟨s, 0, none⟩ = some (.pointer (some ⟨j, 0, none⟩)) ∧ w.cell? ⟨s, 1, none⟩ = some (.int .i64 id) ∧ w.cell? ⟨s, 2, none⟩ = some (.map (some mb)) := by
  refine ⟨?_, ?_, ?_⟩ <;> rw [cell_of_row _ _ _ _ _ _ h.row] <;> rfl
theorem SR.lts (h : SR w s j mb id R n) : s < w.heap.size ∧ mb < w.heap.size := by
  obtain ⟨r, D, hD, _⟩ := h
  exact ⟨row_ltJ r, hD.lt⟩
end
/-- A deal more is refused. -/
def updR (R : Nat → Bool) (d : Nat) : Nat → Bool := fun e => if e = d then true else R e
/-- A site over its journal and plate. -/
structure SP (w0 w : World) (s j mb p q : Nat) (id : Int) (R : Nat → Bool) (n : Nat) (E : Nat → Nat × St) (over : Bool) (B : ByteArray) (l : Int) : Prop where
  jp : JP w0 w j p q E over B l
  sr : SR w s j mb id R n
  ns : ¬ In3 j p q s
  nm : ¬ In3 j p q mb
  sm : s ≠ mb
  s0 : w0.heap.size ≤ s
  m0 : w0.heap.size ≤ mb
section
variable {w0 w w' : World} {s j mb p q n : Nat} {id : Int} {R : Nat → Bool} {E E' : Nat → Nat × St} {over over' : Bool} {B B' : ByteArray} {l l' : Int}
theorem SP.later (h : SP w0 w s j mb p q id R n E over B l) (hb : Below w.heap.size w w') : SP w0 w' s j mb p q id R n E over B l := ⟨h.jp.later hb, h.sr.later hb, h.ns, h.nm, h.sm, h.s0, h.m0⟩
theorem SP.drew (h : SP w0 w s j mb p q id R n E over B l) : SP w0 w.drew s j mb p q id R n E over B l := h.later (Below.refl _ _).drew
theorem SP.mono {m : Nat} (h : SP w0 w s j mb p q id R n E over B l) (hn : n ≤ m) : SP w0 w s j mb p q id R m E over B l := ⟨h.jp, h.sr.mono hn, h.ns, h.nm, h.sm, h.s0, h.m0⟩
/-- The journal and its plate were written. -/
theorem SP.turn (h : SP w0 w s j mb p q id R n E over B l) (hj : JP w0 w' j p q E' over' B' l') (hk : Kept (In3 j p q) w w') : SP w0 w' s j mb p q id R n E' over' B' l' := ⟨hj, h.sr.kept hk h.ns h.nm, h.ns, h.nm, h.sm, h.s0, h.m0⟩
/-- Other blocks were written. -/
theorem SP.far {S : Nat → Prop} (h : SP w0 w s j mb p q id R n E over B l) (k : Kept S w w') (hS : ∀ x, S x → w0.heap.size ≤ x) (hd : ∀ x, In3 j p q x → ¬ S x) (h1 : ¬ S s) (h2 : ¬ S mb) : SP w0 w' s j mb p q id R n E over B l := ⟨h.jp.far k hS hd, h.sr.kept k h1 h2, h.ns, h.nm, h.sm, h.s0, h.m0⟩
theorem SP.lts (h : SP w0 w s j mb p q id R n E over B l) : s < w.heap.size ∧ mb < w.heap.size ∧ j < w.heap.size ∧ p < w.heap.size ∧ q < w.heap.size := ⟨h.sr.lts.1, h.sr.lts.2, h.jp.jr.lt, row_lt h.jp.pl.head, row_lt h.jp.pl.row⟩
end
end Go.Proofs.YtnnknplmjiahhabDoor
