/-
  THE WALK of (journal.entry).slot: a slot's eighteen bytes.
-/
import Derived.Test.YtkbbjkiinpimiaaDoorJB
namespace Go.Proofs.YtkbbjkiinpimiaaDoor
open Go.RowKit

/-- Bytes as a text. -/
def bA (l : List UInt8) : ByteArray := ⟨l.toArray⟩
theorem bA_list (l : List UInt8) : (bA l).data.toList = l := by simp [bA]
theorem bA_size (l : List UInt8) : (bA l).size = l.length := by rw [size_list, bA_list]
theorem bA_of (B : ByteArray) : bA B.data.toList = B := ba_ext (bA_list _)
/-- An entry as a value. -/
def entV (n : Nat) (s : St) : Value := .agg #[.int .i64 s.ph, .int .i64 s.pr, .int .i64 s.at_, .int .u32 n]
theorem OwnB.later {w w' : World} {base B : Nat} {v : Value} {l : List UInt8} (h : OwnB w base v l) (hb : Below B w w') (hB : w.heap.size ≤ B) : OwnB w' base v l := by
  refine ⟨h.1, ?_⟩
  rcases h.2 with h2 | ⟨g, cap, cur, hv, hg, hh, r⟩
  · exact .inl h2
  · exact .inr ⟨g, cap, cur, hv, hg, (hb.block g (Nat.lt_of_lt_of_le ((Array.getElem?_eq_some_iff.1 hh).1) hB)).trans hh, r⟩
theorem OwnB.alloc {w : World} {base : Nat} {v : Value} {l : List UInt8} (h : OwnB w base v l) (o : Obj) : OwnB (w.alloc o) base v l := World.ownsRow.alloc h o
theorem OwnB.nil (w : World) (base : Nat) : OwnB w base (.slice none 0 0) [] := World.ownsRow_nil _ _ _ _
/-- A slice of bytes that the call owns, and not nil. -/
theorem OwnB.at_ {w : World} {base : Nat} {v : Value} {l : List UInt8} (h : OwnB w base v l) (h0 : 0 < l.length) : ∃ g cap, v = .slice (some ⟨g, 0, none⟩) l.length cap ∧ BytesAt w g 0 l := by
  rcases h.2 with ⟨_, h2⟩ | ⟨g, cap, cur, hv, hg, hh, hle, hm, hsz, ht⟩
  · omega
  · refine ⟨g, cap, hv, fun j hj => ?_⟩
    rw [Nat.zero_add, cell_of_row w g j cur _ _ hh]
    have e : (cur.toList.take (l.length * 1))[j]? = (cellsL l)[j]? := by rw [ht]
    rw [List.getElem?_take, if_pos (by omega)] at e
    rw [← Array.getElem?_toList, e]
    simp [cellsL, hj]

theorem OwnB.app {w W w' : World} {base : Nat} {v v' : Value} {l r : List UInt8} (hB : base ≤ w.heap.size) (h : OwnB w base v l) (hW : Below w.heap.size w W) (hown : w'.ownsRow base 5 1 v' (l.length + r.length) (cellsL l ++ cellsL r)) (hg : W.grownBy w' v.ownBlock) :
    OwnB w' base v' (l ++ r) ∧ Below base w w' :=
  ⟨by unfold OwnB; rw [cellsL_append, List.length_append]; exact hown, own_below (Below.refl base w) hB hW h hg⟩
/-- 'string(bytes)' of a slice that the call owns. -/
theorem conv_own {w : World} {base : Nat} {v : Value} {l : List UInt8} (h : OwnB w base v l) (h0 : 0 < l.length) : (convert 54 9 v).run Tryd.prog w = .ok (.string (bA l)) w := by
  obtain ⟨g, cap, rfl, hc⟩ := h.at_ h0
  have := run_convert_bytes_back (P := Tryd.prog) w 54 9 5 ⟨g, 0, none⟩ cap l Tryd.underlying54 Tryd.underlying5 Tryd.underlying9 (fun j hj => by rw [addrAdd]; exact hc j hj)
  rw [this]; rfl
theorem sum_is (s : ByteArray) (c : Nat) (w : World) (hs : s.size ≤ 1000) (hc : crcL s.data.toList = c) :
    Calls Tryd.prog 101 #[.string s] w fun e w' => e = .returned (.int .u32 (c : Int)) ∧ w' = w := by
  rw [← hc]; exact sum_any s w hs
set_option maxHeartbeats 1000000 in
set_option maxRecDepth 100000 in
theorem slot_any (n : Nat) (s : St) (w : World) (hn : n < 4294967296) (hs : s.fits) :
    Calls Tryd.prog 78 #[entV n s] w fun e w' => e = .returned (.string (bA (bodyL n s ++ [165]))) ∧ Below w.heap.size w w' := by
  obtain ⟨i0, hi, hz0, hz1, hz2⟩ := info_parts Tryd.infoB1
  obtain ⟨h1, h2, h3⟩ := hs
  obtain ⟨t1, E1⟩ : ∃ t, Hid (wideL n 4 = t) := ⟨_, rfl⟩
  obtain ⟨t2, E2⟩ : ∃ t, Hid (t1 ++ [UInt8.ofNat s.ph] = t) := ⟨_, rfl⟩
  obtain ⟨t3, E3⟩ : ∃ t, Hid (t2 ++ wideL s.pr 4 = t) := ⟨_, rfl⟩
  obtain ⟨t4, E4⟩ : ∃ t, Hid (t3 ++ wideL s.at_ 4 = t) := ⟨_, rfl⟩
  obtain ⟨t5, E5⟩ : ∃ t, Hid (t4 ++ wideL (crcL t4) 4 = t) := ⟨_, rfl⟩
  have HT : Hid (bodyL n s ++ [165] = t5 ++ [165]) := by
    unfold Hid bodyL textL
    rw [wide1, Nat.mod_eq_of_lt h1, E1.out, E2.out, E3.out, E4.out, E5.out]
  have l1 : t1.length = 4 := by rw [← E1.out]; exact wideL_length 4 n
  have l2 : t2.length = 5 := by rw [← E2.out]; simp [l1]
  have l3 : t3.length = 9 := by rw [← E3.out]; simp [wideL_length, l2]
  have l4 : t4.length = 13 := by rw [← E4.out]; simp [wideL_length, l3]
  have l5 : t5.length = 17 := by rw [← E5.out]; simp [wideL_length, l4]
  have HP : Hid (((UInt8.ofNat s.ph).toNat : Int) = (s.ph : Int)) := by
    unfold Hid
    rw [UInt8.toNat_ofNat', Nat.mod_eq_of_lt (by omega)]
  unfold entV
  obtain ⟨W0, HW0⟩ : ∃ W0, Hid (W0 = w.alloc (.cells #[.int .i64 s.ph, .int .i64 s.pr, .int .i64 s.at_, .int .u32 n] 121)) := ⟨_, rfl⟩
  have sz0 : W0.heap.size = w.heap.size + 1 := by rw [HW0.out]; simp
  have HC : Hid (∀ wx, Below (w.heap.size + 1) W0 wx → w.heap.size + 1 ≤ wx.heap.size ∧ wx.cell? ⟨w.heap.size, 0, none⟩ = some (.int .i64 s.ph) ∧ wx.cell? ⟨w.heap.size, 1, none⟩ = some (.int .i64 s.pr) ∧ wx.cell? ⟨w.heap.size, 2, none⟩ = some (.int .i64 s.at_) ∧ Below w.heap.size w wx) := by
    intro wx hb
    have hr : W0.heap[w.heap.size]? = some (.cells #[.int .i64 s.ph, .int .i64 s.pr, .int .i64 s.at_, .int .u32 n] 121 (0, 0)) := by rw [HW0.out]; exact heap_alloc_new w _
    refine ⟨by have := hb.size; omega, ?_, ?_, ?_, ?_⟩
    · rw [hb.cell (by simp), cell_of_row _ _ _ _ _ _ hr]; rfl
    · rw [hb.cell (by simp), cell_of_row _ _ _ _ _ _ hr]; rfl
    · rw [hb.cell (by simp), cell_of_row _ _ _ _ _ _ hr]; rfl
    · rw [HW0.out] at hb
      exact ((Below.refl _ _).alloc (Nat.le_refl _) _).trans (hb.mono (by omega))
  rw [HT.out]
  go_enter Tryd.func78, Tryd.ntmps78
  go_wp2_with fail
  rw [← HW0.out]
  refine (add_any (w.heap.size + 1) n _ [] _ (OwnB.nil _ _) (by omega) (by simp) hn).mono ?_
  rintro e w1 ⟨v1, rfl, ho1, hb1⟩
  rw [List.nil_append, E1.out] at ho1
  obtain ⟨z1, c0, -, -, -⟩ := HC.out _ hb1
  have HO1 := hid ho1
  go_wp2_with (at_builtin; refine wpList_append_own _ rfl (.tmp 7) (.tmp 12) 54 rfl (w.heap.size + 1) 5 i0 (.int .u8 0) 1 1 Tryd.underlying54 hi hz0 hz1 hz2 rfl (by decide) _ t1.length (cellsL t1) rfl (by exact World.ownsRow.alloc HO1.out _) ⟨w1.heap.size, 0, none⟩ 1 1 [.int .u8 (s.ph : Int)] rfl rfl (lit_cells _ _ _) ?c2 ?c3 ?c4 ?c5 ?_)
  case c2 => intro u hu; simp at hu; subst hu; rfl
  case c3 => unfold maxLen; omega
  case c4 => omega
  case c5 => simp; omega
  intro v2 w2 hown2 hg2 _
  obtain ⟨ho2, hb2⟩ := OwnB.app (v' := v2) (r := [UInt8.ofNat s.ph]) z1 HO1.out ((Below.refl _ _).alloc (Nat.le_refl _) _) (by rw [l1, show cellsL [UInt8.ofNat s.ph] = [.int .u8 (s.ph : Int)] by rw [← HP.out]; rfl]; exact hown2) hg2
  rw [E2.out] at ho2
  have HB2 := hid (hb1.trans hb2)
  have HO2 := hid ho2
  clear hown2 hg2 ho1 hb1 c0 ho2 hb2
  obtain ⟨z2, -, c1, -, -⟩ := HC.out _ HB2.out
  go_wp2_with fail
  refine (add_any (w.heap.size + 1) s.pr _ t2 _ HO2.out z2 (by omega) h2).mono ?_
  rintro e w3 ⟨v3, rfl, ho3, hb3⟩
  rw [E3.out] at ho3
  have HO3 := hid ho3
  have HB3 := hid (HB2.out.trans hb3)
  clear ho3 hb3
  obtain ⟨z3, -, -, c2, -⟩ := HC.out _ HB3.out
  go_wp2_with fail
  refine (add_any (w.heap.size + 1) s.at_ _ t3 _ HO3.out z3 (by omega) h3).mono ?_
  rintro e w4 ⟨v4, rfl, ho4, hb4⟩
  rw [E4.out] at ho4
  have HO4 := hid ho4
  have HB4 := hid (HB3.out.trans hb4)
  clear ho4 hb4
  obtain ⟨z4, -, -, -, -⟩ := HC.out _ HB4.out
  have hcv4 := conv_own HO4.out (by omega)
  go_wp2_with fail
  refine (sum_is (bA t4) (crcL t4) _ (by rw [bA_size]; omega) (by rw [bA_list])).mono ?_
  rintro e wx ⟨rfl, hx⟩
  subst wx
  clear hcv4
  go_wp2_with fail
  refine (add_any (w.heap.size + 1) (crcL t4) _ t4 _ HO4.out z4 (by omega) (crcL_lt t4)).mono ?_
  rintro e w5 ⟨v5, rfl, ho5, hb5⟩
  rw [E5.out] at ho5
  have HO5 := hid ho5
  have HB5 := hid (HB4.out.trans hb5)
  clear ho5 hb5
  obtain ⟨z5, -, -, -, -⟩ := HC.out _ HB5.out
  go_wp2_with (at_builtin; refine wpList_append_own _ rfl (.tmp 31) (.tmp 32) 54 rfl (w.heap.size + 1) 5 i0 (.int .u8 0) 1 1 Tryd.underlying54 hi hz0 hz1 hz2 rfl (by decide) _ t5.length (cellsL t5) rfl (by exact World.ownsRow.alloc HO5.out _) ⟨w5.heap.size, 0, none⟩ 1 1 [.int .u8 165] rfl rfl (lit_cells _ _ _) ?c2 ?c3 ?c4 ?c5 ?_)
  case c2 => intro u hu; simp at hu; subst hu; rfl
  case c3 => unfold maxLen; omega
  case c4 => omega
  case c5 => simp; omega
  intro v6 w6 hown6 hg6 _
  obtain ⟨ho6, hb6⟩ := OwnB.app (v' := v6) (r := [165]) z5 HO5.out ((Below.refl _ _).alloc (Nat.le_refl _) _) (by rw [l5]; exact hown6) hg6
  have hcv := conv_own ho6 (by simp)
  have HB6 := hid (HC.out _ (HB5.out.trans hb6)).2.2.2.2
  clear hown6 hg6 ho6 hb6
  go_wp2
  go_ret
  exact ⟨rfl, HB6.out⟩
end Go.Proofs.YtkbbjkiinpimiaaDoor
