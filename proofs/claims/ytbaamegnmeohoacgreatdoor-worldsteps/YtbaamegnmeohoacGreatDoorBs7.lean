/-
  On the way to WStepsProof: JC JE JF.
-/
import Derived.Test.YtbaamegnmeohoacGreatDoorBs6
import Derived.Deep.RegionHeld3
import Derived.Deep.CutRange
import Derived.RegionTactic
import Derived.Laws.ResultCell
import Derived.BigRegion
namespace Go.Proofs.YtbaamegnmeohoacGreatDoor
open Go.RowKit
def bA (l : List UInt8) : ByteArray := ⟨l.toArray⟩
theorem bA_list (l : List UInt8) : (bA l).data.toList = l := by simp [bA]
theorem bA_size (l : List UInt8) : (bA l).size = l.length := by rw [size_list, bA_list]
def entV (n : Nat) (s : St) : Value := .agg #[.int .i64 s.ph, .int .i64 s.pr, .int .i64 s.at_, .int .u32 n]
theorem OwnB.later {w w' : World} {base B : Nat} {v : Value} {l : List UInt8} (h : OwnB w base v l) (hb : Below B w w') (hB : w.heap.size ≤ B) : OwnB w' base v l := by
  refine ⟨h.1, ?_⟩
  rcases h.2 with h2 | ⟨g, cap, cur, hv, hg, hh, r⟩
  · exact .inl h2
  · exact .inr ⟨g, cap, cur, hv, hg, (hb.block g (Nat.lt_of_lt_of_le ((Array.getElem?_eq_some_iff.1 hh).1) hB)).trans hh, r⟩
theorem OwnB.alloc {w : World} {base : Nat} {v : Value} {l : List UInt8} (h : OwnB w base v l) (o : Obj) : OwnB (w.alloc o) base v l := World.ownsRow.alloc h o
theorem OwnB.nil (w : World) (base : Nat) : OwnB w base (.slice none 0 0) [] := World.ownsRow_nil _ _ _ _
theorem OwnB.at_ {w : World} {base : Nat} {v : Value} {l : List UInt8} (h : OwnB w base v l) (h0 : 0 < l.length) : ∃ g cap, v = .slice (some ⟨g, 0, none⟩) l.length cap ∧ BytesAt w g 0 l := by
  rcases h.2 with ⟨_, h2⟩ | ⟨g, cap, cur, hv, hg, hh, hle, hm, hsz, ht⟩
  · omega
  · refine ⟨g, cap, hv, fun j hj => ?_⟩
    rw [Nat.zero_add, cell_of_row w g j cur _ _ hh]
    have e : (cur.toList.take (l.length * 1))[j]? = (cellsL l)[j]? := by rw [ht]
    rw [List.getElem?_take, if_pos (by omega)] at e
    rw [← Array.getElem?_toList, e]
    simp [cellsL, hj]
theorem OwnB.app {w W w' : World} {base : Nat} {v v' : Value} {l r : List UInt8} (hB : base ≤ w.heap.size) (h : OwnB w base v l) (hW : Below w.heap.size w W) (hown : w'.ownsRow base 5 1 v' (l.length + r.length) (cellsL l ++ cellsL r)) (hg : W.grownBy w' v.ownBlock) :
    OwnB w' base v' (l ++ r) ∧ Below base w w' :=
  ⟨by unfold OwnB; rw [cellsL_append, List.length_append]; exact hown, own_below (Below.refl base w) hB hW h hg⟩
theorem conv_own {w : World} {base : Nat} {v : Value} {l : List UInt8} (h : OwnB w base v l) (h0 : 0 < l.length) : (convert 96 9 v).run Tryz.prog w = .ok (.string (bA l)) w := by
  obtain ⟨g, cap, rfl, hc⟩ := h.at_ h0
  have := run_convert_bytes_back (P := Tryz.prog) w 96 9 5 ⟨g, 0, none⟩ cap l Tryz.underlying96 Tryz.underlying5 Tryz.underlying9 (fun j hj => by rw [addrAdd]; exact hc j hj)
  rw [this]; rfl
theorem sum_is (s : ByteArray) (c : Nat) (w : World) (hs : s.size ≤ 1000) (hc : crcL s.data.toList = c) :
    Calls Tryz.prog 204 #[.string s] w fun e w' => e = .returned (.int .u32 (c : Int)) ∧ w' = w := by
  rw [← hc]; exact sum_any s w hs
set_option maxHeartbeats 1000000 in
set_option maxRecDepth 100000 in
theorem slot_any (n : Nat) (s : St) (w : World) (hn : n < 4294967296) (hs : s.fits) :
    Calls Tryz.prog 227 #[entV n s] w fun e w' => e = .returned (.string (bA (bodyL n s ++ [165]))) ∧ Below w.heap.size w w' := by
  obtain ⟨i0, hi, hz0, hz1, hz2⟩ := info_parts Tryz.infoB1
  obtain ⟨h1, h2, h3⟩ := hs
  obtain ⟨t1, E1⟩ : ∃ t, Hid (wideL n 4 = t) := ⟨_, rfl⟩
  obtain ⟨t2, E2⟩ : ∃ t, Hid (t1 ++ [UInt8.ofNat s.ph] = t) := ⟨_, rfl⟩
  obtain ⟨t3, E3⟩ : ∃ t, Hid (t2 ++ wideL s.pr 4 = t) := ⟨_, rfl⟩
  obtain ⟨t4, E4⟩ : ∃ t, Hid (t3 ++ wideL s.at_ 4 = t) := ⟨_, rfl⟩
  obtain ⟨t5, E5⟩ : ∃ t, Hid (t4 ++ wideL (crcL t4) 4 = t) := ⟨_, rfl⟩
  have HT : Hid (bodyL n s ++ [165] = t5 ++ [165]) := by
    unfold Hid bodyL textL
    rw [wide1, Nat.mod_eq_of_lt h1, E1.out, E2.out, E3.out, E4.out, E5.out]
  have l1 : t1.length = 4 := by rw [← E1.out]; exact wideL_length 4 n
  have l2 : t2.length = 5 := by rw [← E2.out]; simp [l1]
  have l3 : t3.length = 9 := by rw [← E3.out]; simp [wideL_length, l2]
  have l4 : t4.length = 13 := by rw [← E4.out]; simp [wideL_length, l3]
  have l5 : t5.length = 17 := by rw [← E5.out]; simp [wideL_length, l4]
  have HP : Hid (((UInt8.ofNat s.ph).toNat : Int) = (s.ph : Int)) := by
    unfold Hid
    rw [UInt8.toNat_ofNat', Nat.mod_eq_of_lt (by omega)]
  unfold entV
  obtain ⟨W0, HW0⟩ : ∃ W0, Hid (W0 = w.alloc (.cells #[.int .i64 s.ph, .int .i64 s.pr, .int .i64 s.at_, .int .u32 n] 177)) := ⟨_, rfl⟩
  have sz0 : W0.heap.size = w.heap.size + 1 := by rw [HW0.out]; simp
  have HC : Hid (∀ wx, Below (w.heap.size + 1) W0 wx → w.heap.size + 1 ≤ wx.heap.size ∧ wx.cell? ⟨w.heap.size, 0, none⟩ = some (.int .i64 s.ph) ∧ wx.cell? ⟨w.heap.size, 1, none⟩ = some (.int .i64 s.pr) ∧ wx.cell? ⟨w.heap.size, 2, none⟩ = some (.int .i64 s.at_) ∧ Below w.heap.size w wx) := by
    intro wx hb
    have hr : W0.heap[w.heap.size]? = some (.cells #[.int .i64 s.ph, .int .i64 s.pr, .int .i64 s.at_, .int .u32 n] 177 (0, 0)) := by rw [HW0.out]; exact heap_alloc_new w _
    refine ⟨by have := hb.size; omega, ?_, ?_, ?_, ?_⟩
    · rw [hb.cell (by simp), cell_of_row _ _ _ _ _ _ hr]; rfl
    · rw [hb.cell (by simp), cell_of_row _ _ _ _ _ _ hr]; rfl
    · rw [hb.cell (by simp), cell_of_row _ _ _ _ _ _ hr]; rfl
    · rw [HW0.out] at hb
      exact ((Below.refl _ _).alloc (Nat.le_refl _) _).trans (hb.mono (by omega))
  rw [HT.out]
  go_enter Tryz.func227, Tryz.ntmps227
  go_wp2_with fail
  rw [← HW0.out]
  refine (add_any (w.heap.size + 1) n _ [] _ (OwnB.nil _ _) (by omega) (by simp) hn).mono ?_
  rintro e w1 ⟨v1, rfl, ho1, hb1⟩
  rw [List.nil_append, E1.out] at ho1
  obtain ⟨z1, c0, -, -, -⟩ := HC.out _ hb1
  have HO1 := hid ho1
  go_wp2_with (at_builtin; refine wpList_append_own _ rfl (.tmp 7) (.tmp 12) 96 rfl (w.heap.size + 1) 5 i0 (.int .u8 0) 1 1 Tryz.underlying96 hi hz0 hz1 hz2 rfl (by decide) _ t1.length (cellsL t1) rfl (by exact World.ownsRow.alloc HO1.out _) ⟨w1.heap.size, 0, none⟩ 1 1 [.int .u8 (s.ph : Int)] rfl rfl (lit_cells _ _ _) ?c2 ?c3 ?c4 ?c5 ?_)
  case c2 => intro u hu; simp at hu; subst hu; rfl
  case c3 => unfold maxLen; omega
  case c4 => omega
  case c5 => simp; omega
  intro v2 w2 hown2 hg2 _
  obtain ⟨ho2, hb2⟩ := OwnB.app (v' := v2) (r := [UInt8.ofNat s.ph]) z1 HO1.out ((Below.refl _ _).alloc (Nat.le_refl _) _) (by rw [l1, show cellsL [UInt8.ofNat s.ph] = [.int .u8 (s.ph : Int)] by rw [← HP.out]; rfl]; exact hown2) hg2
  rw [E2.out] at ho2
  have HB2 := hid (hb1.trans hb2)
  have HO2 := hid ho2
  clear hown2 hg2 ho1 hb1 c0 ho2 hb2
  obtain ⟨z2, -, c1, -, -⟩ := HC.out _ HB2.out
  go_wp2_with fail
  refine (add_any (w.heap.size + 1) s.pr _ t2 _ HO2.out z2 (by omega) h2).mono ?_
  rintro e w3 ⟨v3, rfl, ho3, hb3⟩
  rw [E3.out] at ho3
  have HO3 := hid ho3
  have HB3 := hid (HB2.out.trans hb3)
  clear ho3 hb3
  obtain ⟨z3, -, -, c2, -⟩ := HC.out _ HB3.out
  go_wp2_with fail
  refine (add_any (w.heap.size + 1) s.at_ _ t3 _ HO3.out z3 (by omega) h3).mono ?_
  rintro e w4 ⟨v4, rfl, ho4, hb4⟩
  rw [E4.out] at ho4
  have HO4 := hid ho4
  have HB4 := hid (HB3.out.trans hb4)
  clear ho4 hb4
  obtain ⟨z4, -, -, -, -⟩ := HC.out _ HB4.out
  have hcv4 := conv_own HO4.out (by omega)
  go_wp2_with fail
  refine (sum_is (bA t4) (crcL t4) _ (by rw [bA_size]; omega) (by rw [bA_list])).mono ?_
  rintro e wx ⟨rfl, hx⟩
  subst wx
  clear hcv4
  go_wp2_with fail
  refine (add_any (w.heap.size + 1) (crcL t4) _ t4 _ HO4.out z4 (by omega) (crcL_lt t4)).mono ?_
  rintro e w5 ⟨v5, rfl, ho5, hb5⟩
  rw [E5.out] at ho5
  have HO5 := hid ho5
  have HB5 := hid (HB4.out.trans hb5)
  clear ho5 hb5
  obtain ⟨z5, -, -, -, -⟩ := HC.out _ HB5.out
  go_wp2_with (at_builtin; refine wpList_append_own _ rfl (.tmp 31) (.tmp 32) 96 rfl (w.heap.size + 1) 5 i0 (.int .u8 0) 1 1 Tryz.underlying96 hi hz0 hz1 hz2 rfl (by decide) _ t5.length (cellsL t5) rfl (by exact World.ownsRow.alloc HO5.out _) ⟨w5.heap.size, 0, none⟩ 1 1 [.int .u8 165] rfl rfl (lit_cells _ _ _) ?c2 ?c3 ?c4 ?c5 ?_)
  case c2 => intro u hu; simp at hu; subst hu; rfl
  case c3 => unfold maxLen; omega
  case c4 => omega
  case c5 => simp; omega
  intro v6 w6 hown6 hg6 _
  obtain ⟨ho6, hb6⟩ := OwnB.app (v' := v6) (r := [165]) z5 HO5.out ((Below.refl _ _).alloc (Nat.le_refl _) _) (by rw [l5]; exact hown6) hg6
  have hcv := conv_own ho6 (by simp)
  have HB6 := hid (HC.out _ (HB5.out.trans hb6)).2.2.2.2
  clear hown6 hg6 ho6 hb6
  go_wp2
  go_ret
  exact ⟨rfl, HB6.out⟩
theorem place_any (d n : Nat) (w : World) (hd : d ≤ 100) (hn : n < 4294967296) :
    Calls Tryz.prog 143 #[.int .i64 d, .int .u32 n] w fun e w' => e = .returned (.int .i64 ((18 * (2 * d + n % 2) : Nat) : Int)) ∧ w' = w := by
  go_enter Tryz.func143, Tryz.ntmps143
  go_wp2
  go_ret
  exact ⟨ret_int (by omega), rfl⟩
theorem known_any (d : Int) (w : World) :
    Calls Tryz.prog 186 #[.int .i64 d] w fun e w' => e = .returned (.bool (decide (0 ≤ d ∧ d < 6))) ∧ w' = w := by
  by_cases h : 0 ≤ d
  · go_enter Tryz.func186, Tryz.ntmps186
    go_wp2
    go_ret
    exact ⟨by simp [h], rfl⟩
  · go_enter Tryz.func186, Tryz.ntmps186
    go_wp2
    go_ret
    exact ⟨by simp; omega, rfl⟩
theorem attempt_any (d : Int) (w : World) :
    Calls Tryz.prog 254 #[.int .i64 d] w fun e w' => e = .returned (.bool (decide (0 ≤ d ∧ d ≤ 1048576))) ∧ w' = w := by
  by_cases h : 0 ≤ d
  · go_enter Tryz.func254, Tryz.ntmps254
    go_wp2
    go_ret
    exact ⟨by simp [h], rfl⟩
  · go_enter Tryz.func254, Tryz.ntmps254
    go_wp2
    go_ret
    exact ⟨by simp; omega, rfl⟩
def fitsB (ph pr at_ : Int) : Bool := decide (0 ≤ ph ∧ ph ≤ 255 ∧ 0 ≤ pr ∧ pr ≤ 1048576 ∧ 0 ≤ at_ ∧ at_ ≤ 1048576)
theorem fits_and (ph pr at_ : Int) : (decide (0 ≤ ph) && decide (ph ≤ 255) && decide (0 ≤ pr ∧ pr ≤ 1048576) && decide (0 ≤ at_ ∧ at_ ≤ 1048576)) = fitsB ph pr at_ := by
  unfold fitsB
  rw [← Bool.decide_and, ← Bool.decide_and, ← Bool.decide_and]
  exact decide_eq_decide.2 ⟨fun ⟨⟨⟨a, b⟩, c, d⟩, e, f⟩ => ⟨a, b, c, d, e, f⟩, fun ⟨a, b, c, d, e, f⟩ => ⟨⟨⟨a, b⟩, c, d⟩, e, f⟩⟩
theorem fits_any (ph pr at_ : Int) (w : World) :
    Calls Tryz.prog 249 #[.agg #[.int .i64 ph, .int .i64 pr, .int .i64 at_]] w fun e w' => e = .returned (.bool (fitsB ph pr at_)) ∧ Below w.heap.size w w' := by
  have HB := hid ((Below.refl w.heap.size w).alloc (Nat.le_refl _) (.cells #[.int .i64 ph, .int .i64 pr, .int .i64 at_] 113))
  obtain ⟨r, HR⟩ : ∃ r, Hid (fitsB ph pr at_ = r) := ⟨_, rfl⟩
  rw [HR.out]
  obtain ⟨x1, X1⟩ : ∃ x, Hid (decide (0 ≤ pr ∧ pr ≤ 1048576) = x) := ⟨_, rfl⟩
  obtain ⟨x2, X2⟩ : ∃ x, Hid (decide (0 ≤ at_ ∧ at_ ≤ 1048576) = x) := ⟨_, rfl⟩
  have R0 := fits_and ph pr at_
  rw [X1.out, X2.out, HR.out] at R0
  have R := hid R0
  clear R0
  clear HR
  by_cases h1 : 0 ≤ ph
  · by_cases h2 : ph ≤ 255
    · cases x1 with
      | true =>
        go_enter Tryz.func249, Tryz.ntmps249
        go_wp2_with (first | (go_at_call 254; with_reducible refine (attempt_any pr _).mono ?_; rw [X1.out]; rintro e wx ⟨rfl, hx⟩; subst wx) | (go_at_call 254; with_reducible refine (attempt_any at_ _).mono ?_; rw [X2.out]; rintro e wx ⟨rfl, hx⟩; subst wx))
        go_ret
        exact ⟨by rw [← R.out]; simp [h1, h2], HB.out⟩
      | false =>
        go_enter Tryz.func249, Tryz.ntmps249
        go_wp2_with (first | (go_at_call 254; with_reducible refine (attempt_any pr _).mono ?_; rw [X1.out]; rintro e wx ⟨rfl, hx⟩; subst wx))
        go_ret
        exact ⟨by rw [← R.out]; simp, HB.out⟩
    · have H2 := hid (decide_eq_false h2)
      go_enter Tryz.func249, Tryz.ntmps249
      go_wp2_with fail
      go_ret
      exact ⟨by rw [← R.out, H2.out, Bool.and_false]; rfl, HB.out⟩
  · have H1 := hid (decide_eq_false h1)
    go_enter Tryz.func249, Tryz.ntmps249
    go_wp2_with fail
    go_ret
    exact ⟨by rw [← R.out, H1.out]; rfl, HB.out⟩
theorem slice_low (s : ByteArray) (a : Nat) (z : Int) (hz : z = a) (h : a ≤ s.size) (w : World) : (Instr.slice 9 (.string s) (some (.int .i64 z)) none none).run Tryz.prog w = .ok (.string (s.extract a s.size)) w := by
  subst hz
  rw [run_slice_string_l w 9 s Tryz.underlying9 .i64 a (by omega) (by omega)]
  rfl
theorem slice_mid (s : ByteArray) (a b : Nat) (y z : Int) (hy : y = a) (hz : z = b) (h : a ≤ b) (hb : b ≤ s.size) (w : World) : (Instr.slice 9 (.string s) (some (.int .i64 y)) (some (.int .i64 z)) none).run Tryz.prog w = .ok (.string (s.extract a b)) w := by
  subst hy hz
  rw [run_slice_string w 9 s .i64 .i64 a b Tryz.underlying9 (by omega) (by omega) (by omega)]
  rfl
theorem slice_high (s : ByteArray) (b : Nat) (z : Int) (hz : z = b) (hb : b ≤ s.size) (w : World) : (Instr.slice 9 (.string s) none (some (.int .i64 z)) none).run Tryz.prog w = .ok (.string (s.extract 0 b)) w := by
  subst hz
  rw [run_slice_string_h w 9 s Tryz.underlying9 .i64 b (by omega) (by omega)]
  rfl
theorem four_is (s : ByteArray) (n : Nat) (w : World) (h : 4 ≤ s.size) (hn : numL (s.data.toList.take 4) = n) :
    Calls Tryz.prog 226 #[.string s] w fun e w' => e = .returned (.int .u32 (n : Int)) ∧ ∃ m, w' = w.drewN m := by
  rw [← hn]; exact four_any s w h
theorem results_row2 {P : Program} {fn : Func} {p u : Tmp} {ty : TypeId} (h : fn.results = #[.cell p ty, .tmp u]) (tmps : Array Value) (w : World) (g : Nat) (t : TypeId) (cs : Array Value) (fr : Nat × Nat) (d : TypeDesc)
    (hp : tmps.getD p undef = .pointer (some ⟨g, 0, none⟩)) (hg : w.heap[g]? = some (.cells cs t fr))
    (hu : P.underlying ty = some d) (hd : (match d with | .struct _ | .array _ _ => true | _ => false) = true) (hi : (P.info? ty).map (·.size) = some cs.size) :
    (results fn tmps).run P w = .ok (.tuple #[.agg cs, tmps.getD u undef]) w := by
  rw [results_cell_tmp h, hp]
  simp [asAddr, run_loadVar_row w g t ty cs fr d hg hu hd hi]
theorem set4 {w : World} {g : Nat} {a b c d : Value} {t : TypeId} (h : w.heap[g]? = some (.cells #[a, b, c, d] t (0, 0))) (x0 x1 x2 x3 : Value) :
    ((((w.setCell ⟨g, 0, none⟩ x0).setCell ⟨g, 1, none⟩ x1).setCell ⟨g, 2, none⟩ x2).setCell ⟨g, 3, none⟩ x3).heap[g]? = some (.cells #[x0, x1, x2, x3] t (0, 0)) := by
  have h0 := heap_setCell_same w g 0 _ _ x0 h
  have h1 := heap_setCell_same _ g 1 _ _ x1 h0
  have h2 := heap_setCell_same _ g 2 _ _ x2 h1
  exact heap_setCell_same _ g 3 _ _ x3 h2
theorem heap_drewJ (w : World) (n : Nat) : (w.drewN n).heap = w.heap := by
  induction n with
  | zero => rfl
  | succ n ih => first | exact ih | (unfold World.drewN; exact ih) | (simp [World.drewN]; done)
def Rows2 (w wx : World) (z e : Obj) : Prop := wx.heap[w.heap.size]? = some z ∧ wx.heap[w.heap.size + 1]? = some e ∧ Below w.heap.size w wx
theorem rows2_a (w : World) (z e : Obj) (m : Nat) : Rows2 w (((w.alloc z).drewN m).alloc e) z e := by
  have h1 : ((w.alloc z).drewN m).heap.size = w.heap.size + 1 := by rw [heap_drewJ]; simp
  refine ⟨?_, ?_, ?_⟩
  · rw [Below.heap_alloc _ _ _ (by omega), heap_drewJ]; exact heap_alloc_new w z
  · rw [← h1]; exact heap_alloc_new _ _
  · exact (below_drewN ((Below.refl _ _).alloc (Nat.le_refl _) z) m).alloc (by omega) e
theorem rows2_drew {w wx : World} {z e : Obj} (h : Rows2 w wx z e) (m : Nat) : Rows2 w (wx.drewN m) z e :=
  ⟨by rw [heap_drewJ]; exact h.1, by rw [heap_drewJ]; exact h.2.1, below_drewN h.2.2 m⟩
theorem rows2_set {w wx : World} {z : Obj} {a b c d : Value} {t : TypeId} (h : Rows2 w wx z (.cells #[a, b, c, d] t (0, 0))) (x0 x1 x2 x3 : Value) :
    Rows2 w ((((wx.setCell ⟨w.heap.size + 1, 0, none⟩ x0).setCell ⟨w.heap.size + 1, 1, none⟩ x1).setCell ⟨w.heap.size + 1, 2, none⟩ x2).setCell ⟨w.heap.size + 1, 3, none⟩ x3) z (.cells #[x0, x1, x2, x3] t (0, 0)) := by
  refine ⟨?_, set4 h.2.1 x0 x1 x2 x3, (((h.2.2.setCell (Nat.le_succ _) _).setCell (Nat.le_succ _) _).setCell (Nat.le_succ _) _).setCell (Nat.le_succ _) _⟩
  rw [heap_setCell_other _ _ _ _ (by simp), heap_setCell_other _ _ _ _ (by simp), heap_setCell_other _ _ _ _ (by simp), heap_setCell_other _ _ _ _ (by simp)]
  exact h.1
theorem rows2_b (w : World) (z : Obj) (a b c d : Value) (t : TypeId) (m m' : Nat) (x0 x1 x2 x3 : Value) :
    Rows2 w (((((((w.alloc z).drewN m).alloc (.cells #[a, b, c, d] t (0, 0))).drewN m').setCell ⟨w.heap.size + 1, 0, none⟩ x0).setCell ⟨w.heap.size + 1, 1, none⟩ x1).setCell ⟨w.heap.size + 1, 2, none⟩ x2 |>.setCell ⟨w.heap.size + 1, 3, none⟩ x3) z (.cells #[x0, x1, x2, x3] t (0, 0)) :=
  rows2_set (rows2_drew (rows2_a w z _ m) m') x0 x1 x2 x3
theorem rows2_c (w : World) (z : Obj) (a b c d : Value) (t : TypeId) (m' : Nat) (x0 x1 x2 x3 : Value) :
    Rows2 w ((((((w.alloc z).alloc (.cells #[a, b, c, d] t (0, 0))).drewN m').setCell ⟨w.heap.size + 1, 0, none⟩ x0).setCell ⟨w.heap.size + 1, 1, none⟩ x1).setCell ⟨w.heap.size + 1, 2, none⟩ x2 |>.setCell ⟨w.heap.size + 1, 3, none⟩ x3) z (.cells #[x0, x1, x2, x3] t (0, 0)) :=
  rows2_set (rows2_drew (rows2_a w z _ 0) m') x0 x1 x2 x3
theorem sizeEnt : (Tryz.prog.info? 177).map (·.size) = some 4 := by kernel_rfl
def entCells (n : Nat) (s : St) : Array Value := #[.int .i64 s.ph, .int .i64 s.pr, .int .i64 s.at_, .int .u32 n]
theorem numL_lt4 (l : List UInt8) : numL (l.take 4) < 4294967296 := readN_lt l
theorem readS_fits (t : List UInt8) : (readS t).fits := by
  have h1 := numL_lt ((t.drop 4).take 1)
  have h1' : 256 ^ ((t.drop 4).take 1).length ≤ 256 ^ 1 := Nat.pow_le_pow_right (by decide) (by simp; omega)
  refine ⟨by show numL _ < _; omega, numL_lt4 _, numL_lt4 _⟩
theorem slot_ag (n ph p a : Nat) (w : World) (hn : n < 4294967296) (h1 : ph < 256) (h2 : p < 4294967296) (h3 : a < 4294967296) :
    Calls Tryz.prog 227 #[.agg #[.int .i64 (ph : Int), .int .i64 (p : Int), .int .i64 (a : Int), .int .u32 (n : Int)]] w fun e w' => e = .returned (.string (bA (bodyL n ⟨ph, p, a⟩ ++ [165]))) ∧ Below w.heap.size w w' :=
  slot_any n ⟨ph, p, a⟩ w hn ⟨h1, h2, h3⟩
set_option maxHeartbeats 4000000 in
set_option maxRecDepth 100000 in
theorem held_any (t : ByteArray) (k : Nat) (w : World) (ht : t.size = 18) :
    Calls Tryz.prog 183 #[.string t, .int .u32 k] w fun e w' => e = .returned (.tuple #[entV (readN t.data.toList) (readS t.data.toList), .bool (decide (1 ≤ readN t.data.toList ∧ readN t.data.toList % 2 = k ∧ bodyL (readN t.data.toList) (readS t.data.toList) ++ [165] = t.data.toList))]) ∧ Below w.heap.size w w' := by
  have x4 := idx_str t 4 4 (by omega) rfl
  have s5 := slice_low t 5 5 rfl (by omega)
  have s9 := slice_low t 9 9 rfl (by omega)
  have b4 : (t[4]'(by omega)).toNat < 256 := UInt8.toNat_lt (t[4]'(by omega))
  obtain ⟨n, HN⟩ : ∃ n, Hid (numL (t.data.toList.take 4) = n) := ⟨_, rfl⟩
  obtain ⟨p, HP⟩ : ∃ n, Hid (numL ((t.extract 5 t.size).data.toList.take 4) = n) := ⟨_, rfl⟩
  obtain ⟨a, HA⟩ : ∃ n, Hid (numL ((t.extract 9 t.size).data.toList.take 4) = n) := ⟨_, rfl⟩
  have hn : n < 4294967296 := by rw [← HN.out]; exact numL_lt4 _
  have hp : p < 4294967296 := by rw [← HP.out]; exact numL_lt4 _
  have ha : a < 4294967296 := by rw [← HA.out]; exact numL_lt4 _
  have Z5 : Hid (4 ≤ (t.extract 5 t.size).size) := by unfold Hid; rw [size_list, ext_list]; simp; omega
  have Z9 : Hid (4 ≤ (t.extract 9 t.size).size) := by unfold Hid; rw [size_list, ext_list]; simp; omega
  have Z0 : Hid (4 ≤ t.size) := by unfold Hid; omega
  have HS : Hid (readS t.data.toList = ⟨(t[4]'(by omega)).toNat, p, a⟩) := by
    unfold Hid readS
    have e5 : (t.extract 5 t.size).data.toList = t.data.toList.drop 5 := by rw [ext_list]; apply List.take_of_length_le; simp
    have e9 : (t.extract 9 t.size).data.toList = t.data.toList.drop 9 := by rw [ext_list]; apply List.take_of_length_le; simp
    rw [← HP.out, ← HA.out, e5, e9]
    congr 1
    rw [getB, List.drop_eq_getElem_cons (by rw [size_list] at ht; omega)]
    simp [numL]
  have HR : Hid (readN t.data.toList = n) := HN
  generalize t.extract 5 t.size = u5 at s5 HP Z5
  generalize t.extract 9 t.size = u9 at s9 HA Z9
  generalize (t[4]'(by omega)).toNat = ph at x4 b4 HS
  rw [HR.out, HS.out]
  unfold entV
  obtain ⟨q, HQ⟩ : ∃ q : Bool, Hid (q = decide (1 ≤ n ∧ n % 2 = k ∧ bodyL n ⟨ph, p, a⟩ ++ [165] = t.data.toList)) := ⟨_, hid (Eq.refl _)⟩
  rw [← HQ.out]
  have hw1 : IntKind.i64.wrap (ph : Int) = ph := by rw [IntKind.wrap_i64]; omega
  have hw2 : IntKind.i64.wrap (p : Int) = p := by rw [IntKind.wrap_i64]; omega
  have hw3 : IntKind.i64.wrap (a : Int) = a := by rw [IntKind.wrap_i64]; omega
  go_enter Tryz.func183, Tryz.ntmps183
  go_wp2_with fail
  go_cut [6] from 7 (fun s6 wx => s6 = .pointer (some ⟨w.heap.size + 1, 0, none⟩) ∧ Rows2 w wx (.cells #[.int .i64 0, .int .i64 0, .int .i64 0, .int .u32 0] 177 (0, 0)) (.cells #[.int .i64 (ph : Int), .int .i64 (p : Int), .int .i64 (a : Int), .int .u32 (n : Int)] 177 (0, 0)))
  case first =>
    go_region_held3 (fun _ => True) (trivial) (first | (go_at_call 226; (with_reducible refine (four_is u5 p _ Z5.out HP.out).mono ?_); rintro e wx ⟨rfl, m, rfl⟩) | (go_at_call 226; (with_reducible refine (four_is u9 a _ Z9.out HA.out).mono ?_); rintro e wx ⟨rfl, m, rfl⟩) | (go_at_call 226; (with_reducible refine (four_is t n _ Z0.out HN.out).mono ?_); rintro e wx ⟨rfl, m, rfl⟩))
    all_goals go_step
    all_goals go_step
    all_goals go_meet
    all_goals refine ⟨rfl, ?_⟩
    all_goals first | (with_reducible exact rows2_a _ _ _ _) | (with_reducible exact rows2_b _ _ _ _ _ _ _ _ _ _ _ _ _) | (with_reducible exact rows2_c _ _ _ _ _ _ _ _ _ _ _ _)
  case rest =>
    obtain ⟨rfl, r0, r1, hb⟩ := hcut
    have HB := hid hb
    have R0 := hid r0
    have R1 := hid r1
    clear hb r0 r1
    have hsz : w.heap.size + 1 < wc.heap.size := row_ltJ R1.out
    have hs0 : w.heap.size < wc.heap.size := by omega
    have E0 : wc.cell? ⟨w.heap.size + 1, 0, none⟩ = some (.int .i64 ph) := by rw [cell_of_row _ _ _ _ _ _ R1.out]; rfl
    have E1 : wc.cell? ⟨w.heap.size + 1, 1, none⟩ = some (.int .i64 p) := by rw [cell_of_row _ _ _ _ _ _ R1.out]; rfl
    have E2 : wc.cell? ⟨w.heap.size + 1, 2, none⟩ = some (.int .i64 a) := by rw [cell_of_row _ _ _ _ _ _ R1.out]; rfl
    have E3 : wc.cell? ⟨w.heap.size + 1, 3, none⟩ = some (.int .u32 n) := by rw [cell_of_row _ _ _ _ _ _ R1.out]; rfl
    have D0 : wc.cell? ⟨w.heap.size, 0, none⟩ = some (.int .i64 0) := by rw [cell_of_row _ _ _ _ _ _ R0.out]; rfl
    have D1 : wc.cell? ⟨w.heap.size, 1, none⟩ = some (.int .i64 0) := by rw [cell_of_row _ _ _ _ _ _ R0.out]; rfl
    have D2 : wc.cell? ⟨w.heap.size, 2, none⟩ = some (.int .i64 0) := by rw [cell_of_row _ _ _ _ _ _ R0.out]; rfl
    have D3 : wc.cell? ⟨w.heap.size, 3, none⟩ = some (.int .u32 0) := by rw [cell_of_row _ _ _ _ _ _ R0.out]; rfl
    have F0 := frozen_of_row wc w.heap.size 0 _ _ R0.out
    have F1 := frozen_of_row wc w.heap.size 1 _ _ R0.out
    have F2 := frozen_of_row wc w.heap.size 2 _ _ R0.out
    have F3 := frozen_of_row wc w.heap.size 3 _ _ R0.out
    by_cases g0 : 0 < n
    · have tm : (n : Int).tmod 2 = ((n % 2 : Nat) : Int) := by rw [Int.tmod_eq_emod_of_nonneg (by omega)]; omega
      rcases g1 : ((n : Int).tmod 2 == (k : Int)) with _ | _
      · have g4 : ¬ n % 2 = k := by rw [tm] at g1; simp at g1; omega
        have g5 : (n % 2 == k) = false := by simpa using g4
        have g6 : decide (n % 2 = k) = false := by simpa using g4
        have g7 : ((n : Int) % 2 == (k : Int)) = false := by simp; omega
        have g8 : decide ((n : Int) % 2 = (k : Int)) = false := by simp; omega
        clear tm
        have HF : Hid (q = false) := by rw [HQ.out]; exact decide_eq_false (fun h => g4 h.2.1)
        go_wp2_with fail
        go_big_region
        go_wp2
        refine bodyPost_ret (results_row2 rfl _ _ w.heap.size 177 _ (0, 0) _ rfl (set4 R0.out _ _ _ _) Tryz.underlying177 rfl sizeEnt) rfl ?_
        exact ⟨by rw [HF.out]; rfl, ((((HB.out.setCell (Nat.le_refl _) _).setCell (Nat.le_refl _) _).setCell (Nat.le_refl _) _).setCell (Nat.le_refl _) _).drew⟩
      · have g4 : n % 2 = k := by rw [tm] at g1; simp at g1; omega
        have g7 : ((n : Int) % 2 == (k : Int)) = true := by simp; omega
        obtain ⟨eqb, HEQ⟩ : ∃ eqb : Bool, Hid (((bA (bodyL n ⟨ph, p, a⟩ ++ [165])).toList == t.toList) = eqb) := ⟨_, hid (Eq.refl _)⟩
        have HF : Hid (q = eqb) := by
          unfold Hid
          rw [HQ.out, ← HEQ.out, ByteArray.toList_eq, ByteArray.toList_eq, bA_list]
          by_cases hxy : bodyL n ⟨ph, p, a⟩ ++ [165] = t.data.toList
          · rw [decide_eq_true ⟨g0, g4, hxy⟩, hxy]; simp
          · rw [decide_eq_false (fun h => hxy h.2.2)]; exact (beq_eq_false_iff_ne.2 hxy).symm
        have heq := HEQ.out
        clear tm
        go_wp2_with fail
        go_region_held3 (fun w' => w'.cell? ⟨w.heap.size + 1, 0, none⟩ = some (.int .i64 ph) ∧ w'.cell? ⟨w.heap.size + 1, 1, none⟩ = some (.int .i64 p) ∧ w'.cell? ⟨w.heap.size + 1, 2, none⟩ = some (.int .i64 a) ∧ w'.cell? ⟨w.heap.size + 1, 3, none⟩ = some (.int .u32 n)) (go_keep) (first | (go_at_call 227; (with_reducible refine (slot_ag n ph p a _ hn b4 hp ha).mono ?_); rintro e w2 ⟨rfl, hb2⟩; have y0 := (hb2.cell (p := ⟨w.heap.size + 1, 0, none⟩) hsz).trans E0; have y1 := (hb2.cell (p := ⟨w.heap.size + 1, 1, none⟩) hsz).trans E1; have y2 := (hb2.cell (p := ⟨w.heap.size + 1, 2, none⟩) hsz).trans E2; have y3 := (hb2.cell (p := ⟨w.heap.size + 1, 3, none⟩) hsz).trans E3; have z0 := (hb2.cell (p := ⟨w.heap.size, 0, none⟩) hs0).trans D0; have z1 := (hb2.cell (p := ⟨w.heap.size, 1, none⟩) hs0).trans D1; have z2 := (hb2.cell (p := ⟨w.heap.size, 2, none⟩) hs0).trans D2; have z3 := (hb2.cell (p := ⟨w.heap.size, 3, none⟩) hs0).trans D3; have f0 := (hb2.frozen (p := ⟨w.heap.size, 0, none⟩) hs0).trans F0; have f1 := (hb2.frozen (p := ⟨w.heap.size, 1, none⟩) hs0).trans F1; have f2 := (hb2.frozen (p := ⟨w.heap.size, 2, none⟩) hs0).trans F2; have f3 := (hb2.frozen (p := ⟨w.heap.size, 3, none⟩) hs0).trans F3; have HB2 := hid hb2; clear hb2))
        have R2 := hid ((HB2.out.block w.heap.size hs0).trans R0.out)
        have HB3 := hid (HB.out.drew.trans ((HB2.out).mono (show w.heap.size ≤ wc.heap.size by omega)))
        go_wp2
        refine bodyPost_ret (results_row2 rfl _ _ w.heap.size 177 _ (0, 0) _ rfl (set4 R2.out _ _ _ _) Tryz.underlying177 rfl sizeEnt) rfl ?_
        exact ⟨by rw [HF.out]; rfl, ((((HB3.out.setCell (Nat.le_refl _) _).setCell (Nat.le_refl _) _).setCell (Nat.le_refl _) _).setCell (Nat.le_refl _) _)⟩
    · have HF : Hid (q = false) := by rw [HQ.out]; exact decide_eq_false (fun h => g0 h.1)
      go_wp2_with fail
      go_big_region
      go_wp2
      refine bodyPost_ret (results_row2 rfl _ _ w.heap.size 177 _ (0, 0) _ rfl (set4 R0.out _ _ _ _) Tryz.underlying177 rfl sizeEnt) rfl ?_
      exact ⟨by rw [HF.out]; rfl, ((((HB.out.setCell (Nat.le_refl _) _).setCell (Nat.le_refl _) _).setCell (Nat.le_refl _) _).setCell (Nat.le_refl _) _).drew⟩
end Go.Proofs.YtbaamegnmeohoacGreatDoor
