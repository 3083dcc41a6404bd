/-
  WALKS of package journal: place, known, attempt, fits, held.
  THE WALK of journal.held: what a slot tells, and whether it is held.
  WALKS of the document's answer (threefoldref1): Held, its two loops.
-/
import Derived.Test.YtnnknplmjiahhabDoorBa2
import Derived.Deep.RegionHeld3
import Derived.Deep.CutRange
import Derived.RegionTactic
import Derived.Laws.ResultCell
import Derived.BigRegion
namespace Go.Proofs.YtnnknplmjiahhabDoor
open Go.RowKit

theorem place_any (d n : Nat) (w : World) (hd : d ≤ 100) (hn : n < 4294967296) :
    Calls Tryd.prog 36 #[.int .i64 d, .int .u32 n] w fun e w' => e = .returned (.int .i64 ((18 * (2 * d + n % 2) : Nat) : Int)) ∧ w' = w := by
  go_enter Tryd.func36, Tryd.ntmps36
  go_wp2
  go_ret
  exact ⟨ret_int (by omega), rfl⟩
theorem known_any (d : Int) (w : World) :
    Calls Tryd.prog 38 #[.int .i64 d] w fun e w' => e = .returned (.bool (decide (0 ≤ d ∧ d < 6))) ∧ w' = w := by
  by_cases h : 0 ≤ d
  · go_enter Tryd.func38, Tryd.ntmps38
    go_wp2
    go_ret
    exact ⟨by simp [h], rfl⟩
  · go_enter Tryd.func38, Tryd.ntmps38
    go_wp2
    go_ret
    exact ⟨by simp; omega, rfl⟩
theorem attempt_any (d : Int) (w : World) :
    Calls Tryd.prog 58 #[.int .i64 d] w fun e w' => e = .returned (.bool (decide (0 ≤ d ∧ d ≤ 1048576))) ∧ w' = w := by
  by_cases h : 0 ≤ d
  · go_enter Tryd.func58, Tryd.ntmps58
    go_wp2
    go_ret
    exact ⟨by simp [h], rfl⟩
  · go_enter Tryd.func58, Tryd.ntmps58
    go_wp2
    go_ret
    exact ⟨by simp; omega, rfl⟩
/-- Does a state fit? -/
def fitsB (ph pr at_ : Int) : Bool := decide (0 ≤ ph ∧ ph ≤ 255 ∧ 0 ≤ pr ∧ pr ≤ 1048576 ∧ 0 ≤ at_ ∧ at_ ≤ 1048576)
theorem fits_and (ph pr at_ : Int) : (decide (0 ≤ ph) && decide (ph ≤ 255) && decide (0 ≤ pr ∧ pr ≤ 1048576) && decide (0 ≤ at_ ∧ at_ ≤ 1048576)) = fitsB ph pr at_ := by
  unfold fitsB
  rw [← Bool.decide_and, ← Bool.decide_and, ← Bool.decide_and]
  exact decide_eq_decide.2 ⟨fun ⟨⟨⟨a, b⟩, c, d⟩, e, f⟩ => ⟨a, b, c, d, e, f⟩, fun ⟨a, b, c, d, e, f⟩ => ⟨⟨⟨a, b⟩, c, d⟩, e, f⟩⟩
theorem fits_any (ph pr at_ : Int) (w : World) :
    Calls Tryd.prog 45 #[.agg #[.int .i64 ph, .int .i64 pr, .int .i64 at_]] w fun e w' => e = .returned (.bool (fitsB ph pr at_)) ∧ Below w.heap.size w w' := by
  have HB := hid ((Below.refl w.heap.size w).alloc (Nat.le_refl _) (.cells #[.int .i64 ph, .int .i64 pr, .int .i64 at_] 34))
  obtain ⟨r, HR⟩ : ∃ r, Hid (fitsB ph pr at_ = r) := ⟨_, rfl⟩
  rw [HR.out]
  obtain ⟨x1, X1⟩ : ∃ x, Hid (decide (0 ≤ pr ∧ pr ≤ 1048576) = x) := ⟨_, rfl⟩
  obtain ⟨x2, X2⟩ : ∃ x, Hid (decide (0 ≤ at_ ∧ at_ ≤ 1048576) = x) := ⟨_, rfl⟩
  have R0 := fits_and ph pr at_
  rw [X1.out, X2.out, HR.out] at R0
  have R := hid R0
  clear R0
  clear HR
  by_cases h1 : 0 ≤ ph
  · by_cases h2 : ph ≤ 255
    · cases x1 with
      | true =>
        go_enter Tryd.func45, Tryd.ntmps45
        go_wp2_with (first | (go_at_call 58; with_reducible refine (attempt_any pr _).mono ?_; rw [X1.out]; rintro e wx ⟨rfl, hx⟩; subst wx) | (go_at_call 58; with_reducible refine (attempt_any at_ _).mono ?_; rw [X2.out]; rintro e wx ⟨rfl, hx⟩; subst wx))
        go_ret
        exact ⟨by rw [← R.out]; simp [h1, h2], HB.out⟩
      | false =>
        go_enter Tryd.func45, Tryd.ntmps45
        go_wp2_with (first | (go_at_call 58; with_reducible refine (attempt_any pr _).mono ?_; rw [X1.out]; rintro e wx ⟨rfl, hx⟩; subst wx))
        go_ret
        exact ⟨by rw [← R.out]; simp, HB.out⟩
    · have H2 := hid (decide_eq_false h2)
      go_enter Tryd.func45, Tryd.ntmps45
      go_wp2_with fail
      go_ret
      exact ⟨by rw [← R.out, H2.out, Bool.and_false]; rfl, HB.out⟩
  · have H1 := hid (decide_eq_false h1)
    go_enter Tryd.func45, Tryd.ntmps45
    go_wp2_with fail
    go_ret
    exact ⟨by rw [← R.out, H1.out]; rfl, HB.out⟩

theorem slice_low (s : ByteArray) (a : Nat) (z : Int) (hz : z = a) (h : a ≤ s.size) (w : World) : (Instr.slice 9 (.string s) (some (.int .i64 z)) none none).run Tryd.prog w = .ok (.string (s.extract a s.size)) w := by
  subst hz
  rw [run_slice_string_l w 9 s Tryd.underlying9 .i64 a (by omega) (by omega)]
  rfl
theorem slice_mid (s : ByteArray) (a b : Nat) (y z : Int) (hy : y = a) (hz : z = b) (h : a ≤ b) (hb : b ≤ s.size) (w : World) : (Instr.slice 9 (.string s) (some (.int .i64 y)) (some (.int .i64 z)) none).run Tryd.prog w = .ok (.string (s.extract a b)) w := by
  subst hy hz
  rw [run_slice_string w 9 s .i64 .i64 a b Tryd.underlying9 (by omega) (by omega) (by omega)]
  rfl
theorem slice_high (s : ByteArray) (b : Nat) (z : Int) (hz : z = b) (hb : b ≤ s.size) (w : World) : (Instr.slice 9 (.string s) none (some (.int .i64 z)) none).run Tryd.prog w = .ok (.string (s.extract 0 b)) w := by
  subst hz
  rw [run_slice_string_h w 9 s Tryd.underlying9 .i64 b (by omega) (by omega)]
  rfl
theorem four_is (s : ByteArray) (n : Nat) (w : World) (h : 4 ≤ s.size) (hn : numL (s.data.toList.take 4) = n) :
    Calls Tryd.prog 71 #[.string s] w fun e w' => e = .returned (.int .u32 (n : Int)) ∧ ∃ m, w' = w.drewN m := by
  rw [← hn]; exact four_any s w h
end Go.Proofs.YtnnknplmjiahhabDoor
namespace Go.Proofs.YtnnknplmjiahhabDoor
open Go.RowKit

theorem results_row2 {P : Program} {fn : Func} {p u : Tmp} {ty : TypeId} (h : fn.results = #[.cell p ty, .tmp u]) (tmps : Array Value) (w : World) (g : Nat) (t : TypeId) (cs : Array Value) (fr : Nat × Nat) (d : TypeDesc)
    (hp : tmps.getD p undef = .pointer (some ⟨g, 0, none⟩)) (hg : w.heap[g]? = some (.cells cs t fr))
    (hu : P.underlying ty = some d) (hd : (match d with | .struct _ | .array _ _ => true | _ => false) = true) (hi : (P.info? ty).map (·.size) = some cs.size) :
    (results fn tmps).run P w = .ok (.tuple #[.agg cs, tmps.getD u undef]) w := by
  rw [results_cell_tmp h, hp]
  simp [asAddr, run_loadVar_row w g t ty cs fr d hg hu hd hi]
theorem set4 {w : World} {g : Nat} {a b c d : Value} {t : TypeId} (h : w.heap[g]? = some (.cells #[a, b, c, d] t (0, 0))) (x0 x1 x2 x3 : Value) :
    ((((w.setCell ⟨g, 0, none⟩ x0).setCell ⟨g, 1, none⟩ x1).setCell ⟨g, 2, none⟩ x2).setCell ⟨g, 3, none⟩ x3).heap[g]? = some (.cells #[x0, x1, x2, x3] t (0, 0)) := by
  have h0 := heap_setCell_same w g 0 _ _ x0 h
  have h1 := heap_setCell_same _ g 1 _ _ x1 h0
  have h2 := heap_setCell_same _ g 2 _ _ x2 h1
  exact heap_setCell_same _ g 3 _ _ x3 h2
theorem heap_drewJ (w : World) (n : Nat) : (w.drewN n).heap = w.heap := by
  induction n with
  | zero => rfl
  | succ n ih => first | exact ih | (unfold World.drewN; exact ih) | (simp [World.drewN]; done)
/-- Two new blocks. -/
def Rows2 (w wx : World) (z e : Obj) : Prop := wx.heap[w.heap.size]? = some z ∧ wx.heap[w.heap.size + 1]? = some e ∧ Below w.heap.size w wx
theorem rows2_a (w : World) (z e : Obj) (m : Nat) : Rows2 w (((w.alloc z).drewN m).alloc e) z e := by
  have h1 : ((w.alloc z).drewN m).heap.size = w.heap.size + 1 := by rw [heap_drewJ]; simp
  refine ⟨?_, ?_, ?_⟩
  · rw [Below.heap_alloc _ _ _ (by omega), heap_drewJ]; exact heap_alloc_new w z
  · rw [← h1]; exact heap_alloc_new _ _
  · exact (below_drewN ((Below.refl _ _).alloc (Nat.le_refl _) z) m).alloc (by omega) e
theorem rows2_drew {w wx : World} {z e : Obj} (h : Rows2 w wx z e) (m : Nat) : Rows2 w (wx.drewN m) z e :=
  ⟨by rw [heap_drewJ]; exact h.1, by rw [heap_drewJ]; exact h.2.1, below_drewN h.2.2 m⟩
theorem rows2_set {w wx : World} {z : Obj} {a b c d : Value} {t : TypeId} (h : Rows2 w wx z (.cells #[a, b, c, d] t (0, 0))) (x0 x1 x2 x3 : Value) :
    Rows2 w ((((wx.setCell ⟨w.heap.size + 1, 0, none⟩ x0).setCell ⟨w.heap.size + 1, 1, none⟩ x1).setCell ⟨w.heap.size + 1, 2, none⟩ x2).setCell ⟨w.heap.size + 1, 3, none⟩ x3) z (.cells #[x0, x1, x2, x3] t (0, 0)) := by
  refine ⟨?_, set4 h.2.1 x0 x1 x2 x3, (((h.2.2.setCell (Nat.le_succ _) _).setCell (Nat.le_succ _) _).setCell (Nat.le_succ _) _).setCell (Nat.le_succ _) _⟩
  rw [heap_setCell_other _ _ _ _ (by simp), heap_setCell_other _ _ _ _ (by simp), heap_setCell_other _ _ _ _ (by simp), heap_setCell_other _ _ _ _ (by simp)]
  exact h.1
theorem rows2_b (w : World) (z : Obj) (a b c d : Value) (t : TypeId) (m m' : Nat) (x0 x1 x2 x3 : Value) :
    Rows2 w (((((((w.alloc z).drewN m).alloc (.cells #[a, b, c, d] t (0, 0))).drewN m').setCell ⟨w.heap.size + 1, 0, none⟩ x0).setCell ⟨w.heap.size + 1, 1, none⟩ x1).setCell ⟨w.heap.size + 1, 2, none⟩ x2 |>.setCell ⟨w.heap.size + 1, 3, none⟩ x3) z (.cells #[x0, x1, x2, x3] t (0, 0)) :=
  rows2_set (rows2_drew (rows2_a w z _ m) m') x0 x1 x2 x3
theorem rows2_c (w : World) (z : Obj) (a b c d : Value) (t : TypeId) (m' : Nat) (x0 x1 x2 x3 : Value) :
    Rows2 w ((((((w.alloc z).alloc (.cells #[a, b, c, d] t (0, 0))).drewN m').setCell ⟨w.heap.size + 1, 0, none⟩ x0).setCell ⟨w.heap.size + 1, 1, none⟩ x1).setCell ⟨w.heap.size + 1, 2, none⟩ x2 |>.setCell ⟨w.heap.size + 1, 3, none⟩ x3) z (.cells #[x0, x1, x2, x3] t (0, 0)) :=
  rows2_set (rows2_drew (rows2_a w z _ 0) m') x0 x1 x2 x3
theorem sizeEnt : (Tryd.prog.info? 93).map (·.size) = some 4 := by kernel_rfl
def entCells (n : Nat) (s : St) : Array Value := #[.int .i64 s.ph, .int .i64 s.pr, .int .i64 s.at_, .int .u32 n]
theorem numL_lt4 (l : List UInt8) : numL (l.take 4) < 4294967296 := readN_lt l
theorem readS_fits (t : List UInt8) : (readS t).fits := by
  have h1 := numL_lt ((t.drop 4).take 1)
  have h1' : 256 ^ ((t.drop 4).take 1).length ≤ 256 ^ 1 := Nat.pow_le_pow_right (by decide) (by simp; omega)
  refine ⟨by show numL _ < _; omega, numL_lt4 _, numL_lt4 _⟩

theorem slot_ag (n ph p a : Nat) (w : World) (hn : n < 4294967296) (h1 : ph < 256) (h2 : p < 4294967296) (h3 : a < 4294967296) :
    Calls Tryd.prog 47 #[.agg #[.int .i64 (ph : Int), .int .i64 (p : Int), .int .i64 (a : Int), .int .u32 (n : Int)]] w fun e w' => e = .returned (.string (bA (bodyL n ⟨ph, p, a⟩ ++ [165]))) ∧ Below w.heap.size w w' :=
  slot_any n ⟨ph, p, a⟩ w hn ⟨h1, h2, h3⟩
set_option maxHeartbeats 4000000 in
set_option maxRecDepth 100000 in
theorem held_any (t : ByteArray) (k : Nat) (w : World) (ht : t.size = 18) :
    Calls Tryd.prog 56 #[.string t, .int .u32 k] w fun e w' => e = .returned (.tuple #[entV (readN t.data.toList) (readS t.data.toList), .bool (decide (1 ≤ readN t.data.toList ∧ readN t.data.toList % 2 = k ∧ bodyL (readN t.data.toList) (readS t.data.toList) ++ [165] = t.data.toList))]) ∧ Below w.heap.size w w' := by
  have x4 := idx_str t 4 4 (by omega) rfl
  have s5 := slice_low t 5 5 rfl (by omega)
  have s9 := slice_low t 9 9 rfl (by omega)
  have b4 : (t[4]'(by omega)).toNat < 256 := UInt8.toNat_lt (t[4]'(by omega))
  obtain ⟨n, HN⟩ : ∃ n, Hid (numL (t.data.toList.take 4) = n) := ⟨_, rfl⟩
  obtain ⟨p, HP⟩ : ∃ n, Hid (numL ((t.extract 5 t.size).data.toList.take 4) = n) := ⟨_, rfl⟩
  obtain ⟨a, HA⟩ : ∃ n, Hid (numL ((t.extract 9 t.size).data.toList.take 4) = n) := ⟨_, rfl⟩
  have hn : n < 4294967296 := by rw [← HN.out]; exact numL_lt4 _
  have hp : p < 4294967296 := by rw [← HP.out]; exact numL_lt4 _
  have ha : a < 4294967296 := by rw [← HA.out]; exact numL_lt4 _
  have Z5 : Hid (4 ≤ (t.extract 5 t.size).size) := by unfold Hid; rw [size_list, ext_list]; simp; omega
  have Z9 : Hid (4 ≤ (t.extract 9 t.size).size) := by unfold Hid; rw [size_list, ext_list]; simp; omega
  have Z0 : Hid (4 ≤ t.size) := by unfold Hid; omega
  have HS : Hid (readS t.data.toList = ⟨(t[4]'(by omega)).toNat, p, a⟩) := by
    unfold Hid readS
    have e5 : (t.extract 5 t.size).data.toList = t.data.toList.drop 5 := by rw [ext_list]; apply List.take_of_length_le; simp
    have e9 : (t.extract 9 t.size).data.toList = t.data.toList.drop 9 := by rw [ext_list]; apply List.take_of_length_le; simp
    rw [← HP.out, ← HA.out, e5, e9]
    congr 1
    rw [getB, List.drop_eq_getElem_cons (by rw [size_list] at ht; omega)]
    simp [numL]
  have HR : Hid (readN t.data.toList = n) := HN
  generalize t.extract 5 t.size = u5 at s5 HP Z5
  generalize t.extract 9 t.size = u9 at s9 HA Z9
  generalize (t[4]'(by omega)).toNat = ph at x4 b4 HS
  rw [HR.out, HS.out]
  unfold entV
  obtain ⟨q, HQ⟩ : ∃ q : Bool, Hid (q = decide (1 ≤ n ∧ n % 2 = k ∧ bodyL n ⟨ph, p, a⟩ ++ [165] = t.data.toList)) := ⟨_, hid (Eq.refl _)⟩
  rw [← HQ.out]
  have hw1 : IntKind.i64.wrap (ph : Int) = ph := by rw [IntKind.wrap_i64]; omega
  have hw2 : IntKind.i64.wrap (p : Int) = p := by rw [IntKind.wrap_i64]; omega
  have hw3 : IntKind.i64.wrap (a : Int) = a := by rw [IntKind.wrap_i64]; omega
  go_enter Tryd.func56, Tryd.ntmps56
  go_wp2_with fail
  go_cut [6] from 7 (fun s6 wx => s6 = .pointer (some ⟨w.heap.size + 1, 0, none⟩) ∧ Rows2 w wx (.cells #[.int .i64 0, .int .i64 0, .int .i64 0, .int .u32 0] 93 (0, 0)) (.cells #[.int .i64 (ph : Int), .int .i64 (p : Int), .int .i64 (a : Int), .int .u32 (n : Int)] 93 (0, 0)))
  case first =>
    go_region_held3 (fun _ => True) (trivial) (first | (go_at_call 71; (with_reducible refine (four_is u5 p _ Z5.out HP.out).mono ?_); rintro e wx ⟨rfl, m, rfl⟩) | (go_at_call 71; (with_reducible refine (four_is u9 a _ Z9.out HA.out).mono ?_); rintro e wx ⟨rfl, m, rfl⟩) | (go_at_call 71; (with_reducible refine (four_is t n _ Z0.out HN.out).mono ?_); rintro e wx ⟨rfl, m, rfl⟩))
    all_goals go_step
    all_goals go_step
    all_goals go_meet
    all_goals refine ⟨rfl, ?_⟩
    all_goals first | (with_reducible exact rows2_a _ _ _ _) | (with_reducible exact rows2_b _ _ _ _ _ _ _ _ _ _ _ _ _) | (with_reducible exact rows2_c _ _ _ _ _ _ _ _ _ _ _ _)
  case rest =>
    obtain ⟨rfl, r0, r1, hb⟩ := hcut
    have HB := hid hb
    have R0 := hid r0
    have R1 := hid r1
    clear hb r0 r1
    have hsz : w.heap.size + 1 < wc.heap.size := row_ltJ R1.out
    have hs0 : w.heap.size < wc.heap.size := by omega
    have E0 : wc.cell? ⟨w.heap.size + 1, 0, none⟩ = some (.int .i64 ph) := by rw [cell_of_row _ _ _ _ _ _ R1.out]; rfl
    have E1 : wc.cell? ⟨w.heap.size + 1, 1, none⟩ = some (.int .i64 p) := by rw [cell_of_row _ _ _ _ _ _ R1.out]; rfl
    have E2 : wc.cell? ⟨w.heap.size + 1, 2, none⟩ = some (.int .i64 a) := by rw [cell_of_row _ _ _ _ _ _ R1.out]; rfl
    have E3 : wc.cell? ⟨w.heap.size + 1, 3, none⟩ = some (.int .u32 n) := by rw [cell_of_row _ _ _ _ _ _ R1.out]; rfl
    have D0 : wc.cell? ⟨w.heap.size, 0, none⟩ = some (.int .i64 0) := by rw [cell_of_row _ _ _ _ _ _ R0.out]; rfl
    have D1 : wc.cell? ⟨w.heap.size, 1, none⟩ = some (.int .i64 0) := by rw [cell_of_row _ _ _ _ _ _ R0.out]; rfl
    have D2 : wc.cell? ⟨w.heap.size, 2, none⟩ = some (.int .i64 0) := by rw [cell_of_row _ _ _ _ _ _ R0.out]; rfl
    have D3 : wc.cell? ⟨w.heap.size, 3, none⟩ = some (.int .u32 0) := by rw [cell_of_row _ _ _ _ _ _ R0.out]; rfl
    have F0 := frozen_of_row wc w.heap.size 0 _ _ R0.out
    have F1 := frozen_of_row wc w.heap.size 1 _ _ R0.out
    have F2 := frozen_of_row wc w.heap.size 2 _ _ R0.out
    have F3 := frozen_of_row wc w.heap.size 3 _ _ R0.out
    by_cases g0 : 0 < n
    · have tm : (n : Int).tmod 2 = ((n % 2 : Nat) : Int) := by rw [Int.tmod_eq_emod_of_nonneg (by omega)]; omega
      rcases g1 : ((n : Int).tmod 2 == (k : Int)) with _ | _
      · have g4 : ¬ n % 2 = k := by rw [tm] at g1; simp at g1; omega
        have g5 : (n % 2 == k) = false := by simpa using g4
        have g6 : decide (n % 2 = k) = false := by simpa using g4
        have g7 : ((n : Int) % 2 == (k : Int)) = false := by simp; omega
        have g8 : decide ((n : Int) % 2 = (k : Int)) = false := by simp; omega
        clear tm
        have HF : Hid (q = false) := by rw [HQ.out]; exact decide_eq_false (fun h => g4 h.2.1)
        go_wp2_with fail
        go_big_region
        go_wp2
        refine bodyPost_ret (results_row2 rfl _ _ w.heap.size 93 _ (0, 0) _ rfl (set4 R0.out _ _ _ _) Tryd.underlying93 rfl sizeEnt) rfl ?_
        exact ⟨by rw [HF.out]; rfl, ((((HB.out.setCell (Nat.le_refl _) _).setCell (Nat.le_refl _) _).setCell (Nat.le_refl _) _).setCell (Nat.le_refl _) _).drew⟩
      · have g4 : n % 2 = k := by rw [tm] at g1; simp at g1; omega
        have g7 : ((n : Int) % 2 == (k : Int)) = true := by simp; omega
        obtain ⟨eqb, HEQ⟩ : ∃ eqb : Bool, Hid (((bA (bodyL n ⟨ph, p, a⟩ ++ [165])).toList == t.toList) = eqb) := ⟨_, hid (Eq.refl _)⟩
        have HF : Hid (q = eqb) := by
          unfold Hid
          rw [HQ.out, ← HEQ.out, ByteArray.toList_eq, ByteArray.toList_eq, bA_list]
          by_cases hxy : bodyL n ⟨ph, p, a⟩ ++ [165] = t.data.toList
          · rw [decide_eq_true ⟨g0, g4, hxy⟩, hxy]; simp
          · rw [decide_eq_false (fun h => hxy h.2.2)]; exact (beq_eq_false_iff_ne.2 hxy).symm
        have heq := HEQ.out
        clear tm
        go_wp2_with fail
        go_region_held3 (fun w' => w'.cell? ⟨w.heap.size + 1, 0, none⟩ = some (.int .i64 ph) ∧ w'.cell? ⟨w.heap.size + 1, 1, none⟩ = some (.int .i64 p) ∧ w'.cell? ⟨w.heap.size + 1, 2, none⟩ = some (.int .i64 a) ∧ w'.cell? ⟨w.heap.size + 1, 3, none⟩ = some (.int .u32 n)) (go_keep) (first | (go_at_call 47; (with_reducible refine (slot_ag n ph p a _ hn b4 hp ha).mono ?_); rintro e w2 ⟨rfl, hb2⟩; have y0 := (hb2.cell (p := ⟨w.heap.size + 1, 0, none⟩) hsz).trans E0; have y1 := (hb2.cell (p := ⟨w.heap.size + 1, 1, none⟩) hsz).trans E1; have y2 := (hb2.cell (p := ⟨w.heap.size + 1, 2, none⟩) hsz).trans E2; have y3 := (hb2.cell (p := ⟨w.heap.size + 1, 3, none⟩) hsz).trans E3; have z0 := (hb2.cell (p := ⟨w.heap.size, 0, none⟩) hs0).trans D0; have z1 := (hb2.cell (p := ⟨w.heap.size, 1, none⟩) hs0).trans D1; have z2 := (hb2.cell (p := ⟨w.heap.size, 2, none⟩) hs0).trans D2; have z3 := (hb2.cell (p := ⟨w.heap.size, 3, none⟩) hs0).trans D3; have f0 := (hb2.frozen (p := ⟨w.heap.size, 0, none⟩) hs0).trans F0; have f1 := (hb2.frozen (p := ⟨w.heap.size, 1, none⟩) hs0).trans F1; have f2 := (hb2.frozen (p := ⟨w.heap.size, 2, none⟩) hs0).trans F2; have f3 := (hb2.frozen (p := ⟨w.heap.size, 3, none⟩) hs0).trans F3; have HB2 := hid hb2; clear hb2))
        have R2 := hid ((HB2.out.block w.heap.size hs0).trans R0.out)
        have HB3 := hid (HB.out.drew.trans ((HB2.out).mono (show w.heap.size ≤ wc.heap.size by omega)))
        go_wp2
        refine bodyPost_ret (results_row2 rfl _ _ w.heap.size 93 _ (0, 0) _ rfl (set4 R2.out _ _ _ _) Tryd.underlying93 rfl sizeEnt) rfl ?_
        exact ⟨by rw [HF.out]; rfl, ((((HB3.out.setCell (Nat.le_refl _) _).setCell (Nat.le_refl _) _).setCell (Nat.le_refl _) _).setCell (Nat.le_refl _) _)⟩
    · have HF : Hid (q = false) := by rw [HQ.out]; exact decide_eq_false (fun h => g0 h.1)
      go_wp2_with fail
      go_big_region
      go_wp2
      refine bodyPost_ret (results_row2 rfl _ _ w.heap.size 93 _ (0, 0) _ rfl (set4 R0.out _ _ _ _) Tryd.underlying93 rfl sizeEnt) rfl ?_
      exact ⟨by rw [HF.out]; rfl, ((((HB.out.setCell (Nat.le_refl _) _).setCell (Nat.le_refl _) _).setCell (Nat.le_refl _) _).setCell (Nat.le_refl _) _).drew⟩
end Go.Proofs.YtnnknplmjiahhabDoor
namespace Go.Proofs.YtnnknplmjiahhabDoor
open Go.RowKit

/-- Where the numbers of a slot end. -/
def endAt : Nat → Nat
  | 0 => 0
  | 1 => 4
  | 2 => 5
  | 3 => 9
  | _ => 13
theorem endAt_le (i : Nat) : endAt i ≤ endAt (i + 1) ∧ endAt (i + 1) ≤ 13 := by
  match i with
  | 0 => decide
  | 1 => decide
  | 2 => decide
  | 3 => decide
  | _ + 4 => exact ⟨Nat.le_refl _, Nat.le_refl _⟩
def valAt (t : List UInt8) (i : Nat) : Nat := numL ((t.drop (endAt i)).take (endAt (i + 1) - endAt i))
theorem four_i {i : Nat} (h : i < 4) : i = 0 ∨ i = 1 ∨ i = 2 ∨ i = 3 := by omega
theorem endsCell {w : World} {b : Nat} (h : w.heap[b]? = some (.cells #[.int .i64 4, .int .i64 5, .int .i64 9, .int .i64 13] 3 (0, 0))) {i : Nat} (hi : i < 4) : w.cell? ⟨b, i, none⟩ = some (.int .i64 (endAt (i + 1) : Nat)) := by
  rw [cell_of_row _ _ _ _ _ _ h]
  rcases four_i hi with rfl | rfl | rfl | rfl <;> rfl
theorem num_step (t : List UInt8) (o a : Nat) (h : o + a < t.length) : numL ((t.drop o).take (a + 1)) = 256 * numL ((t.drop o).take a) + (t[o + a]'h).toNat := by
  rw [List.take_add_one, List.getElem?_drop, List.getElem?_eq_getElem h]
  exact numL_snoc _ _
theorem num_lt (t : List UInt8) (o a : Nat) (h : a ≤ 4) : numL ((t.drop o).take a) < 4294967296 := by
  have h1 := numL_lt ((t.drop o).take a)
  have h2 : 256 ^ ((t.drop o).take a).length ≤ 256 ^ 4 := Nat.pow_le_pow_right (by decide) (by simp; omega)
  have h3 : (256 : Nat) ^ 4 = 4294967296 := by decide
  omega
theorem endAt_4 (i : Nat) (h : i < 4) : endAt (i + 1) - endAt i ≤ 4 := by
  rcases four_i h with rfl | rfl | rfl | rfl <;> decide
theorem valAt_eq (t : List UInt8) : valAt t 0 = readN t ∧ valAt t 1 = (readS t).ph ∧ valAt t 2 = (readS t).pr ∧ valAt t 3 = (readS t).at_ := ⟨rfl, rfl, rfl, rfl⟩
/-- The numbers read so far. -/
def valsTo (t : List UInt8) (i : Nat) : List Value := (List.range i).map fun k => .int .i64 (valAt t k : Nat)
theorem valsTo_succ (t : List UInt8) (i : Nat) : valsTo t (i + 1) = valsTo t i ++ [.int .i64 (valAt t i : Nat)] := by simp [valsTo, List.range_succ]
theorem valsTo_len (t : List UInt8) (i : Nat) : (valsTo t i).length = i := by simp [valsTo]
theorem Tryd.infoI : (Tryd.prog.info? 3).map (fun i => (i.zero, i.size, i.bytes)) = some (some (.int .i64 0), 1, 8) := by kernel_rfl
end Go.Proofs.YtnnknplmjiahhabDoor
