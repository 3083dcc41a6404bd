/-
  On the way to WStepsProof: P3 P4 P3b P5 P8P JA JB.
-/
import Derived.Test.YtbaamegnmeohoacGreatDoorBs5
import Derived.Test.YtbaamegnmeohoacGreatDoorBs1
import Derived.Test.YtbaamegnmeohoacGreatDoorBs2
import Derived.RegionTactic
import Derived.BigRegion
import Derived.Laws.AppendOwn
import Derived.BigQuiet
namespace Go.Proofs.YtbaamegnmeohoacGreatDoor
open Go.RowKit
def zeroB (n : Nat) : ByteArray := ⟨(List.replicate n 0).toArray⟩
theorem zeroB_size (n : Nat) : (zeroB n).size = n := by rw [size_list]; simp [zeroB]
theorem Tryz.infoB : (Tryz.prog.info? 5).map (fun i => (i.zero, i.size, i.bytes)) = some (some (.int .u8 0), 1, 1) := by kernel_rfl
theorem made_zero (n : Nat) : madeCells (Value.int .u8 0).cells n = cellsB (zeroB n) := by
  apply Array.ext'
  rw [show (Value.int .u8 0).cells = #[.int .u8 0] from rfl, toList_madeCells_one]
  simp [cellsB, Lib.strCells, zeroB]
theorem mkB (n : Nat) (h : n ≤ 1000) (w : World) : (Instr.makeSlice 96 (.int .i64 n) (.int .i64 n)).run Tryz.prog w = .ok (.slice (some ⟨w.heap.size, 0, none⟩) n n) (w.alloc (.cells (cellsB (zeroB n)) 5)) := by
  obtain ⟨i0, hi, hz0, hz1, hz2⟩ := info_parts Tryz.infoB
  have hr := run_make (P := Tryz.prog) w 96 5 i0 _ Tryz.underlying96 hi hz0 .i64 .i64 n n (by omega) (Int.le_refl _) (by rw [hz2]; omega) (by omega)
  simp only [Int.toNat_natCast, hz1, Nat.mul_one, made_zero] at hr
  exact hr
theorem pl_new (w : World) (n : Nat) : Pl ((w.alloc (.cells (cellsB (zeroB n)) 5)).alloc (.cells #[.slice (some ⟨w.heap.size, 0, none⟩) n n, .int .i64 (-1)] 154)) (w.heap.size + 1) w.heap.size (zeroB n) (-1) :=
  ⟨by omega, by rw [heap_alloc2_new, zeroB_size], heap_alloc2_old w _ _⟩
theorem pnew_ok (n : Nat) (w : World) (h : n ≤ 512) :
    Calls Tryz.prog 38 #[.int .i64 n] w fun e w' => e = .returned (.tuple #[.pointer (some ⟨w.heap.size + 1, 0, none⟩), .nilIface]) ∧ Pl w' (w.heap.size + 1) w.heap.size (zeroB n) (-1) ∧ Below w.heap.size w w' ∧ w'.heap.size = w.heap.size + 2 := by
  have hmk := mkB n (by omega)
  have H := hid (pl_new w n)
  go_enter Tryz.func38, Tryz.ntmps38
  go_wp2
  go_ret2
  exact ⟨rfl, H.out, ((Below.refl _ _).alloc (Nat.le_refl _) _).alloc (by simp) _, by simp⟩
theorem Pl.put {w : World} {p q : Nat} {B s : ByteArray} {a k : Nat} {l : Int} (h : Pl w p q (putB B a s k) l) (ha : a + k < B.size) (hk : k < s.size) :
    Pl (w.setCell ⟨q, a + k, none⟩ (.int .u8 ((s[k]'hk).toNat : Int))) p q (putB B a s (k + 1)) l := by
  refine ⟨h.ne, ?_, ?_⟩
  · rw [heap_setCell_other w _ p _ h.ne, h.head, size_putB (by omega) (by omega), size_putB (by omega) (by omega)]
  · rw [heap_setCell_same w q (a + k) _ _ _ h.row]
    unfold cellsB
    rw [putB_succ ha hk]
theorem Pl.bytes {w : World} {p q : Nat} {B s : ByteArray} {a k : Nat} {l : Int} (h : Pl w p q (putB B a s k) l) (ha : a + k ≤ B.size) (hk : k ≤ s.size) : w.cell? ⟨p, 0, none⟩ = some (.slice (some ⟨q, 0, none⟩) B.size B.size) := by
  rw [h.c0, size_putB ha hk]
theorem Pl.cq {w : World} {p q : Nat} {B : ByteArray} {j : Nat} {l : Int} (h : Pl w p q B l) (hj : j < B.size) : w.cell? ⟨q, j, none⟩ = some (.int .u8 ((B[j]'hj).toNat : Int)) := by
  rw [cell_of_row w q j _ _ _ h.row, cellsB_at hj]
theorem Pl.fq {w : World} {p q : Nat} {B : ByteArray} {l : Int} (h : Pl w p q B l) (j : Nat) : w.frozen? ⟨q, j, none⟩ = false := frozen_of_row w q j _ _ h.row
theorem pwrite_bound (A : Nat → Addr) (p q : Nat) (B s : ByteArray) (l a : Int) (w : World) (h : Pl w p q B l) (hE : HeldE w A) (hB : B.size ≤ 1000) (hs : s.size ≤ 1000) (hb : a < 0 ∨ (B.size : Int) - s.size < a) :
    Calls Tryz.prog 255 #[.pointer (some ⟨p, 0, none⟩), .int .i64 a, .string s] w fun e w' => e = .returned (.iface 342 (.pointer (some (A 1)))) ∧ w' = w := by
  have H := hid h
  have HE := hid hE
  clear h hE
  go_enter Tryz.func255, Tryz.ntmps255
  go_wp2_with (go_at_call 182; refine (pcheck_bound A p q B l _ _ _ H.out HE.out hB (by omega) (by omega)).mono ?_; rintro e w' ⟨rfl, rfl⟩)
  go_ret
  exact ⟨rfl, rfl⟩
theorem pwrite_off (A : Nat → Addr) (p q : Nat) (B s : ByteArray) (a : Int) (w : World) (h : Pl w p q B (-2)) (hE : HeldE w A) (hB : B.size ≤ 1000) (hs : s.size ≤ 1000) (hb : ¬ (a < 0 ∨ (B.size : Int) - s.size < a)) :
    Calls Tryz.prog 255 #[.pointer (some ⟨p, 0, none⟩), .int .i64 a, .string s] w fun e w' => e = .returned (.iface 342 (.pointer (some (A 5)))) ∧ w' = w := by
  have H := hid h
  have HE := hid hE
  clear h hE
  go_enter Tryz.func255, Tryz.ntmps255
  go_wp2_with (go_at_call 182; refine (pcheck_in A p q B _ _ _ _ H.out HE.out hB (by omega)).mono ?_; rw [if_pos rfl]; rintro e w' ⟨rfl, rfl⟩)
  go_ret
  exact ⟨rfl, rfl⟩
set_option maxHeartbeats 1000000 in
theorem pwrite_free (A : Nat → Addr) (p q : Nat) (B s : ByteArray) (a : Nat) (l : Int) (w : World) (h : Pl w p q B l) (hE : HeldE w A) (hB : B.size ≤ 1000) (ha : a + s.size ≤ B.size) (hl : l < 0) (hl2 : ¬ l = -2) :
    Calls Tryz.prog 255 #[.pointer (some ⟨p, 0, none⟩), .int .i64 a, .string s] w fun e w' => e = .returned .nilIface ∧ Pl w' p q (putB B a s s.size) l ∧ Kept (In2 p q) w w' := by
  have H := hid h
  have HE := hid hE
  have HL := hid hl2
  clear h hE hl2
  go_enter Tryz.func255, Tryz.ntmps255
  go_wp2_with (go_at_call 182; refine (pcheck_in A p q B _ _ _ _ H.out HE.out hB (by omega)).mono ?_; rw [if_neg HL.out]; rintro e wx ⟨rfl, hx⟩; subst wx)
  go_loopw [19] (fun i wr => ∃ k : Nat, k ≤ s.size ∧ i = .int .i64 k ∧ Pl wr p q (putB B a s k) l ∧ Kept (In2 p q) w wr) (fun i _ => s.size - (intOf i).toNat)
  case atStart => exact ⟨0, Nat.zero_le _, rfl, by rw [putB_zero]; exact H.out, Kept.refl _ _⟩
  case round =>
    obtain ⟨k, hk, rfl, hP, hK⟩ := hrel
    have HP := hid hP
    have HK := hid hK
    clear hP hK
    by_cases hlt : k < s.size
    · have c0 := HP.out.bytes (by omega) (by omega)
      have cq := HP.out.cq (j := a + k) (by rw [size_putB (by omega) (by omega)]; omega)
      have fq := HP.out.fq (a + k)
      go_wp2_with (go_at_call 258; refine (pspend_neg p q _ l _ HP.out hl).mono ?_; rintro e wx ⟨rfl, hx⟩; subst wx)
      go_region
      all_goals go_wp2
      all_goals go_roundw
      case rel => exact ⟨k + 1, by omega, by go_num, (HP.out.put (by omega) hlt).drew, (HK.out.setCell (.inr rfl) _).drew⟩
      case measure => simp [intOf]; omega
    · obtain rfl : k = s.size := by omega
      go_wp2
      go_ret
      exact ⟨rfl, HP.out, HK.out⟩
theorem run_copy_str {P : Program} {w : World} (dT sT ty elem : TypeId) (hu : P.underlying dT = some (.slice elem)) (hsz : (P.info? elem).map (·.size) = some 1)
    (g cap : Nat) (x : ByteArray) (cur : Array Value) (t : TypeId) (hg : w.heap[g]? = some (.cells cur t (0, 0))) (hfit : cur.size = x.size) :
    (Builtin.copy_ #[dT, sT] ty #[.slice (some ⟨g, 0, none⟩) x.size cap, .string x]).run P w = .ok (goInt x.size) (w.setRow g (cellsB x)) := by
  have hf := Lib.run_firstCells_string (P := P) w 1 x
  have hst := run_storeCells_at P g 0 t (Lib.strCells x) 0 cur w hg (by rw [Lib.strCells_length]; omega) (Lib.strCells_oneCell x)
  rw [Lib.strCells_length] at hst
  have e : cur.toList.drop (0 + 0 + x.size) = [] := List.drop_eq_nil_of_le (by simp; omega)
  rw [e] at hst
  simp only [Nat.add_zero, List.take_zero, List.nil_append, List.append_nil] at hst
  cases hq : P.info? elem with
  | none => simp [hq] at hsz
  | some i =>
    have hi : i.size = 1 := by simpa [hq] using hsz
    simp [Builtin.copy_, run_underlying hu, Builtin.lenOf, sizeOf, typeInfo, hq, hi, hf, hst, cellsB]
theorem byteSize : (Tryz.prog.info? 5).map (·.size) = some 1 := by kernel_rfl
theorem Pl.row_set {w : World} {p q : Nat} {B s : ByteArray} {l : Int} (h : Pl w p q B l) (hs : s.size = B.size) : Pl (w.setRow q (cellsB s)) p q s l :=
  ⟨h.ne, by rw [setRow_other w q p _ h.ne, h.head, hs], setRow_heap w q _ _ _ _ h.row⟩
theorem kept_setRow {w : World} (p q : Nat) (cs : Array Value) : Kept (In2 p q) w (w.setRow q cs) := ⟨rfl, rfl, rfl, by simp, fun k _ hk => setRow_other w q k cs (fun e => hk (.inr e))⟩
set_option maxRecDepth 100000 in
theorem pfrom_ok (s : ByteArray) (w : World) (h : s.size ≤ 512) :
    Calls Tryz.prog 167 #[.string s] w fun e w' => e = .returned (.tuple #[.pointer (some ⟨w.heap.size + 1, 0, none⟩), .nilIface]) ∧ Pl w' (w.heap.size + 1) w.heap.size s (-1) ∧ Below w.heap.size w w' ∧ w'.heap.size = w.heap.size + 2 := by
  go_enter Tryz.func167, Tryz.ntmps167
  go_wp2_with (go_at_call 38; refine (pnew_ok _ _ h).mono ?_; rintro e w1 ⟨rfl, hP, hb, hsz⟩; have c0 := hP.c0; rw [zeroB_size] at c0; have hcp := fun ty => run_copy_str (P := Tryz.prog) 96 9 ty 5 Tryz.underlying96 byteSize w.heap.size s.size s _ _ hP.row (by rw [cellsB_size, zeroB_size]))
  go_ret2
  exact ⟨rfl, hP.row_set (zeroB_size _).symm, Kept.below (kept_setRow (w.heap.size + 1) w.heap.size _) hb.size (fun k hk => by unfold In2 at hk; omega) hb, by simpa using hsz⟩
theorem conv_cut {w : World} {p q : Nat} {B : ByteArray} {l : Int} (h : Pl w p q B l) (o n cap : Nat) (hn : o + n ≤ B.size) :
    (convert 96 9 (.slice (some ⟨q, o, none⟩) n cap)).run Tryz.prog w = .ok (.string (B.extract o (o + n))) w := by
  have hl : ((B.extract o (o + n)).data.toList).length = n := by
    rw [ext_list]
    rw [size_list] at hn
    simp only [List.length_take, List.length_drop]
    omega
  have := run_convert_bytes_back (P := Tryz.prog) w 96 9 5 ⟨q, o, none⟩ cap (B.extract o (o + n)).data.toList Tryz.underlying96 Tryz.underlying5 Tryz.underlying9 (fun j hj => by
    rw [hl] at hj
    rw [Addr.add_lit, h.cq (by omega), getB (by omega)]
    congr 3
    simp only [ext_list, List.getElem_take, List.getElem_drop])
  rw [hl] at this
  rw [this]
theorem conv_all {w : World} {p q : Nat} {B : ByteArray} {l : Int} (h : Pl w p q B l) :
    (convert 96 9 (.slice (some ⟨q, 0, none⟩) B.size B.size)).run Tryz.prog w = .ok (.string B) w := by
  have := conv_cut h 0 B.size B.size (by omega)
  rw [Nat.zero_add, show B.extract 0 B.size = B by simp] at this
  exact this
theorem pbytes_any (p q : Nat) (B : ByteArray) (l : Int) (w : World) (h : Pl w p q B l) :
    Calls Tryz.prog 168 #[.pointer (some ⟨p, 0, none⟩)] w fun e w' => e = .returned (.string B) ∧ w' = w := by
  have c0 := h.c0
  have hc := conv_all h
  clear h
  go_enter Tryz.func168, Tryz.ntmps168
  go_wp2
  go_ret
  exact ⟨rfl, rfl⟩
set_option maxHeartbeats 1000000 in
theorem pwrite_far (A : Nat → Addr) (p q : Nat) (B s : ByteArray) (a : Nat) (l : Int) (w : World) (h : Pl w p q B l) (hE : HeldE w A) (hB : B.size ≤ 1000) (ha : a + s.size ≤ B.size) (hl : (s.size : Int) ≤ l) (hl2 : l ≤ 9223372036854775807) :
    Calls Tryz.prog 255 #[.pointer (some ⟨p, 0, none⟩), .int .i64 a, .string s] w fun e w' => e = .returned .nilIface ∧ Pl w' p q (putB B a s s.size) (l - s.size) ∧ Kept (In2 p q) w w' := by
  have H := hid h
  have HE := hid hE
  have HL : Hid (¬ l = -2) := by unfold Hid; omega
  clear h hE
  go_enter Tryz.func255, Tryz.ntmps255
  go_wp2_with (go_at_call 182; refine (pcheck_in A p q B _ _ _ _ H.out HE.out hB (by omega)).mono ?_; rw [if_neg HL.out]; rintro e wx ⟨rfl, hx⟩; subst wx)
  go_loopw [19] (fun i wr => ∃ k : Nat, k ≤ s.size ∧ i = .int .i64 k ∧ Pl wr p q (putB B a s k) (l - k) ∧ Kept (In2 p q) w wr) (fun i _ => s.size - (intOf i).toNat)
  case atStart => exact ⟨0, Nat.zero_le _, rfl, by rw [putB_zero]; simpa using H.out, Kept.refl _ _⟩
  case round =>
    obtain ⟨k, hk, rfl, hP, hK⟩ := hrel
    have HP := hid hP
    have HK := hid hK
    clear hP hK
    by_cases hlt : k < s.size
    · go_wp2_with (go_at_call 258; refine (pspend_pos p q _ (l - k) _ HP.out (by omega) (by omega)).mono ?_; rintro e w1 ⟨rfl, hP1, hK1⟩; have HP1 := hid hP1; have HK1 := hid hK1; clear hP1 hK1; have c0 := HP1.out.bytes (by omega) (by omega); have cq := HP1.out.cq (j := a + k) (by rw [size_putB (by omega) (by omega)]; omega); have fq := HP1.out.fq (a + k))
      go_region
      all_goals go_wp2
      all_goals go_roundw
      case rel =>
        refine ⟨k + 1, by omega, by go_num, ?_, ((HK.out.trans HK1.out).setCell (.inr rfl) _).drew⟩
        rw [show l - ((k + 1 : Nat) : Int) = l - k - 1 by omega]
        exact (HP1.out.put (by omega) hlt).drew
      case measure => simp [intOf]; omega
    · obtain rfl : k = s.size := by omega
      go_wp2
      go_ret
      exact ⟨rfl, HP.out, HK.out⟩
set_option maxHeartbeats 1000000 in
theorem pwrite_near (A : Nat → Addr) (p q : Nat) (B s : ByteArray) (a l : Nat) (w : World) (h : Pl w p q B l) (hE : HeldE w A) (hB : B.size ≤ 1000) (ha : a + s.size ≤ B.size) (hl : l < s.size) (hp : 6 ≠ p) (hq : 6 ≠ q) :
    Calls Tryz.prog 255 #[.pointer (some ⟨p, 0, none⟩), .int .i64 a, .string s] w fun e w' => e = .returned (.iface 342 (.pointer (some (A 5)))) ∧ Pl w' p q (putB B a s l) (-2) ∧ Kept (In2 p q) w w' := by
  have H := hid h
  have HE := hid hE
  have HL : Hid (¬ (l : Int) = -2) := by unfold Hid; omega
  have HG : Hid (∀ wx, Kept (In2 p q) w wx → wx.cell? ⟨6, 0, none⟩ = some (.iface 342 (.pointer (some (A 5))))) := fun wx hk => by
    rw [World.cell?_of_block (w := w) (hk.block 6 (cell_lt hE.g5) (fun e => e.elim hp hq))]
    exact hE.g5
  clear h hE
  go_enter Tryz.func255, Tryz.ntmps255
  go_wp2_with (go_at_call 182; refine (pcheck_in A p q B _ _ _ _ H.out HE.out hB (by omega)).mono ?_; rw [if_neg HL.out]; rintro e wx ⟨rfl, hx⟩; subst wx)
  go_loopw [19] (fun i wr => ∃ k : Nat, k ≤ l ∧ i = .int .i64 k ∧ Pl wr p q (putB B a s k) (l - k) ∧ Kept (In2 p q) w wr) (fun i _ => l - (intOf i).toNat)
  case atStart => exact ⟨0, Nat.zero_le _, rfl, by rw [putB_zero]; simpa using H.out, Kept.refl _ _⟩
  case round =>
    obtain ⟨k, hk, rfl, hP, hK⟩ := hrel
    have HP := hid hP
    have HK := hid hK
    clear hP hK
    have hks : k < s.size := by omega
    by_cases hlt : k < l
    · go_wp2_with (go_at_call 258; refine (pspend_pos p q _ (l - k) _ HP.out (by omega) (by omega)).mono ?_; rintro e w1 ⟨rfl, hP1, hK1⟩; have HP1 := hid hP1; have HK1 := hid hK1; clear hP1 hK1; have c0 := HP1.out.bytes (by omega) (by omega); have cq := HP1.out.cq (j := a + k) (by rw [size_putB (by omega) (by omega)]; omega); have fq := HP1.out.fq (a + k))
      go_region
      all_goals go_wp2
      all_goals go_roundw
      case rel =>
        refine ⟨k + 1, by omega, by go_num, ?_, ((HK.out.trans HK1.out).setCell (.inr rfl) _).drew⟩
        rw [show (l : Int) - ((k + 1 : Nat) : Int) = l - k - 1 by omega]
        exact (HP1.out.put (by omega) hks).drew
      case measure => simp [intOf]; omega
    · obtain rfl : k = l := by omega
      have HP0 : Hid (Pl wr p q (putB B a s k) 0) := by have := HP.out; rw [show (k : Int) - k = 0 by omega] at this; exact this
      go_wp2_with (go_at_call 258; refine (pspend_zero p q _ _ HP0.out).mono ?_; rintro e w1 ⟨rfl, hP1, hK1⟩; have g5 := HG.out _ (HK.out.trans hK1); have HP1 := hid hP1; have HK1 := hid hK1; clear hP1 hK1)
      go_ret
      exact ⟨rfl, HP1.out, HK.out.trans HK1.out⟩
theorem pread_off (A : Nat → Addr) (p q : Nat) (B : ByteArray) (a n : Int) (w : World) (h : Pl w p q B (-2)) (hE : HeldE w A) (hB : B.size ≤ 1000) (hb : ¬ (a < 0 ∨ n < 0 ∨ (B.size : Int) - n < a)) :
    Calls Tryz.prog 142 #[.pointer (some ⟨p, 0, none⟩), .int .i64 a, .int .i64 n] w fun e w' => e = .returned (.tuple #[.string ⟨#[]⟩, .iface 342 (.pointer (some (A 5)))]) ∧ w' = w := by
  have H := hid h
  have HE := hid hE
  have HB := hid hb
  clear h hE hb
  go_enter Tryz.func142, Tryz.ntmps142
  go_wp2_with (go_at_call 182; refine (pcheck_in A p q B _ _ _ _ H.out HE.out hB HB.out).mono ?_; rw [if_pos rfl]; rintro e w' ⟨rfl, rfl⟩)
  go_ret2
  exact ⟨rfl, rfl⟩
set_option maxRecDepth 100000 in
theorem pread_ok (A : Nat → Addr) (p q : Nat) (B : ByteArray) (l : Int) (a n : Nat) (w : World) (h : Pl w p q B l) (hE : HeldE w A) (hB : B.size ≤ 1000) (hl : ¬ l = -2) (hb : a + n ≤ B.size) :
    Calls Tryz.prog 142 #[.pointer (some ⟨p, 0, none⟩), .int .i64 a, .int .i64 n] w fun e w' => e = .returned (.tuple #[.string (B.extract a (a + n)), .nilIface]) ∧ w' = w := by
  have H := hid h
  have HE := hid hE
  have HL := hid hl
  have c0 := h.c0
  by_cases hc : a < B.size
  · have hcv := conv_cut h a n (B.size - a) hb
    clear h hE hl
    go_enter Tryz.func142, Tryz.ntmps142
    go_wp2_with (go_at_call 182; refine (pcheck_in A p q B _ _ _ _ H.out HE.out hB (by omega)).mono ?_; rw [if_neg HL.out]; rintro e w' ⟨rfl, rfl⟩)
    go_ret2
    exact ⟨rfl, rfl⟩
  · obtain rfl : n = 0 := by omega
    have hcv := conv_cut h 0 0 0 (by omega)
    have e1 : B.extract 0 (0 + 0) = ByteArray.empty := by
      apply ba_ext; rw [ext_list]; simp
    have e2 : B.extract a (a + 0) = ByteArray.empty := by
      apply ba_ext; rw [ext_list]; simp
    rw [e1] at hcv
    rw [e2]
    clear h hE hl e1 e2
    go_enter Tryz.func142, Tryz.ntmps142
    go_wp2_with (go_at_call 182; refine (pcheck_in A p q B _ _ _ _ H.out HE.out hB (by omega)).mono ?_; rw [if_neg HL.out]; rintro e w' ⟨rfl, rfl⟩)
    go_ret2
    exact ⟨rfl, rfl⟩
def Lk (l : Int) (off : Bool) (l' : Int) (cuts : Bool) : Prop :=
  (off = true ∧ l = -2) ∨ (off = false ∧ cuts = false ∧ l = -1) ∨ (off = false ∧ cuts = true ∧ l = l' ∧ 0 ≤ l ∧ l ≤ 9223372036854775807)
theorem Lk.le {l : Int} {off : Bool} {l' : Int} {cuts : Bool} (h : Lk l off l' cuts) : l ≤ 9223372036854775807 := by
  rcases h with ⟨_, h⟩ | ⟨_, _, h⟩ | ⟨_, _, _, _, h⟩ <;> omega
theorem Lk.power {l : Int} {off : Bool} {l' : Int} {cuts : Bool} (h : Lk l off l' cuts) : (l != -2) = !off := by
  rcases h with ⟨rfl, rfl⟩ | ⟨rfl, _, rfl⟩ | ⟨rfl, _, _, h, _⟩
  · rfl
  · rfl
  · simp; omega
abbrev wBad (B s : ByteArray) (a : Int) : Prop := a < 0 ∨ (B.size : Int) - s.size < a
def wC (B s : ByteArray) (l a : Int) : Nat := if wBad B s a then 2 else if l = -2 then 6 else if 0 ≤ l ∧ l < s.size then 6 else 0
def wB (B s : ByteArray) (l a : Int) : ByteArray := if wBad B s a then B else if l = -2 then B else if 0 ≤ l ∧ l < s.size then putB B a.toNat s l.toNat else putB B a.toNat s s.size
def wL (B s : ByteArray) (l a : Int) : Int := if wBad B s a then l else if l = -2 then -2 else if 0 ≤ l ∧ l < s.size then -2 else if l < 0 then l else l - s.size
theorem wB_size (B s : ByteArray) (l a : Int) : (wB B s l a).size = B.size := by
  unfold wB
  split
  · rfl
  · rename_i h
    unfold wBad at h
    split
    · rfl
    · split
      · rename_i h2; exact size_putB (by omega) (by omega)
      · exact size_putB (by omega) (by omega)
theorem write_pl (A : Nat → Addr) (p q : Nat) (B s : ByteArray) (l a : Int) (w : World) (h : Pl w p q B l) (hE : HeldE w A) (hB : B.size ≤ 1000) (hs : s.size ≤ 1000) (h1 : -2 ≤ l) (h2 : l ≤ 9223372036854775807) (hp : 6 ≠ p) (hq : 6 ≠ q) :
    Calls Tryz.prog 255 #[.pointer (some ⟨p, 0, none⟩), .int .i64 a, .string s] w fun e w' => e = .returned (ev A (wC B s l a)) ∧ Pl w' p q (wB B s l a) (wL B s l a) ∧ Kept (In2 p q) w w' := by
  by_cases hb : wBad B s a
  · simp only [wC, wB, wL, if_pos hb]
    refine (pwrite_bound A p q B s l a w h hE hB hs hb).mono ?_
    rintro e w' ⟨rfl, rfl⟩
    exact ⟨rfl, h, Kept.refl _ _⟩
  · by_cases hl : l = -2
    · subst hl
      simp only [wC, wB, wL, if_neg hb, if_pos]
      refine (pwrite_off A p q B s a w h hE hB hs hb).mono ?_
      rintro e w' ⟨rfl, rfl⟩
      exact ⟨rfl, h, Kept.refl _ _⟩
    · have hb' := hb
      unfold wBad at hb'
      obtain ⟨a', rfl⟩ : ∃ a' : Nat, a = a' := ⟨a.toNat, by omega⟩
      by_cases hn : 0 ≤ l ∧ l < s.size
      · obtain ⟨l', rfl⟩ : ∃ l' : Nat, l = l' := ⟨l.toNat, by omega⟩
        simp only [wC, wB, wL, if_neg hb, if_neg hl, if_pos hn, Int.toNat_natCast]
        exact pwrite_near A p q B s a' l' w h hE hB (by omega) (by omega) hp hq
      · simp only [wC, wB, wL, if_neg hb, if_neg hl, if_neg hn, Int.toNat_natCast]
        by_cases hl0 : l < 0
        · rw [if_pos hl0]
          exact pwrite_free A p q B s a' l w h hE hB (by omega) hl0 hl
        · rw [if_neg hl0]
          exact pwrite_far A p q B s a' l w h hE hB (by omega) (by omega) h2
def cC (l n : Int) : Nat := if n < 0 then 2 else if l = -2 then 6 else 0
def cL (l n : Int) : Int := if n < 0 then l else if l = -2 then l else n
theorem cC_le (l n : Int) : cC l n ≤ 9 := by
  unfold cC; repeat' split
  all_goals decide
theorem cut_pl (A : Nat → Addr) (p q : Nat) (B : ByteArray) (l n : Int) (w : World) (h : Pl w p q B l) (hE : HeldE w A) :
    Calls Tryz.prog 120 #[.pointer (some ⟨p, 0, none⟩), .int .i64 n] w fun e w' => e = .returned (ev A (cC l n)) ∧ Pl w' p q B (cL l n) ∧ Kept (In2 p q) w w' := by
  by_cases hn : n < 0
  · simp only [cC, cL, if_pos hn]
    refine (pcut_bound A _ n w hE hn).mono ?_
    rintro e w' ⟨rfl, rfl⟩
    exact ⟨rfl, h, Kept.refl _ _⟩
  · by_cases hl : l = -2
    · subst hl
      simp only [cC, cL, if_neg hn, if_pos]
      refine (pcut_off A p q B n w h hE hn).mono ?_
      rintro e w' ⟨rfl, rfl⟩
      exact ⟨rfl, h, Kept.refl _ _⟩
    · simp only [cC, cL, if_neg hn, if_neg hl]
      exact pcut_ok p q B l n w h hl hn
def rC (B : ByteArray) (l a n : Int) : Nat := if a < 0 ∨ n < 0 ∨ (B.size : Int) - n < a then 2 else if l = -2 then 6 else 0
theorem coded_ev (A : Nat → Addr) (c : Nat) (w : World) (hE : Held9 w A) (hc : c ≤ 9) :
    Calls Tryz.prog 13 #[ev A c, .int .i64 c] w fun e w' => e = .returned (.bool true) ∧ Below w.heap.size w w' := by
  match c, hc with
  | 0, _ =>
    refine (coded_nil 0 w).mono ?_
    rintro e w' ⟨rfl, rfl⟩
    exact ⟨rfl, Below.refl _ _⟩
  | c + 1, hc =>
    refine (coded_at A c _ w hE (by omega)).mono ?_
    rintro e w' ⟨rfl, hb⟩
    refine ⟨?_, hb⟩
    have : ((c : Int) + 1 == ((c + 1 : Nat) : Int)) = true := by simp
    rw [this]
theorem ofInt_nat32 (a : Nat) (ha : a < 4294967296) : (BitVec.ofInt 32 (a : Int)).toNat = a := by
  rw [BitVec.ofInt_natCast, BitVec.toNat_ofNat]; exact Nat.mod_eq_of_lt (by omega)
theorem xor32 (a b : Nat) (ha : a < 4294967296) (hb : b < 4294967296) : bits .xor .u32 (a : Int) (b : Int) = ((a ^^^ b : Nat) : Int) := by
  have hx : a ^^^ b < 2 ^ 32 := Nat.xor_lt_two_pow (by omega) (by omega)
  show IntKind.u32.wrap ((BitVec.ofInt 32 (a : Int) ^^^ BitVec.ofInt 32 (b : Int)).toNat : Int) = _
  rw [BitVec.toNat_xor, ofInt_nat32 a ha, ofInt_nat32 b hb, IntKind.wrap_u32]
  omega
theorem and32_1 (a : Nat) (ha : a < 4294967296) : bits .and .u32 (a : Int) 1 = ((a % 2 : Nat) : Int) := by
  have h := ofInt_nat32 1 (by omega)
  show IntKind.u32.wrap ((BitVec.ofInt 32 (a : Int) &&& BitVec.ofInt 32 ((1 : Nat) : Int)).toNat : Int) = _
  rw [BitVec.toNat_and, ofInt_nat32 a ha, h, IntKind.wrap_u32, Nat.and_one_is_mod]
  omega
def BytesAt (w : World) (b o : Nat) (l : List UInt8) : Prop := ∀ j (h : j < l.length), w.cell? ⟨b, o + j, none⟩ = some (.int .u8 ((l[j]'h).toNat : Int))
theorem idx_strA (s : ByteArray) (i : Nat) (z : Int) (h : i < s.size) (hz : z = i) (w : World) : (Instr.index 9 (.string s) (.int .i64 z)).run Tryz.prog w = .ok (.int .u8 ((s[i]'h).toNat : Int)) w := by
  subst hz
  rw [run_index_string w 9 s .i64 i Tryz.underlying9, dif_pos ⟨by omega, by omega⟩]
  rfl
theorem sum_any (s : ByteArray) (w : World) (hl : s.size ≤ 1000) :
    Calls Tryz.prog 204 #[.string s] w fun e w' => e = .returned (.int .u32 (crcL s.data.toList : Nat)) ∧ w' = w := by
  go_enter Tryz.func204, Tryz.ntmps204
  go_wp2
  go_loop [3, 8] (fun x i => ∃ k : Nat, k ≤ s.size ∧ i = .int .i64 k ∧ x = .int .u32 (crcFold 4294967295 (s.data.toList.take k) : Nat)) (fun _ i => s.size - (intOf i).toNat)
  case atStart => exact ⟨0, Nat.zero_le _, rfl, rfl⟩
  case round =>
    obtain ⟨k, hk, rfl, rfl⟩ := hrel
    have hc : crcFold 4294967295 (s.data.toList.take k) < 4294967296 := crcFold_lt _ (by decide)
    by_cases hlt : k < s.size
    · have ix := idx_strA s k (k : Int) hlt rfl
      have hb := UInt8.toNat_lt (s[k]'hlt)
      have HS : Hid (crcFold 4294967295 (s.data.toList.take (k + 1)) = devBits (crcFold 4294967295 (s.data.toList.take k) ^^^ (s[k]'hlt).toNat) 8) := by
        unfold Hid
        rw [dev_eight, ← crcFold_snoc, List.take_add_one, List.getElem?_eq_getElem hlt, getB hlt]
        rfl
      generalize (s[k]'hlt).toNat = x at ix hb HS
      generalize crcFold 4294967295 (s.data.toList.take k) = c at hc HS ⊢
      have hx := xor32 c x hc (by omega)
      have hcx : c ^^^ x < 4294967296 := Nat.xor_lt_two_pow (n := 32) hc (by omega)
      go_wp2
      go_loop [3, 17] (fun y i => ∃ m : Nat, m ≤ 8 ∧ i = .int .i64 m ∧ y = .int .u32 (devBits (c ^^^ x) m : Nat)) (fun _ i => 8 - (intOf i).toNat)
      case atStart => exact ⟨0, Nat.zero_le _, rfl, rfl⟩
      case round =>
        obtain ⟨m, hm, rfl, rfl⟩ := hrel
        have hd : devBits (c ^^^ x) m < 4294967296 := devBits_lt hcx m
        have HD : Hid (devBits (c ^^^ x) (m + 1) = devBit (devBits (c ^^^ x) m)) := rfl
        have ha := and32_1 _ hd
        have hx2 := xor32 (devBits (c ^^^ x) m / 2) 3988292384 (by omega) (by decide)
        have HX := hid hx2
        clear hx2
        have hpar : devBits (c ^^^ x) m % 2 = 0 ∨ devBits (c ^^^ x) m % 2 = 1 := by omega
        by_cases hlt8 : m < 8
        · generalize devBits (c ^^^ x) m = y at hd HD ha HX hpar ⊢
          rcases hpar with hp | hp
          · rw [hp] at ha
            go_wp2
            go_round
            case rel => exact ⟨m + 1, by omega, by go_num, val_int (by rw [HD.out, devBit, if_neg (by omega)]; omega)⟩
            case measure => simp [intOf]; omega
          · rw [hp] at ha
            go_wp2
            go_round
            case rel => exact ⟨m + 1, by omega, by go_num, val_int (by rw [HD.out, devBit, if_pos hp]; exact HX.out)⟩
            case measure => simp [intOf]; omega
        · obtain rfl : m = 8 := by omega
          go_wp2
          go_round
          case rel => exact ⟨k + 1, by omega, by go_num, val_int (by rw [HS.out])⟩
          case measure => simp [intOf]; omega
    · obtain rfl : k = s.size := by omega
      have htk : s.data.toList.take s.size = s.data.toList := List.take_length
      rw [htk] at hc
      have HC : Hid (bits BinOp.xor IntKind.u32 IntKind.u32.max ((crcFold 4294967295 s.data.toList : Nat) : Int) = ((crcL s.data.toList : Nat) : Int)) := by
        unfold Hid
        rw [show IntKind.u32.max = ((4294967295 : Nat) : Int) by decide, xor32 4294967295 _ (by decide) hc, Nat.xor_comm]
        rfl
      rw [htk]
      go_wp2
      go_ret
      exact ⟨ret_int HC.out, rfl⟩
theorem Tryz.infoB1 : (Tryz.prog.info? 5).map (fun i => (i.zero, i.size, i.bytes)) = some (some (.int .u8 0), 1, 1) := by kernel_rfl
def cellsL (l : List UInt8) : List Value := l.map fun b => .int .u8 (b.toNat : Int)
theorem cellsL_one (l : List UInt8) : ∀ u ∈ cellsL l, u.oneCell' = true := by
  intro u hu
  obtain ⟨n, -, rfl⟩ := List.mem_map.1 hu
  rfl
theorem cellsL_append (a b : List UInt8) : cellsL (a ++ b) = cellsL a ++ cellsL b := by simp [cellsL]
theorem wide4 (n : Nat) : wideL n 4 = [UInt8.ofNat (n / 16777216 % 256), UInt8.ofNat (n / 65536 % 256), UInt8.ofNat (n / 256 % 256), UInt8.ofNat (n % 256)] := by
  simp [wideL, Nat.div_div_eq_div_mul]
theorem wide1 (n : Nat) : wideL n 1 = [UInt8.ofNat (n % 256)] := by simp [wideL]
theorem ofNat_cell (n : Nat) : Value.int .u8 ((UInt8.ofNat (n % 256)).toNat : Int) = .int .u8 ((n : Int) % 256) := by
  have : (UInt8.ofNat (n % 256)).toNat = n % 256 := by simp
  rw [this]; congr 1
def OwnB (w : World) (base : Nat) (v : Value) (l : List UInt8) : Prop := w.ownsRow base 5 1 v l.length (cellsL l)
theorem own_below {B : Nat} {w0 w W w' : World} {e : TypeId} {size n : Nat} {v : Value} {xs : List Value} (hnx : Below B w0 w) (hB : B ≤ w.heap.size) (hW : Below w.heap.size w W) (hown : w.ownsRow B e size v n xs) (hg : W.grownBy w' v.ownBlock) : Below B w0 w' := by
  refine Below.grown (hnx.trans (hW.mono hB)) hg (Nat.le_trans hB hW.size) ?_
  intro g hg
  rcases hown.2 with ⟨rfl, _⟩ | ⟨g', c', cur, rfl, hb', _⟩
  · cases hg
  · have : g' = g := by simpa [Value.ownBlock] using hg
    omega
theorem addrAdd (b off j : Nat) : (⟨b, off, none⟩ : Addr).add j = ⟨b, off + j, none⟩ := by unfold Addr.add; split <;> simp_all
theorem lit_cells (w : World) (cs : List Value) (t : TypeId) : ∀ j u, cs[j]? = some u → (w.alloc (.cells cs.toArray t)).cell? ((⟨w.heap.size, 0, none⟩ : Addr).add j) = some u := by
  intro j u hj
  rw [addrAdd, cell_of_row _ w.heap.size (0 + j) cs.toArray t (0, 0) (heap_alloc_new w _), Nat.zero_add, List.getElem?_toArray]
  exact hj
theorem wide4_cells (n : Nat) (hn : n < 4294967296) : cellsL (wideL n 4) = [.int .u8 ((n : Int) / 16777216), .int .u8 ((n : Int) / 65536 % 256), .int .u8 ((n : Int) / 256 % 256), .int .u8 ((n : Int) % 256)] := by
  rw [wide4]
  simp only [cellsL, List.map_cons, List.map_nil, ofNat_cell]
  have e1 : ((n / 16777216 : Nat) : Int) % 256 = (n : Int) / 16777216 := by omega
  rw [e1]
  rfl
set_option maxRecDepth 100000 in
theorem add_any (base n : Nat) (v : Value) (l : List UInt8) (w : World) (h : OwnB w base v l) (hb : base ≤ w.heap.size) (hl : l.length ≤ 1000) (hn : n < 4294967296) :
    Calls Tryz.prog 244 #[v, .int .u32 (n : Int)] w fun e w' => ∃ v', e = .returned v' ∧ OwnB w' base v' (l ++ wideL n 4) ∧ Below base w w' := by
  obtain ⟨i0, hi, hz0, hz1, hz2⟩ := info_parts Tryz.infoB1
  have H := hid h
  have HW := hid (wide4_cells n hn)
  clear h
  go_enter Tryz.func244, Tryz.ntmps244
  go_wp2_with (at_builtin; refine wpList_append_own _ rfl (.tmp 5) (.tmp 17) 96 rfl base 5 i0 (.int .u8 0) 1 1 Tryz.underlying96 hi hz0 hz1 hz2 rfl (by decide) _ l.length (cellsL l) rfl (by exact World.ownsRow.alloc H.out _) ⟨w.heap.size, 0, none⟩ 4 4 [.int .u8 ((n : Int) / 16777216), .int .u8 ((n : Int) / 65536 % 256), .int .u8 ((n : Int) / 256 % 256), .int .u8 ((n : Int) % 256)] rfl rfl (lit_cells _ _ _) ?c2 ?c3 ?c4 ?c5 ?_)
  case c2 => intro u hu; rw [← HW.out] at hu; exact cellsL_one _ u hu
  case c3 => unfold maxLen; omega
  case c4 => omega
  case c5 => simp; omega
  intro v' w1 hown hg _
  have HO : Hid (OwnB w1 base v' (l ++ wideL n 4)) := by
    unfold Hid OwnB
    rw [cellsL_append, HW.out, List.length_append, wideL_length]; exact hown
  have HB := hid (own_below (Below.refl base w) hb ((Below.refl _ _).alloc (Nat.le_refl _) _) H.out hg)
  clear hown hg
  go_wp2
  go_ret
  exact ⟨v', rfl, HO.out, HB.out⟩
theorem or32 (a b : Nat) (ha : a < 4294967296) (hb : b < 4294967296) : bits .or .u32 (a : Int) (b : Int) = ((a ||| b : Nat) : Int) := by
  have hx : a ||| b < 2 ^ 32 := Nat.or_lt_two_pow (by omega) (by omega)
  show IntKind.u32.wrap ((BitVec.ofInt 32 (a : Int) ||| BitVec.ofInt 32 (b : Int)).toNat : Int) = _
  rw [BitVec.toNat_or, ofInt_nat32 a ha, ofInt_nat32 b hb, IntKind.wrap_u32]
  omega
theorem or_low (a b i : Nat) (hb : b < 2 ^ i) : (a * 2 ^ i) ||| b = a * 2 ^ i + b := by
  rw [Nat.mul_comm]; exact (Nat.two_pow_add_eq_or_of_lt hb a).symm
theorem idx_str (s : ByteArray) (i : Nat) (z : Int) (h : i < s.size) (hz : z = i) (w : World) : (Instr.index 9 (.string s) (.int .i64 z)).run Tryz.prog w = .ok (.int .u8 ((s[i]'h).toNat : Int)) w := by
  subst hz
  rw [run_index_string w 9 s .i64 i Tryz.underlying9, dif_pos ⟨by omega, by omega⟩]
  rfl
theorem take4 : ∀ (l : List UInt8) (h : 4 ≤ l.length), l.take 4 = [l[0]'(by omega), l[1]'(by omega), l[2]'(by omega), l[3]'(by omega)]
  | _ :: _ :: _ :: _ :: _, _ => rfl
theorem first4 (s : ByteArray) (h : 4 ≤ s.size) : s.data.toList.take 4 = [s[0]'(by omega), s[1]'(by omega), s[2]'(by omega), s[3]'(by omega)] := by
  rw [getB, getB, getB, getB]
  exact take4 _ h
theorem or24 (a b : Nat) (h : b < 16777216) : a * 16777216 ||| b = a * 16777216 + b := or_low a b 24 h
theorem or16 (a b : Nat) (h : b < 65536) : a * 65536 ||| b = a * 65536 + b := or_low a b 16 h
theorem or8 (a b : Nat) (h : b < 256) : a * 256 ||| b = a * 256 + b := or_low a b 8 h
theorem four_num (a b c d : Nat) (hb : b < 256) (hc : c < 256) (hd : d < 256) : ((a * 16777216 ||| b * 65536) ||| c * 256) ||| d = 256 * (256 * (256 * a + b) + c) + d := by
  rw [or24 _ _ (by omega), show a * 16777216 + b * 65536 = (a * 256 + b) * 65536 by omega, or16 _ _ (by omega), show (a * 256 + b) * 65536 + c * 256 = ((a * 256 + b) * 256 + c) * 256 by omega, or8 _ _ hd]
  omega
theorem four_or (a b c d : Nat) (ha : a < 256) (hb : b < 256) (hc : c < 256) (hd : d < 256) :
    bits BinOp.or IntKind.u32 (bits BinOp.or IntKind.u32 (bits BinOp.or IntKind.u32 ((a : Int) * 16777216) ((b : Int) * 65536)) ((c : Int) * 256)) (d : Int) = ((256 * (256 * (256 * (256 * 0 + a) + b) + c) + d : Nat) : Int) := by
  have e1 := or32 (a * 16777216) (b * 65536) (by omega) (by omega)
  have n1 := or24 a (b * 65536) (by omega)
  have e2 := or32 (a * 16777216 ||| b * 65536) (c * 256) (by omega) (by omega)
  have n2 : a * 16777216 ||| b * 65536 ||| c * 256 = a * 16777216 + b * 65536 + c * 256 := by
    rw [n1, show a * 16777216 + b * 65536 = (a * 256 + b) * 65536 by omega, or16 _ _ (by omega)]
  have e3 := or32 (a * 16777216 ||| b * 65536 ||| c * 256) d (by omega) (by omega)
  simp only [Int.natCast_mul] at e1 e2
  rw [show ((a : Int) * 16777216) = (a : Int) * ((16777216 : Nat) : Int) from rfl, show ((b : Int) * 65536) = (b : Int) * ((65536 : Nat) : Int) from rfl, show ((c : Int) * 256) = (c : Int) * ((256 : Nat) : Int) from rfl, e1, e2, e3, four_num a b c d hb hc hd]
  congr 1
  omega
set_option maxRecDepth 100000 in
theorem four_any (s : ByteArray) (w : World) (h : 4 ≤ s.size) :
    Calls Tryz.prog 226 #[.string s] w fun e w' => e = .returned (.int .u32 (numL (s.data.toList.take 4) : Nat)) ∧ ∃ m, w' = w.drewN m := by
  have b0 := UInt8.toNat_lt (s[0]'(by omega))
  have b1 := UInt8.toNat_lt (s[1]'(by omega))
  have b2 := UInt8.toNat_lt (s[2]'(by omega))
  have b3 := UInt8.toNat_lt (s[3]'(by omega))
  have x0 := idx_str s 0 0 (by omega) rfl
  have x1 := idx_str s 1 1 (by omega) rfl
  have x2 := idx_str s 2 2 (by omega) rfl
  have x3 := idx_str s 3 3 (by omega) rfl
  rw [first4 s h]
  simp only [numL, List.foldl_cons, List.foldl_nil]
  generalize (s[0]'(by omega)).toNat = a at b0 x0 ⊢
  generalize (s[1]'(by omega)).toNat = b at b1 x1 ⊢
  generalize (s[2]'(by omega)).toNat = c at b2 x2 ⊢
  generalize (s[3]'(by omega)).toNat = d at b3 x3 ⊢
  have HN := hid (four_or a b c d b0 b1 b2 b3)
  clear h
  go_enter Tryz.func226, Tryz.ntmps226
  go_wp2
  go_quiet (fail)
  go_wp2
  go_ret
  exact ⟨ret_int HN.out, _, rfl⟩
end Go.Proofs.YtbaamegnmeohoacGreatDoor
