/-
  What a write by the plate's own answer is.
  WALKS of package journal: Open, Get.
-/
import Derived.Test.YtkbbjkiinpimiaaDoorJD
import Derived.Test.YtkbbjkiinpimiaaDoorP8P
import Derived.Test.YtkbbjkiinpimiaaDoorJH
namespace Go.Proofs.YtkbbjkiinpimiaaDoor
open Go.RowKit

/-- What the plate answers to a write that lies on it: done, or cut ahead of its end. -/
theorem wr_of (B s : ByteArray) (l : Int) (a : Nat) (h : a + s.size ≤ B.size) (h0 : 0 < s.size) : Wr B.data.toList a s.data.toList (wB B s l a).data.toList (wC B s l a) := by
  have hb : ¬ wBad B s a := by unfold wBad; omega
  by_cases hl : l = -2
  · simp only [wC, wB, if_neg hb, if_pos hl]
    exact .inr ⟨rfl, 0, by rw [← size_list]; exact h0, by rw [List.take_zero, putL_nil]⟩
  · by_cases hn : 0 ≤ l ∧ l < s.size
    · simp only [wC, wB, if_neg hb, if_neg hl, if_pos hn, Int.toNat_natCast]
      refine .inr ⟨rfl, l.toNat, by rw [← size_list]; omega, ?_⟩
      rw [putB_putL (by omega)]
    · simp only [wC, wB, if_neg hb, if_neg hl, if_neg hn, Int.toNat_natCast]
      refine .inl ⟨rfl, ?_⟩
      rw [putB_putL (Nat.le_refl _), size_list, List.take_length]
theorem wL_off (B s : ByteArray) (l : Int) (a : Nat) (h : wC B s l a = 6) : wL B s l a = -2 := by
  unfold wC at h
  unfold wL
  split at h
  · cases h
  · rename_i hb
    rw [if_neg hb]
    split at h
    · rename_i hl; rw [if_pos hl]
    · rename_i hl
      rw [if_neg hl]
      split at h
      · rename_i hn; rw [if_pos hn]
      · cases h
theorem bits_xor_nat (a b : Nat) (ha : a < 9223372036854775808) (hb : b < 9223372036854775808) : bits .xor .i64 (a : Int) (b : Int) = ((a ^^^ b : Nat) : Int) := by
  have hx : a ^^^ b < 2 ^ 63 := Nat.xor_lt_two_pow (by omega) (by omega)
  show IntKind.i64.wrap ((BitVec.ofInt 64 (a : Int) ^^^ BitVec.ofInt 64 (b : Int)).toNat : Int) = _
  rw [BitVec.toNat_xor, ofInt_nat a ha, ofInt_nat b hb, IntKind.wrap_i64]
  omega
end Go.Proofs.YtkbbjkiinpimiaaDoor
namespace Go.Proofs.YtkbbjkiinpimiaaDoor
open Go.RowKit

theorem slotL_take (L : List UInt8) (k : Nat) (hk : k < 12) : slotL (L.take 216) k = slotL L k := by
  apply List.ext_getElem?
  intro m
  rw [slotL_get, slotL_get]
  split
  · rw [List.getElem?_take, if_pos (by omega)]
  · rfl
theorem dealL_take (L : List UInt8) (d : Nat) (hd : d < 6) : dealL (L.take 216) d = dealL L d := by
  unfold dealL
  rw [slotL_take L _ (by omega), slotL_take L _ (by omega)]
theorem newest_is (B : ByteArray) (d n ph pr a : Nat) (w : World) (hB : B.size = 216) (hd : d < 6) (h : dealL B.data.toList d = (n, ⟨ph, pr, a⟩)) :
    Calls Tryd.prog 74 #[.string B, .int .i64 (d : Int)] w fun e w' => e = .returned (.agg #[.int .i64 (ph : Int), .int .i64 (pr : Int), .int .i64 (a : Int), .int .u32 (n : Int)]) ∧ Below w.heap.size w w' := by
  have := newest_any B d w hB hd
  rw [h] at this
  exact this
def openE (L : List UInt8) (k : Nat) : Nat → Nat × St := fun d => if d < k then dealL L d else (0, St.zero)
theorem openE_step (L : List UInt8) (k : Nat) : openE L (k + 1) = updE (openE L k) k (dealL L k) := by
  funext d
  unfold openE updE
  by_cases h : d = k
  · subst h; rw [if_pos (by omega), if_pos rfl]
  · rw [if_neg h]
    show _ = if d < k then dealL L d else (0, St.zero)
    by_cases h2 : d < k
    · rw [if_pos (by omega), if_pos h2]
    · rw [if_neg (by omega), if_neg h2]
theorem place6 (w : World) : Calls Tryd.prog 73 #[.int .i64 6, .int .u32 0] w fun e w' => e = .returned (.int .i64 216) ∧ w' = w := place_any 6 0 w (by omega) (by omega)
theorem read6 (A : Nat → Addr) (p q : Nat) (B X : ByteArray) (l : Int) (w : World) (h : Pl w p q B l) (hE : HeldE w A) (hB : B.size ≤ 1000) (hl : ¬ l = -2) (hb : 216 ≤ B.size) (hX : B.extract 0 (0 + 216) = X) :
    Calls Tryd.prog 36 #[.pointer (some ⟨p, 0, none⟩), .int .i64 0, .int .i64 216] w fun e w' => e = .returned (.tuple #[.string X, .nilIface]) ∧ w' = w := by
  rw [← hX]; exact pread_ok A p q B l 0 216 w h hE hB hl (by omega)
theorem openE_all (L : List UInt8) (d : Nat) (hd : d < 6) : openE L 6 d = dealL L d := if_pos hd

set_option maxHeartbeats 2000000 in
set_option maxRecDepth 100000 in
theorem open_ok (A : Nat → Addr) (p q : Nat) (B : ByteArray) (l : Int) (w : World) (h : Pl w p q B l) (hE : HeldE w A) (hB : B.size ≤ 1000) (h6 : 216 ≤ B.size) (hl : ¬ l = -2) :
    Calls Tryd.prog 47 #[.pointer (some ⟨p, 0, none⟩)] w fun e w' => ∃ j, e = .returned (.tuple #[.pointer (some ⟨j, 0, none⟩), .nilIface]) ∧ JR w' j p (dealL B.data.toList) false ∧ Below w.heap.size w w' ∧ w.heap.size ≤ j := by
  have H := hid h
  have HE := hid hE
  have HL := hid hl
  obtain ⟨X, HX⟩ : ∃ X, Hid (B.extract 0 (0 + 216) = X) := ⟨_, rfl⟩
  have HXl : Hid (X.data.toList = B.data.toList.take 216) := by rw [← HX.out, ]; unfold Hid; rw [ext_list]; rfl
  have hX : X.size = 216 := by rw [size_list, HXl.out, List.length_take, ← size_list]; omega
  have HF : Hid (∀ w' j, JR w' j p (openE X.data.toList 6) false → JR w' j p (dealL B.data.toList) false) := fun w' j hj => hj.ext (fun d hd => by rw [openE_all _ _ hd, HXl.out, dealL_take _ _ hd])
  have HS : Hid (∀ k, openE X.data.toList (k + 1) = updE (openE X.data.toList k) k (dealL X.data.toList k)) := openE_step _
  have H0 : Hid (openE X.data.toList 0 = fun _ => (0, St.zero)) := by unfold Hid openE; funext d; rw [if_neg (by omega)]
  clear h hE hl
  go_enter Tryd.func47, Tryd.ntmps47
  go_wp2_with (first | (go_at_call 73; refine (place6 _).mono ?_; rintro e wx ⟨rfl, hx⟩; subst wx) | (go_at_call 36; refine (read6 A p q B X l _ H.out HE.out hB HL.out h6 HX.out).mono ?_; rintro e wx ⟨rfl, hx⟩; subst wx))
  go_loopw [23] (fun i wr => ∃ k : Nat, k ≤ 6 ∧ i = .int .i64 (k : Int) ∧ JR wr w.heap.size p (openE X.data.toList k) false ∧ Below w.heap.size w wr) (fun i _ => 6 - (intOf i).toNat)
  case atStart => exact ⟨0, by omega, rfl, by rw [H0.out]; exact heap_alloc_new w _, (Below.refl _ _).alloc (Nat.le_refl _) _⟩
  case round =>
    obtain ⟨k, hk, rfl, hJ, hb⟩ := hrel
    have HJ := hid hJ
    have HB := hid hb
    clear hJ hb
    by_cases hlt : k < 6
    · obtain ⟨⟨n, ph, pr, a⟩, HD⟩ : ∃ x, Hid (dealL X.data.toList k = x) := ⟨_, rfl⟩
      go_wp2_with fail
      go_region_held3 (fun _ => True) (trivial) (first | (go_at_call 74; (with_reducible refine (newest_is X k n ph pr a _ hX hlt HD.out).mono ?_); rintro e w2 ⟨rfl, hb2⟩; have HJ2 := hid (HJ.out.drew.later hb2 HJ.out.lt); have HB2 := hid (HB.out.drew.trans (hb2.mono HB.out.size)); obtain ⟨c0, c1, c2, c3⟩ := HJ2.out.ent hlt; have f0 := HJ2.out.fz (1 + k * 4); have f1 := HJ2.out.fz (1 + k * 4 + 1); have f2 := HJ2.out.fz (1 + k * 4 + 2); have f3 := HJ2.out.fz (1 + k * 4 + 3); clear hb2))
      all_goals go_wp2_with fail
      all_goals go_roundw
      case rel => exact ⟨k + 1, by omega, by go_num, by rw [HS.out, HD.out]; exact HJ2.out.set hlt (n, ⟨ph, pr, a⟩), (((HB2.out.setCell (Nat.le_refl _) _).setCell (Nat.le_refl _) _).setCell (Nat.le_refl _) _).setCell (Nat.le_refl _) _⟩
      case measure => simp [intOf]; omega
    · obtain rfl : k = 6 := by omega
      go_wp2_with fail
      go_ret2
      exact ⟨w.heap.size, rfl, HF.out _ _ HJ.out, HB.out, Nat.le_refl _⟩

theorem sizeState : (Tryd.prog.info? 74).map (·.size) = some 3 := by kernel_rfl
theorem set3 {w : World} {g : Nat} {a b c : Value} {t : TypeId} (h : w.heap[g]? = some (.cells #[a, b, c] t (0, 0))) (x0 x1 x2 : Value) :
    (((w.setCell ⟨g, 0, none⟩ x0).setCell ⟨g, 1, none⟩ x1).setCell ⟨g, 2, none⟩ x2).heap[g]? = some (.cells #[x0, x1, x2] t (0, 0)) := by
  have h0 := heap_setCell_same w g 0 _ _ x0 h
  have h1 := heap_setCell_same _ g 1 _ _ x1 h0
  exact heap_setCell_same _ g 2 _ _ x2 h1
/-- A state as a value. -/
def stV (s : St) : Value := .agg #[.int .i64 s.ph, .int .i64 s.pr, .int .i64 s.at_]
set_option maxRecDepth 100000 in
theorem get_ok (j p d : Nat) (E : Nat → Nat × St) (over : Bool) (w : World) (h : JR w j p E over) (hd : d < 6) :
    Calls Tryd.prog 49 #[.pointer (some ⟨j, 0, none⟩), .int .i64 (d : Int)] w fun e w' => e = .returned (.tuple #[stV (E d).2, .nilIface]) ∧ Below w.heap.size w w' := by
  have HK : Hid (decide (0 ≤ (d : Int) ∧ (d : Int) < 6) = true) := decide_eq_true ⟨by omega, by omega⟩
  obtain ⟨c0, c1, c2, c3⟩ := h.ent hd
  have hj := h.lt
  unfold stV
  generalize (E d).2.ph = ph at c0 ⊢
  generalize (E d).2.pr = pr at c1 ⊢
  generalize (E d).2.at_ = a at c2 ⊢
  clear h
  go_enter Tryd.func49, Tryd.ntmps49
  go_wp2_with (go_at_call 75; refine (known_any d _).mono ?_; rw [HK.out]; rintro e wx ⟨rfl, hx⟩; subst wx)
  refine bodyPost_ret (results_row2 rfl _ _ w.heap.size 74 #[.int .i64 (ph : Int), .int .i64 (pr : Int), .int .i64 (a : Int)] (0, 0) _ rfl (heap_alloc_new w _) Tryd.underlying74 rfl sizeState) rfl ?_
  exact ⟨rfl, (Below.refl _ _).alloc (Nat.le_refl _) _⟩
set_option maxRecDepth 100000 in
theorem get_bad (A : Nat → Addr) (v : Value) (d : Int) (w : World) (hE : HeldE w A) (hd : ¬ (0 ≤ d ∧ d < 6)) :
    Calls Tryd.prog 49 #[v, .int .i64 d] w fun e w' => e = .returned (.tuple #[stV St.zero, .iface 107 (.pointer (some (A 1)))]) ∧ Below w.heap.size w w' := by
  have HK : Hid (decide (0 ≤ d ∧ d < 6) = false) := decide_eq_false hd
  have g1 := hE.g1
  have g1b := cell_allocJ (o := .cells #[.int .i64 0, .int .i64 0, .int .i64 0] 74) g1
  clear hE hd
  go_enter Tryd.func49, Tryd.ntmps49
  go_wp2_with (go_at_call 75; refine (known_any d _).mono ?_; rw [HK.out]; rintro e wx ⟨rfl, hx⟩; subst wx)
  go_region
  all_goals go_wp2
  refine bodyPost_ret (results_row2 rfl _ _ w.heap.size 74 #[.int .i64 0, .int .i64 0, .int .i64 0] (0, 0) _ rfl (heap_alloc_new w _) Tryd.underlying74 rfl sizeState) rfl ?_
  exact ⟨rfl, ((Below.refl _ _).alloc (Nat.le_refl _) _).drew⟩
/-- No plate. -/
theorem open_nil (A : Nat → Addr) (w : World) (hE : HeldE w A) :
    Calls Tryd.prog 47 #[.pointer none] w fun e w' => e = .returned (.tuple #[.pointer none, .iface 107 (.pointer (some (A 2)))]) ∧ Below w.heap.size w w' := by
  have g2 : w.cell? ⟨2, 0, none⟩ = some (.iface 107 (.pointer (some (A 2)))) := hE.g2
  clear hE
  go_enter Tryd.func47, Tryd.ntmps47
  go_wp2_with fail
  go_quiet (fail)
  go_wp2
  go_ret2
  exact ⟨rfl, below_drewN (Below.refl _ _) _⟩
/-- Too few bytes, or no power. -/
theorem open_bad (A : Nat → Addr) (p q : Nat) (B : ByteArray) (l : Int) (c : Nat) (w : World) (h : Pl w p q B l) (hE : HeldE w A) (hB : B.size ≤ 1000) (hc : rC B l 0 216 = c + 1) :
    Calls Tryd.prog 47 #[.pointer (some ⟨p, 0, none⟩)] w fun e w' => e = .returned (.tuple #[.pointer none, .iface 107 (.pointer (some (A c)))]) ∧ w' = w := by
  have H := hid h
  have HE := hid hE
  have HC := hid hc
  clear h hE hc
  go_enter Tryd.func47, Tryd.ntmps47
  go_wp2_with (first | (go_at_call 73; refine (place6 _).mono ?_; rintro e wx ⟨rfl, hx⟩; subst wx) | (go_at_call 36; refine (read_bad A p q B l 0 216 c _ H.out HE.out hB (by omega) HC.out).mono ?_; rintro e wx ⟨rfl, hx⟩; subst wx))
  go_ret2
  exact ⟨rfl, rfl⟩
end Go.Proofs.YtkbbjkiinpimiaaDoor
