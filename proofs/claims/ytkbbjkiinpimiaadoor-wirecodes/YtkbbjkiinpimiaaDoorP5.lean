/-
  WALKS of package plate: Write with a cut ahead; Read.
-/
import Derived.Test.YtkbbjkiinpimiaaDoorP3b
namespace Go.Proofs.YtkbbjkiinpimiaaDoor
open Go.RowKit

set_option maxHeartbeats 1000000 in
/-- A cut ahead, behind all that is written. -/
theorem pwrite_far (A : Nat → Addr) (p q : Nat) (B s : ByteArray) (a : Nat) (l : Int) (w : World) (h : Pl w p q B l) (hE : HeldE w A) (hB : B.size ≤ 1000) (ha : a + s.size ≤ B.size) (hl : (s.size : Int) ≤ l) (hl2 : l ≤ 9223372036854775807) :
    Calls Tryd.prog 38 #[.pointer (some ⟨p, 0, none⟩), .int .i64 a, .string s] w fun e w' => e = .returned .nilIface ∧ Pl w' p q (putB B a s s.size) (l - s.size) ∧ Kept (In2 p q) w w' := by
  have H := hid h
  have HE := hid hE
  have HL : Hid (¬ l = -2) := by unfold Hid; omega
  clear h hE
  go_enter Tryd.func38, Tryd.ntmps38
  go_wp2_with (go_at_call 71; refine (pcheck_in A p q B _ _ _ _ H.out HE.out hB (by omega)).mono ?_; rw [if_neg HL.out]; rintro e wx ⟨rfl, hx⟩; subst wx)
  go_loopw [19] (fun i wr => ∃ k : Nat, k ≤ s.size ∧ i = .int .i64 k ∧ Pl wr p q (putB B a s k) (l - k) ∧ Kept (In2 p q) w wr) (fun i _ => s.size - (intOf i).toNat)
  case atStart => exact ⟨0, Nat.zero_le _, rfl, by rw [putB_zero]; simpa using H.out, Kept.refl _ _⟩
  case round =>
    obtain ⟨k, hk, rfl, hP, hK⟩ := hrel
    have HP := hid hP
    have HK := hid hK
    clear hP hK
    by_cases hlt : k < s.size
    · go_wp2_with (go_at_call 72; refine (pspend_pos p q _ (l - k) _ HP.out (by omega) (by omega)).mono ?_; rintro e w1 ⟨rfl, hP1, hK1⟩; have HP1 := hid hP1; have HK1 := hid hK1; clear hP1 hK1; have c0 := HP1.out.bytes (by omega) (by omega); have cq := HP1.out.cq (j := a + k) (by rw [size_putB (by omega) (by omega)]; omega); have fq := HP1.out.fq (a + k))
      go_region
      all_goals go_wp2
      all_goals go_roundw
      case rel =>
        refine ⟨k + 1, by omega, by go_num, ?_, ((HK.out.trans HK1.out).setCell (.inr rfl) _).drew⟩
        rw [show l - ((k + 1 : Nat) : Int) = l - k - 1 by omega]
        exact (HP1.out.put (by omega) hlt).drew
      case measure => simp [intOf]; omega
    · obtain rfl : k = s.size := by omega
      go_wp2
      go_ret
      exact ⟨rfl, HP.out, HK.out⟩

set_option maxHeartbeats 1000000 in
/-- A cut ahead, within what is written. -/
theorem pwrite_near (A : Nat → Addr) (p q : Nat) (B s : ByteArray) (a l : Nat) (w : World) (h : Pl w p q B l) (hE : HeldE w A) (hB : B.size ≤ 1000) (ha : a + s.size ≤ B.size) (hl : l < s.size) (hp : 5 ≠ p) (hq : 5 ≠ q) :
    Calls Tryd.prog 38 #[.pointer (some ⟨p, 0, none⟩), .int .i64 a, .string s] w fun e w' => e = .returned (.iface 107 (.pointer (some (A 5)))) ∧ Pl w' p q (putB B a s l) (-2) ∧ Kept (In2 p q) w w' := by
  have H := hid h
  have HE := hid hE
  have HL : Hid (¬ (l : Int) = -2) := by unfold Hid; omega
  have HG : Hid (∀ wx, Kept (In2 p q) w wx → wx.cell? ⟨5, 0, none⟩ = some (.iface 107 (.pointer (some (A 5))))) := fun wx hk => by
    rw [World.cell?_of_block (w := w) (hk.block 5 (cell_lt hE.g5) (fun e => e.elim hp hq))]
    exact hE.g5
  clear h hE
  go_enter Tryd.func38, Tryd.ntmps38
  go_wp2_with (go_at_call 71; refine (pcheck_in A p q B _ _ _ _ H.out HE.out hB (by omega)).mono ?_; rw [if_neg HL.out]; rintro e wx ⟨rfl, hx⟩; subst wx)
  go_loopw [19] (fun i wr => ∃ k : Nat, k ≤ l ∧ i = .int .i64 k ∧ Pl wr p q (putB B a s k) (l - k) ∧ Kept (In2 p q) w wr) (fun i _ => l - (intOf i).toNat)
  case atStart => exact ⟨0, Nat.zero_le _, rfl, by rw [putB_zero]; simpa using H.out, Kept.refl _ _⟩
  case round =>
    obtain ⟨k, hk, rfl, hP, hK⟩ := hrel
    have HP := hid hP
    have HK := hid hK
    clear hP hK
    have hks : k < s.size := by omega
    by_cases hlt : k < l
    · go_wp2_with (go_at_call 72; refine (pspend_pos p q _ (l - k) _ HP.out (by omega) (by omega)).mono ?_; rintro e w1 ⟨rfl, hP1, hK1⟩; have HP1 := hid hP1; have HK1 := hid hK1; clear hP1 hK1; have c0 := HP1.out.bytes (by omega) (by omega); have cq := HP1.out.cq (j := a + k) (by rw [size_putB (by omega) (by omega)]; omega); have fq := HP1.out.fq (a + k))
      go_region
      all_goals go_wp2
      all_goals go_roundw
      case rel =>
        refine ⟨k + 1, by omega, by go_num, ?_, ((HK.out.trans HK1.out).setCell (.inr rfl) _).drew⟩
        rw [show (l : Int) - ((k + 1 : Nat) : Int) = l - k - 1 by omega]
        exact (HP1.out.put (by omega) hks).drew
      case measure => simp [intOf]; omega
    · obtain rfl : k = l := by omega
      have HP0 : Hid (Pl wr p q (putB B a s k) 0) := by have := HP.out; rw [show (k : Int) - k = 0 by omega] at this; exact this
      go_wp2_with (go_at_call 72; refine (pspend_zero p q _ _ HP0.out).mono ?_; rintro e w1 ⟨rfl, hP1, hK1⟩; have g5 := HG.out _ (HK.out.trans hK1); have HP1 := hid hP1; have HK1 := hid hK1; clear hP1 hK1)
      go_ret
      exact ⟨rfl, HP1.out, HK.out.trans HK1.out⟩

theorem pread_bound (A : Nat → Addr) (p q : Nat) (B : ByteArray) (l a n : Int) (w : World) (h : Pl w p q B l) (hE : HeldE w A) (hB : B.size ≤ 1000) (hn : n ≤ 9223372036854775807) (hb : a < 0 ∨ n < 0 ∨ (B.size : Int) - n < a) :
    Calls Tryd.prog 36 #[.pointer (some ⟨p, 0, none⟩), .int .i64 a, .int .i64 n] w fun e w' => e = .returned (.tuple #[.string ⟨#[]⟩, .iface 107 (.pointer (some (A 1)))]) ∧ w' = w := by
  have H := hid h
  have HE := hid hE
  have HB := hid hb
  clear h hE hb
  go_enter Tryd.func36, Tryd.ntmps36
  go_wp2_with (go_at_call 71; refine (pcheck_bound A p q B l _ _ _ H.out HE.out hB hn HB.out).mono ?_; rintro e w' ⟨rfl, rfl⟩)
  go_ret2
  exact ⟨rfl, rfl⟩
theorem pread_off (A : Nat → Addr) (p q : Nat) (B : ByteArray) (a n : Int) (w : World) (h : Pl w p q B (-2)) (hE : HeldE w A) (hB : B.size ≤ 1000) (hb : ¬ (a < 0 ∨ n < 0 ∨ (B.size : Int) - n < a)) :
    Calls Tryd.prog 36 #[.pointer (some ⟨p, 0, none⟩), .int .i64 a, .int .i64 n] w fun e w' => e = .returned (.tuple #[.string ⟨#[]⟩, .iface 107 (.pointer (some (A 5)))]) ∧ w' = w := by
  have H := hid h
  have HE := hid hE
  have HB := hid hb
  clear h hE hb
  go_enter Tryd.func36, Tryd.ntmps36
  go_wp2_with (go_at_call 71; refine (pcheck_in A p q B _ _ _ _ H.out HE.out hB HB.out).mono ?_; rw [if_pos rfl]; rintro e w' ⟨rfl, rfl⟩)
  go_ret2
  exact ⟨rfl, rfl⟩
set_option maxRecDepth 100000 in
theorem pread_ok (A : Nat → Addr) (p q : Nat) (B : ByteArray) (l : Int) (a n : Nat) (w : World) (h : Pl w p q B l) (hE : HeldE w A) (hB : B.size ≤ 1000) (hl : ¬ l = -2) (hb : a + n ≤ B.size) :
    Calls Tryd.prog 36 #[.pointer (some ⟨p, 0, none⟩), .int .i64 a, .int .i64 n] w fun e w' => e = .returned (.tuple #[.string (B.extract a (a + n)), .nilIface]) ∧ w' = w := by
  have H := hid h
  have HE := hid hE
  have HL := hid hl
  have c0 := h.c0
  by_cases hc : a < B.size
  · have hcv := conv_cut h a n (B.size - a) hb
    clear h hE hl
    go_enter Tryd.func36, Tryd.ntmps36
    go_wp2_with (go_at_call 71; refine (pcheck_in A p q B _ _ _ _ H.out HE.out hB (by omega)).mono ?_; rw [if_neg HL.out]; rintro e w' ⟨rfl, rfl⟩)
    go_ret2
    exact ⟨rfl, rfl⟩
  · obtain rfl : n = 0 := by omega
    have hcv := conv_cut h 0 0 0 (by omega)
    have e1 : B.extract 0 (0 + 0) = ByteArray.empty := by
      apply ba_ext; rw [ext_list]; simp
    have e2 : B.extract a (a + 0) = ByteArray.empty := by
      apply ba_ext; rw [ext_list]; simp
    rw [e1] at hcv
    rw [e2]
    clear h hE hl e1 e2
    go_enter Tryd.func36, Tryd.ntmps36
    go_wp2_with (go_at_call 71; refine (pcheck_in A p q B _ _ _ _ H.out HE.out hB (by omega)).mono ?_; rw [if_neg HL.out]; rintro e w' ⟨rfl, rfl⟩)
    go_ret2
    exact ⟨rfl, rfl⟩
end Go.Proofs.YtkbbjkiinpimiaaDoor
