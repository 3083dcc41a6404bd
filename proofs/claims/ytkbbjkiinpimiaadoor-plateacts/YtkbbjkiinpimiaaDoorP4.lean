/-
  THE WALK of (*plate.Plate).Write: bytes one by one, as far as power goes.
-/
import Derived.Test.YtkbbjkiinpimiaaDoorP2
import Derived.RegionTactic
import Derived.BigRegion
namespace Go.Proofs.YtkbbjkiinpimiaaDoor
open Go.RowKit

theorem Pl.put {w : World} {p q : Nat} {B s : ByteArray} {a k : Nat} {l : Int} (h : Pl w p q (putB B a s k) l) (ha : a + k < B.size) (hk : k < s.size) :
    Pl (w.setCell ⟨q, a + k, none⟩ (.int .u8 ((s[k]'hk).toNat : Int))) p q (putB B a s (k + 1)) l := by
  refine ⟨h.ne, ?_, ?_⟩
  · rw [heap_setCell_other w _ p _ h.ne, h.head, size_putB (by omega) (by omega), size_putB (by omega) (by omega)]
  · rw [heap_setCell_same w q (a + k) _ _ _ h.row]
    unfold cellsB
    rw [putB_succ ha hk]
theorem Pl.bytes {w : World} {p q : Nat} {B s : ByteArray} {a k : Nat} {l : Int} (h : Pl w p q (putB B a s k) l) (ha : a + k ≤ B.size) (hk : k ≤ s.size) : w.cell? ⟨p, 0, none⟩ = some (.slice (some ⟨q, 0, none⟩) B.size B.size) := by
  rw [h.c0, size_putB ha hk]
theorem Pl.cq {w : World} {p q : Nat} {B : ByteArray} {j : Nat} {l : Int} (h : Pl w p q B l) (hj : j < B.size) : w.cell? ⟨q, j, none⟩ = some (.int .u8 ((B[j]'hj).toNat : Int)) := by
  rw [cell_of_row w q j _ _ _ h.row, cellsB_at hj]
theorem Pl.fq {w : World} {p q : Nat} {B : ByteArray} {l : Int} (h : Pl w p q B l) (j : Nat) : w.frozen? ⟨q, j, none⟩ = false := frozen_of_row w q j _ _ h.row

theorem pwrite_bound (A : Nat → Addr) (p q : Nat) (B s : ByteArray) (l a : Int) (w : World) (h : Pl w p q B l) (hE : HeldE w A) (hB : B.size ≤ 1000) (hs : s.size ≤ 1000) (hb : a < 0 ∨ (B.size : Int) - s.size < a) :
    Calls Tryd.prog 38 #[.pointer (some ⟨p, 0, none⟩), .int .i64 a, .string s] w fun e w' => e = .returned (.iface 107 (.pointer (some (A 1)))) ∧ w' = w := by
  have H := hid h
  have HE := hid hE
  clear h hE
  go_enter Tryd.func38, Tryd.ntmps38
  go_wp2_with (go_at_call 71; refine (pcheck_bound A p q B l _ _ _ H.out HE.out hB (by omega) (by omega)).mono ?_; rintro e w' ⟨rfl, rfl⟩)
  go_ret
  exact ⟨rfl, rfl⟩
theorem pwrite_off (A : Nat → Addr) (p q : Nat) (B s : ByteArray) (a : Int) (w : World) (h : Pl w p q B (-2)) (hE : HeldE w A) (hB : B.size ≤ 1000) (hs : s.size ≤ 1000) (hb : ¬ (a < 0 ∨ (B.size : Int) - s.size < a)) :
    Calls Tryd.prog 38 #[.pointer (some ⟨p, 0, none⟩), .int .i64 a, .string s] w fun e w' => e = .returned (.iface 107 (.pointer (some (A 5)))) ∧ w' = w := by
  have H := hid h
  have HE := hid hE
  clear h hE
  go_enter Tryd.func38, Tryd.ntmps38
  go_wp2_with (go_at_call 71; refine (pcheck_in A p q B _ _ _ _ H.out HE.out hB (by omega)).mono ?_; rw [if_pos rfl]; rintro e w' ⟨rfl, rfl⟩)
  go_ret
  exact ⟨rfl, rfl⟩

set_option maxHeartbeats 1000000 in
/-- No cut ahead: all is written. -/
theorem pwrite_free (A : Nat → Addr) (p q : Nat) (B s : ByteArray) (a : Nat) (l : Int) (w : World) (h : Pl w p q B l) (hE : HeldE w A) (hB : B.size ≤ 1000) (ha : a + s.size ≤ B.size) (hl : l < 0) (hl2 : ¬ l = -2) :
    Calls Tryd.prog 38 #[.pointer (some ⟨p, 0, none⟩), .int .i64 a, .string s] w fun e w' => e = .returned .nilIface ∧ Pl w' p q (putB B a s s.size) l ∧ Kept (In2 p q) w w' := by
  have H := hid h
  have HE := hid hE
  have HL := hid hl2
  clear h hE hl2
  go_enter Tryd.func38, Tryd.ntmps38
  go_wp2_with (go_at_call 71; refine (pcheck_in A p q B _ _ _ _ H.out HE.out hB (by omega)).mono ?_; rw [if_neg HL.out]; rintro e wx ⟨rfl, hx⟩; subst wx)
  go_loopw [19] (fun i wr => ∃ k : Nat, k ≤ s.size ∧ i = .int .i64 k ∧ Pl wr p q (putB B a s k) l ∧ Kept (In2 p q) w wr) (fun i _ => s.size - (intOf i).toNat)
  case atStart => exact ⟨0, Nat.zero_le _, rfl, by rw [putB_zero]; exact H.out, Kept.refl _ _⟩
  case round =>
    obtain ⟨k, hk, rfl, hP, hK⟩ := hrel
    have HP := hid hP
    have HK := hid hK
    clear hP hK
    by_cases hlt : k < s.size
    · have c0 := HP.out.bytes (by omega) (by omega)
      have cq := HP.out.cq (j := a + k) (by rw [size_putB (by omega) (by omega)]; omega)
      have fq := HP.out.fq (a + k)
      go_wp2_with (go_at_call 72; refine (pspend_neg p q _ l _ HP.out hl).mono ?_; rintro e wx ⟨rfl, hx⟩; subst wx)
      go_region
      all_goals go_wp2
      all_goals go_roundw
      case rel => exact ⟨k + 1, by omega, by go_num, (HP.out.put (by omega) hlt).drew, (HK.out.setCell (.inr rfl) _).drew⟩
      case measure => simp [intOf]; omega
    · obtain rfl : k = s.size := by omega
      go_wp2
      go_ret
      exact ⟨rfl, HP.out, HK.out⟩
end Go.Proofs.YtkbbjkiinpimiaaDoor
