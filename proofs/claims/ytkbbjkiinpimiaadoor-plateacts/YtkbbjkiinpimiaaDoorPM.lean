/-
  THE WALK of the law PlateActs, behind its first test.
-/
import Derived.Test.YtkbbjkiinpimiaaDoorPL
namespace Go.Proofs.YtkbbjkiinpimiaaDoor
open Go.RowKit

def NewIs (A : Nat → Addr) (n : Int) (w w' : World) (xv er : Value) : Prop :=
  ((n < 0 ∨ 512 < n) ∧ xv = .pointer none ∧ er = .iface 107 (.pointer (some (A 1)))) ∨
  (¬ (n < 0 ∨ 512 < n) ∧ xv = .pointer (some ⟨w.heap.size + 1, 0, none⟩) ∧ er = .nilIface ∧ Pl w' (w.heap.size + 1) w.heap.size (zeroB n.toNat) (-1))
theorem pnew_any (A : Nat → Addr) (n : Int) (w : World) (hE : HeldE w A) :
    Calls Tryd.prog 33 #[.int .i64 n] w fun e w' => ∃ xv er, e = .returned (.tuple #[xv, er]) ∧ NewIs A n w w' xv er ∧ Below w.heap.size w w' := by
  by_cases h : n < 0 ∨ 512 < n
  · refine (pnew_bound A n w hE h).mono ?_
    rintro e w' ⟨rfl, hb⟩
    exact ⟨_, _, rfl, .inl ⟨h, rfl, rfl⟩, hb⟩
  · obtain ⟨m, rfl⟩ : ∃ m : Nat, n = m := ⟨n.toNat, by omega⟩
    refine (pnew_ok m w (by omega)).mono ?_
    rintro e w' ⟨rfl, hP, hb, _⟩
    exact ⟨_, _, rfl, .inr ⟨h, rfl, rfl, by simpa using hP⟩, hb⟩

/-- 'string(make([]byte, n))'. -/
theorem conv_row {w : World} {q n : Nat} (h : w.heap[q]? = some (.cells (cellsB (zeroB n)) 5 (0, 0))) : (convert 54 9 (.slice (some ⟨q, 0, none⟩) n n)).run Tryd.prog w = .ok (.string (zeroB n)) w := by
  have := run_convert_bytes_back (P := Tryd.prog) w 54 9 5 ⟨q, 0, none⟩ n (zeroB n).data.toList Tryd.underlying54 Tryd.underlying5 Tryd.underlying9 (fun j hj => by
    rw [Addr.add_lit, cell_of_row _ q (0 + j) _ _ _ h, Nat.zero_add, cellsB_at hj, getB hj])
  rw [← size_list, zeroB_size] at this
  rw [this]
set_option maxRecDepth 100000 in
set_option maxHeartbeats 4000000 in
/-- Bytes beyond what a plate holds. -/
theorem acts_big (A : Nat → Addr) (s : ByteArray) (size : Int) (ad : Option Addr) (len cap : Nat) (w : World) (hE : Held9 w A) (hs : s.size ≤ 1000) (hl : len ≤ 60) (h : 512 < s.size) :
    Calls Tryd.prog 8 #[.string s, .int .i64 size, .slice ad len cap] w fun e w' => e = .returned (.bool true) ∧ Below w.heap.size w w' := by
  have HE := hid hE
  obtain ⟨bad, HB⟩ : ∃ bad : Bool, Hid (bad = decide (size < 0 ∨ 512 < size)) := ⟨_, rfl⟩
  clear hE
  go_enter Tryd.func8, Tryd.ntmps8
  go_upto_region 5 with (first | (go_at_call 32; refine (plated_any A _ HE.out.toE).mono ?_; rintro e w1 ⟨rfl, hb1⟩; have HE1 := hid (HE.out.later hb1)) | (go_at_call 33; refine (pnew_any A size _ HE1.out.toE).mono ?_; rintro e w2 ⟨xv, er, rfl, hN, hb2⟩; have HN := hid hN; have hB2 := hid (hb1.trans (hb2.mono hb1.size)); have HE2 := hid (HE.out.later hB2.out); clear hN))
  go_cut [51] from 17 (fun s51 wx => s51 = .bool bad ∧ w2 = wx)
  case first =>
    by_cases g1 : size < 0
    · go_wp2
      go_meet
      exact ⟨congrArg Value.bool (by rw [HB.out]; exact (decide_eq_true (Or.inl g1)).symm), rfl⟩
    · go_wp2
      go_meet
      exact ⟨congrArg Value.bool (by rw [HB.out]; exact decide_eq_decide.2 (by omega)), rfl⟩
  case rest =>
    obtain ⟨rfl, rfl⟩ := hcut
    go_upto_if 51 with fail
    go_cut [8] from 17 (fun s8 wx => s8 = xv ∧ Below w.heap.size w wx)
    case first =>
      rcases HN.out with ⟨g, rfl, rfl⟩ | ⟨g, rfl, rfl, hP⟩
      · have hbad : bad = true := by rw [HB.out]; simpa using g
        subst hbad
        go_wp2_with (go_at_call 17; refine (coded_ev A 2 _ HE2.out (by decide)).mono ?_; rintro e w3 ⟨rfl, hb3⟩)
        go_meet
        exact ⟨rfl, hB2.out.trans (hb3.mono hB2.out.size)⟩
      · have hbad : bad = false := by rw [HB.out]; simpa using g
        subst hbad
        obtain ⟨m, rfl⟩ : ∃ m : Nat, size = m := ⟨size.toNat, by omega⟩
        have HP : Hid (Pl w2 (w1.heap.size + 1) w1.heap.size (zeroB m) (-1)) := hid (by simpa using hP)
        have hmk := mkB m (by omega)
        have HP3 : Hid (∀ o, Pl (w2.alloc o) (w1.heap.size + 1) w1.heap.size (zeroB m) (-1)) := fun o => HP.out.kept (S := fun _ => False) (Kept.of_below ((Below.refl _ _).alloc (Nat.le_refl _) o)) (fun x => x) (fun x => x)
        have hcv := conv_row (w := w2.alloc (.cells (cellsB (zeroB m)) 5)) (heap_alloc_new w2 _)
        have hcv2 := conv_row (w := (w2.alloc (.cells (cellsB (zeroB m)) 5)).drew) (heap_alloc_new w2 _)
        have hzz : ((zeroB m).toList == (zeroB m).toList) = true := by simp
        clear hP
        go_wp2_with fail
        go_region_held (fun _ => True) (go_keep) ((go_at_call 34; refine (pbytes_any (w1.heap.size + 1) w1.heap.size (zeroB m) (-1) _ (by first | exact HP.out | exact HP.out.drew | exact (HP3.out _).drew | exact HP3.out _)).mono ?_; rintro e wx ⟨rfl, hx⟩; subst wx))
        all_goals go_wp2_with fail
        all_goals go_meet
        all_goals exact ⟨rfl, by first | exact (hB2.out.alloc hB2.out.size _).drew | exact hB2.out.alloc hB2.out.size _⟩
    case rest =>
      obtain ⟨rfl, hB3⟩ := hcut
      have HE3 := hid (HE.out.later hB3)
      go_wp2_with (first | (go_at_call 35; refine (pfrom_bound A s _ HE3.out.toE h (by omega)).mono ?_; rintro e w4 ⟨rfl, hb4⟩; have hB4 := hid (hB3.trans (hb4.mono hB3.size)); have HE4 := hid (HE.out.later hB4.out)) | (go_at_call 17; refine (coded_ev A 2 _ HE4.out (by decide)).mono ?_; rintro e w5 ⟨rfl, hb5⟩))
      go_ret
      exact ⟨rfl, hB4.out.trans (hb5.mono hB4.out.size)⟩
end Go.Proofs.YtkbbjkiinpimiaaDoor
