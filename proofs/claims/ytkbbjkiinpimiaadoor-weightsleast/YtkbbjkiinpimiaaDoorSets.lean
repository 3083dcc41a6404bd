/-
  THE WALK of the law WeightsSets: whatever weights, whatever set: true; nothing that was there is written.
-/
import Derived.Test.YtkbbjkiinpimiaaDoorW8
import Derived.Test.YtkbbjkiinpimiaaDoorWR
import Derived.Test.YtkbbjkiinpimiaaDoorCode
import Derived.Test.YtkbbjkiinpimiaaDoorMeet
namespace Go.Proofs.YtkbbjkiinpimiaaDoor
open Go.RowKit

theorem Held9.three {w : World} {A : Nat → Addr} (h : Held9 w A) : Held3 w A := fun i h1 h3 => by
  have hi : i = 1 ∨ i = 2 ∨ i = 3 := by omega
  rcases hi with rfl | rfl | rfl
  · exact h.var 1 (by decide)
  · exact h.var 2 (by decide)
  · exact h.var 3 (by decide)
/-- What stands all along a law's walk: nothing old has turned; the argument; the errors. -/
structure Cy (w0 : World) (A : Nat → Addr) (v : Value) (zs : List Int) (w : World) : Prop where
  bel : Below w0.heap.size w0 w
  sl : IsSl w v zs
  nine : Held9 w A
theorem Cy.step {w0 w w' : World} {A : Nat → Addr} {v : Value} {zs : List Int} (h : Cy w0 A v zs w) (hb : Below w.heap.size w w') : Cy w0 A v zs w' :=
  ⟨below_trans h.bel hb, h.sl.later hb, h.nine.later hb⟩

theorem coded_yes (A : Nat → Addr) (c : Nat) (n : Int) (w : World) (hE : Held9 w A) (hc : c < 9) (hn : n = (c : Int) + 1) :
    Calls Tryd.prog 17 #[.iface 107 (.pointer (some (A c))), .int .i64 n] w fun e w' => e = .returned (.bool true) ∧ Below w.heap.size w w' := by
  have h := coded_at A c n w hE hc
  rw [show ((c : Int) + 1 == n) = true by rw [hn]; simp] at h
  exact h
theorem coded_ok (w : World) : Calls Tryd.prog 17 #[.nilIface, .int .i64 0] w fun e w' => e = .returned (.bool true) ∧ w' = w := coded_nil 0 w
theorem rErr_is (v : Value) (zs : List Int) (n : Int) (w : World) (hv : IsSl w v zs) (hn : (errW zs : Int) = n) :
    Calls Tryd.prog 25 #[v] w fun e w' => e = .returned (.int .i64 n) ∧ w' = w := by
  subst hn; exact rErr_any v zs w hv
theorem rSetErr_is (v : Value) (zs : List Int) (s n : Int) (w : World) (hv : IsSl w v zs) (hn : (errS zs s : Int) = n) :
    Calls Tryd.prog 26 #[v, .int .i64 s] w fun e w' => e = .returned (.int .i64 n) ∧ w' = w := by
  subst hn; exact rSetErr_any v zs s w hv
theorem check_bad (A : Nat → Addr) (v : Value) (zs : List Int) (c : Nat) (w : World) (hv : IsSl w v zs) (hE : Held3 w A) (hc : errW zs = c + 1) :
    Calls Tryd.prog 24 #[v] w fun e w' => e = .returned (.iface 107 (.pointer (some (A c)))) ∧ w' = w := by
  have h := check_any A v zs w hv hE
  rw [hc] at h
  exact h
theorem check_ok (A : Nat → Addr) (v : Value) (zs : List Int) (w : World) (hv : IsSl w v zs) (hE : Held3 w A) (hc : errW zs = 0) :
    Calls Tryd.prog 24 #[v] w fun e w' => e = .returned .nilIface ∧ w' = w := by
  have h := check_any A v zs w hv hE
  rw [hc] at h
  exact h
theorem errW_le (zs : List Int) : errW zs ≤ 4 := by
  unfold errW; split
  · decide
  · split
    · split <;> decide
    · decide
theorem errS_le (zs : List Int) (s : Int) : errS zs s ≤ 4 := by
  unfold errS; split
  · split <;> decide
  · exact errW_le zs
theorem errS_of_errW {zs : List Int} {s : Int} {c : Nat} (h : errW zs = c + 1) : errS zs s = c + 1 := by
  unfold errS; rw [if_neg (by omega)]; exact h

theorem wsum_is (A : Nat → Addr) (v : Value) (zs : List Int) (set x : Int) (w : World) (hv : IsSl w v zs) (hE : Held3 w A) (hc : errS zs set = 0) (hx : sumTo zs set zs.length = x) :
    Calls Tryd.prog 20 #[v, .int .i64 set] w fun e w' => e = .returned (.tuple #[.int .i64 x, .nilIface]) ∧ Below w.heap.size w w' := by
  subst hx; exact wsum_ok A v zs set w hv hE hc
theorem wneeded_is (A : Nat → Addr) (v : Value) (zs : List Int) (set x : Int) (w : World) (hv : IsSl w v zs) (hE : Held3 w A) (hc : errS zs set = 0) (hx : neededN zs set = x) :
    Calls Tryd.prog 23 #[v, .int .i64 set] w fun e w' => e = .returned (.tuple #[.int .i64 x, .nilIface]) ∧ Below w.heap.size w w' := by
  subst hx; exact wneeded_ok A v zs set w hv hE hc
theorem rSum_is (b off cap : Nat) (zs : List Int) (s x : Int) (w : World) (hl : zs.length ≤ 7) (hok : okTo zs zs.length) (h0 : 0 ≤ s) (h1 : s ≤ 1073741824)
    (hc : ∀ i, i < zs.length → w.cell? ⟨b, off + i, none⟩ = some (.int .i64 (zs.getD i 0))) (hx : sumTo zs s zs.length = x) :
    Calls Tryd.prog 27 #[.slice (some ⟨b, off, none⟩) zs.length cap, .int .i64 s] w fun e w' => e = .returned (.int .i64 x) ∧ w' = w := by
  subst hx; exact rSum_any b off cap zs s w hl hok h0 h1 hc
theorem rNeeded_is (b off cap : Nat) (zs : List Int) (s x : Int) (w : World) (hl : zs.length ≤ 7) (hok : okTo zs zs.length) (h0 : 0 ≤ s) (h1 : s < 2 ^ zs.length)
    (hc : ∀ i, i < zs.length → w.cell? ⟨b, off + i, none⟩ = some (.int .i64 (zs.getD i 0))) (hx : neededN zs s = x) :
    Calls Tryd.prog 29 #[.slice (some ⟨b, off, none⟩) zs.length cap, .int .i64 s] w fun e w' => e = .returned (.int .i64 x) ∧ w' = w := by
  subst hx; exact rNeeded_any b off cap zs s w hl hok h0 h1 hc

set_option maxRecDepth 100000 in
set_option maxHeartbeats 4000000 in
theorem sets_long (A : Nat → Addr) (ad : Option Addr) (cap : Nat) (zs : List Int) (s : Int) (w : World) (C0 : Cy w A (.slice ad zs.length cap) zs w) (hm : zs.length ≤ 9223372036854775807) (hl : 30 < zs.length) :
    Calls Tryd.prog 4 #[.slice ad zs.length cap, .int .i64 s] w fun e w' => e = .returned (.bool true) ∧ Below w.heap.size w w' := by
  go_enter Tryd.func4, Tryd.ntmps4
  go_wp2_with (go_at_call 19; refine (heavier_any A _ C0.nine.three).mono ?_; rintro e w1 ⟨rfl, hb1⟩)
  go_ret
  exact ⟨rfl, hb1⟩

set_option maxRecDepth 100000 in
set_option maxHeartbeats 4000000 in
theorem sets_bad (A : Nat → Addr) (ad : Option Addr) (cap : Nat) (zs : List Int) (s : Int) (w : World) (C0 : Cy w A (.slice ad zs.length cap) zs w) (hl : ¬ 30 < zs.length) (c : Nat) (hW : errW zs = c + 1) :
    Calls Tryd.prog 4 #[.slice ad zs.length cap, .int .i64 s] w fun e w' => e = .returned (.bool true) ∧ Below w.heap.size w w' := by
  have hc4 : c < 4 := by have := errW_le zs; omega
  obtain ⟨n, hn⟩ : ∃ n : Int, n = (c : Int) + 1 := ⟨_, rfl⟩
  have hn0 : 0 < n := by omega
  have HW := hid hW
  have HS := hid (errS_of_errW (s := s) hW)
  have HN := hid hn
  have HWN : Hid ((errW zs : Int) = n) := by unfold Hid; rw [hW, hn]; rfl
  have HSN : Hid ((errS zs s : Int) = n) := by unfold Hid; rw [errS_of_errW hW, hn]; rfl
  clear hW hn
  go_enter Tryd.func4, Tryd.ntmps4
  go_wp2_with (go_at_call 19; refine (heavier_any A _ C0.nine.three).mono ?_; rintro e w1 ⟨rfl, hb1⟩)
  have C1 := C0.step hb1
  clear hb1 C0
  refine (ownInts_any _ zs _ C1.sl (by omega)).mono ?_
  rintro e w2 ⟨v2, rfl, hs2, hb2⟩
  have C2 := C1.step hb2
  clear hb2 C1
  go_wp2_with fail
  refine (wsum_bad A _ zs s _ _ hs2 C2.nine.three HS.out).mono ?_
  rintro e wx ⟨rfl, hx⟩
  subst hx
  go_wp2_with fail
  refine (ownInts_any _ zs _ C2.sl (by omega)).mono ?_
  rintro e w3 ⟨v3, rfl, hs3, hb3⟩
  have C3 := C2.step hb3
  clear hb3 C2
  go_wp2_with fail
  refine (enough_bad A _ zs s _ _ hs3 C3.nine.three HS.out).mono ?_
  rintro e wx ⟨rfl, hx⟩
  subst hx
  go_wp2_with fail
  refine (ownInts_any _ zs _ C3.sl (by omega)).mono ?_
  rintro e w4 ⟨v4, rfl, hs4, hb4⟩
  have C4 := C3.step hb4
  clear hb4 C3
  go_wp2_with fail
  refine (wneeded_bad A _ zs s _ _ hs4 C4.nine.three HS.out).mono ?_
  rintro e wx ⟨rfl, hx⟩
  subst hx
  go_wp2_with fail
  refine (ownInts_any _ zs _ C4.sl (by omega)).mono ?_
  rintro e w5 ⟨v5, rfl, hs5, hb5⟩
  have C5 := C4.step hb5
  clear hb5 C4
  go_wp2_with fail
  refine (check_bad A _ zs _ _ hs5 C5.nine.three HW.out).mono ?_
  rintro e wx ⟨rfl, hx⟩
  subst hx
  go_wp2_with fail
  refine (rErr_is _ zs n _ C5.sl HWN.out).mono ?_
  rintro e wx ⟨rfl, hx⟩
  subst hx
  go_wp2_with fail
  refine (coded_yes A c n _ C5.nine (by omega) HN.out).mono ?_
  rintro e w6 ⟨rfl, hb6⟩
  have C6 := C5.step hb6
  clear hb6 C5 
  go_wp2_with fail
  refine (rSetErr_is _ zs s n _ C6.sl HSN.out).mono ?_
  rintro e wx ⟨rfl, hx⟩
  subst hx
  go_wp2_with fail
  refine (coded_yes A c n _ C6.nine (by omega) HN.out).mono ?_
  rintro e w7 ⟨rfl, hb7⟩
  have C7 := C6.step hb7
  clear hb7 C6 
  go_wp2_with fail
  refine (coded_yes A c n _ C7.nine (by omega) HN.out).mono ?_
  rintro e w8 ⟨rfl, hb8⟩
  have C8 := C7.step hb8
  clear hb8 C7 
  go_wp2_with fail
  refine (coded_yes A c n _ C8.nine (by omega) HN.out).mono ?_
  rintro e w9 ⟨rfl, hb9⟩
  have C9 := C8.step hb9
  clear hb9 C8 
  go_wp2_with fail
  go_ret
  exact ⟨rfl, C9.bel⟩

set_option maxRecDepth 100000 in
set_option maxHeartbeats 4000000 in
theorem sets_set (A : Nat → Addr) (ad : Option Addr) (cap : Nat) (zs : List Int) (s : Int) (w : World) (C0 : Cy w A (.slice ad zs.length cap) zs w) (hl : ¬ 30 < zs.length) (c : Nat) (hW : errW zs = 0) (hS : errS zs s = c + 1) :
    Calls Tryd.prog 4 #[.slice ad zs.length cap, .int .i64 s] w fun e w' => e = .returned (.bool true) ∧ Below w.heap.size w w' := by
  have hc4 : c < 4 := by have := errS_le zs s; omega
  obtain ⟨n, hn⟩ : ∃ n : Int, n = (c : Int) + 1 := ⟨_, rfl⟩
  have hn0 : 0 < n := by omega
  have HW := hid hW
  have HS := hid hS
  have HN := hid hn
  have HWN : Hid ((errW zs : Int) = 0) := by unfold Hid; rw [hW]; rfl
  have HSN : Hid ((errS zs s : Int) = n) := by unfold Hid; rw [hS, hn]; rfl
  clear hW hS hn
  go_enter Tryd.func4, Tryd.ntmps4
  go_wp2_with (go_at_call 19; refine (heavier_any A _ C0.nine.three).mono ?_; rintro e w1 ⟨rfl, hb1⟩)
  have C1 := C0.step hb1
  clear hb1 C0
  refine (ownInts_any _ zs _ C1.sl (by omega)).mono ?_
  rintro e w2 ⟨v2, rfl, hs2, hb2⟩
  have C2 := C1.step hb2
  clear hb2 C1
  go_wp2_with fail
  refine (wsum_bad A _ zs s _ _ hs2 C2.nine.three HS.out).mono ?_
  rintro e wx ⟨rfl, hx⟩
  subst hx
  go_wp2_with fail
  refine (ownInts_any _ zs _ C2.sl (by omega)).mono ?_
  rintro e w3 ⟨v3, rfl, hs3, hb3⟩
  have C3 := C2.step hb3
  clear hb3 C2
  go_wp2_with fail
  refine (enough_bad A _ zs s _ _ hs3 C3.nine.three HS.out).mono ?_
  rintro e wx ⟨rfl, hx⟩
  subst hx
  go_wp2_with fail
  refine (ownInts_any _ zs _ C3.sl (by omega)).mono ?_
  rintro e w4 ⟨v4, rfl, hs4, hb4⟩
  have C4 := C3.step hb4
  clear hb4 C3
  go_wp2_with fail
  refine (wneeded_bad A _ zs s _ _ hs4 C4.nine.three HS.out).mono ?_
  rintro e wx ⟨rfl, hx⟩
  subst hx
  go_wp2_with fail
  refine (ownInts_any _ zs _ C4.sl (by omega)).mono ?_
  rintro e w5 ⟨v5, rfl, hs5, hb5⟩
  have C5 := C4.step hb5
  clear hb5 C4
  go_wp2_with fail
  refine (check_ok A _ zs _ hs5 C5.nine.three HW.out).mono ?_
  rintro e wx ⟨rfl, hx⟩
  subst hx
  go_wp2_with fail
  refine (rErr_is _ zs 0 _ C5.sl HWN.out).mono ?_
  rintro e wx ⟨rfl, hx⟩
  subst hx
  go_wp2_with fail
  refine (coded_ok _).mono ?_
  rintro e wx ⟨rfl, hx⟩
  subst hx
  go_wp2_with fail
  refine (rSetErr_is _ zs s n _ C5.sl HSN.out).mono ?_
  rintro e wx ⟨rfl, hx⟩
  subst hx
  go_wp2_with fail
  refine (coded_yes A c n _ C5.nine (by omega) HN.out).mono ?_
  rintro e w7 ⟨rfl, hb7⟩
  have C7 := C5.step hb7
  clear hb7 C5 
  go_wp2_with fail
  refine (coded_yes A c n _ C7.nine (by omega) HN.out).mono ?_
  rintro e w8 ⟨rfl, hb8⟩
  have C8 := C7.step hb8
  clear hb8 C7 
  go_wp2_with fail
  refine (coded_yes A c n _ C8.nine (by omega) HN.out).mono ?_
  rintro e w9 ⟨rfl, hb9⟩
  have C9 := C8.step hb9
  clear hb9 C8 
  go_wp2_with fail
  go_ret
  exact ⟨rfl, C9.bel⟩

set_option maxRecDepth 100000 in
set_option maxHeartbeats 4000000 in
theorem sets_ok (A : Nat → Addr) (b off cap : Nat) (zs : List Int) (s : Int) (w : World) (C0 : Cy w A (.slice (some ⟨b, off, none⟩) zs.length cap) zs w) (hl : ¬ 30 < zs.length) (hS : errS zs s = 0) (hc : ∀ i, i < zs.length → w.cell? ⟨b, off + i, none⟩ = some (.int .i64 (zs.getD i 0))) :
    Calls Tryd.prog 4 #[.slice (some ⟨b, off, none⟩) zs.length cap, .int .i64 s] w fun e w' => e = .returned (.bool true) ∧ Below w.heap.size w w' := by
  obtain ⟨g1, g2, g3⟩ := errS_zero hS
  obtain ⟨g4, g5, g6, -⟩ := errW_zero g1
  have hp := pow_le7 g5
  have HO := hid g6
  have HC := hid hc
  have HW := hid g1
  have HS := hid hS
  have HWN : Hid ((errW zs : Int) = 0) := by unfold Hid; rw [g1]; rfl
  have HSN : Hid ((errS zs s : Int) = 0) := by unfold Hid; rw [hS]; rfl
  obtain ⟨x, HX⟩ : ∃ x, Hid (sumTo zs s zs.length = x) := ⟨_, rfl⟩
  obtain ⟨y, HY⟩ : ∃ y, Hid (enoughB zs s = y) := ⟨_, rfl⟩
  obtain ⟨z, HZ⟩ : ∃ z, Hid (neededN zs s = z) := ⟨_, rfl⟩
  have hxx : (x == x) = true := by simp
  have hyy : (y == y) = true := by simp
  have hzz : (z == z) = true := by simp
  clear g1 hS hc g6
  go_enter Tryd.func4, Tryd.ntmps4
  go_wp2_with (go_at_call 19; refine (heavier_any A _ C0.nine.three).mono ?_; rintro e w1 ⟨rfl, hb1⟩)
  have C1 := C0.step hb1
  clear hb1 C0
  refine (ownInts_any _ zs _ C1.sl (by omega)).mono ?_
  rintro e w2 ⟨v2, rfl, hs2, hb2⟩
  have C2 := C1.step hb2
  clear hb2 C1
  go_wp2_with fail
  refine (wsum_is A _ zs s x _ hs2 C2.nine.three HS.out HX.out).mono ?_
  rintro e w3 ⟨rfl, hb3⟩
  have C3 := C2.step hb3
  clear hb3 C2 hs2
  go_wp2_with fail
  refine (ownInts_any _ zs _ C3.sl (by omega)).mono ?_
  rintro e w4 ⟨v4, rfl, hs4, hb4⟩
  have C4 := C3.step hb4
  clear hb4 C3
  go_wp2_with fail
  refine (enough_is A _ zs s _ y hs4 C4.nine.three HS.out HY.out).mono ?_
  rintro e w5 ⟨rfl, hb5⟩
  have C5 := C4.step hb5
  clear hb5 C4 hs4
  go_wp2_with fail
  refine (ownInts_any _ zs _ C5.sl (by omega)).mono ?_
  rintro e w6 ⟨v6, rfl, hs6, hb6⟩
  have C6 := C5.step hb6
  clear hb6 C5
  go_wp2_with fail
  refine (wneeded_is A _ zs s z _ hs6 C6.nine.three HS.out HZ.out).mono ?_
  rintro e w7 ⟨rfl, hb7⟩
  have C7 := C6.step hb7
  clear hb7 C6 hs6
  go_wp2_with fail
  refine (ownInts_any _ zs _ C7.sl (by omega)).mono ?_
  rintro e w8 ⟨v8, rfl, hs8, hb8⟩
  have C8 := C7.step hb8
  have HC8 : Hid (∀ i, i < zs.length → w8.cell? ⟨b, off + i, none⟩ = some (.int .i64 (zs.getD i 0))) := fun i hi => cell_later C8.bel (HC.out i hi)
  clear hb8 C7
  go_wp2_with fail
  refine (check_ok A _ zs _ hs8 C8.nine.three HW.out).mono ?_
  rintro e wx ⟨rfl, hx⟩
  subst hx
  go_wp2_with fail
  refine (rErr_is _ zs 0 _ C8.sl HWN.out).mono ?_
  rintro e wx ⟨rfl, hx⟩
  subst hx
  go_wp2_with fail
  refine (coded_ok _).mono ?_
  rintro e wx ⟨rfl, hx⟩
  subst hx
  go_wp2_with fail
  refine (rSetErr_is _ zs s 0 _ C8.sl HSN.out).mono ?_
  rintro e wx ⟨rfl, hx⟩
  subst hx
  go_wp2_with fail
  refine (rSum_is b off cap zs s x _ g5 HO.out g2 (by omega) HC8.out HX.out).mono ?_
  rintro e wx ⟨rfl, hx⟩
  subst hx
  go_wp2_with fail
  refine (rEnough_is b off cap zs s y _ g5 HO.out g2 (by omega) HC8.out HY.out).mono ?_
  rintro e wx ⟨rfl, hx⟩
  subst hx
  go_wp2_with fail
  refine (rNeeded_is b off cap zs s z _ g5 HO.out g2 g3 HC8.out HZ.out).mono ?_
  rintro e wx ⟨rfl, hx⟩
  subst hx
  go_wp2_with fail
  go_ret
  exact ⟨rfl, C8.bel⟩

theorem sets_any (A : Nat → Addr) (v : Value) (zs : List Int) (s : Int) (w : World) (hv : IsSl w v zs) (hE : Held9 w A) :
    Calls Tryd.prog 4 #[v, .int .i64 s] w fun e w' => e = .returned (.bool true) ∧ Below w.heap.size w w' := by
  have C0 : Cy w A v zs w := ⟨Below.refl _ _, hv, hE⟩
  obtain ⟨ad, cap, rfl, hm, -, hc⟩ := hv
  unfold maxLen at hm
  by_cases hl : 30 < zs.length
  · exact sets_long A ad cap zs s w C0 hm hl
  · by_cases hW : errW zs = 0
    · by_cases hS : errS zs s = 0
      · obtain ⟨b, off, rfl, hcc⟩ := hc (by have := (errW_zero hW).1; omega)
        exact sets_ok A b off cap zs s w C0 hl hS hcc
      · exact sets_set A ad cap zs s w C0 hl (errS zs s - 1) hW (by omega)
    · exact sets_bad A ad cap zs s w C0 hl (errW zs - 1) (by omega)
end Go.Proofs.YtkbbjkiinpimiaaDoor
