/-
  THE WALK of the law WeightsLeast: whatever weights: true; nothing that was there is written.
-/
import Derived.Test.YtkbbjkiinpimiaaDoorSets
import Derived.Test.YtkbbjkiinpimiaaDoorW9
namespace Go.Proofs.YtkbbjkiinpimiaaDoor
open Go.RowKit

set_option maxRecDepth 100000 in
set_option maxHeartbeats 2000000 in
theorem least_long (A : Nat → Addr) (ad : Option Addr) (cap : Nat) (zs : List Int) (w : World) (C0 : Cy w A (.slice ad zs.length cap) zs w) (hm : zs.length ≤ 9223372036854775807) (hl : 30 < zs.length) :
    Calls Tryd.prog 5 #[.slice ad zs.length cap] w fun e w' => e = .returned (.bool true) ∧ Below w.heap.size w w' := by
  go_enter Tryd.func5, Tryd.ntmps5
  go_wp2_with (go_at_call 19; refine (heavier_any A _ C0.nine.three).mono ?_; rintro e w1 ⟨rfl, hb1⟩)
  go_ret
  exact ⟨rfl, hb1⟩
set_option maxRecDepth 100000 in
set_option maxHeartbeats 2000000 in
theorem leastLaw_bad (A : Nat → Addr) (ad : Option Addr) (cap : Nat) (zs : List Int) (w : World) (C0 : Cy w A (.slice ad zs.length cap) zs w) (hl : ¬ 30 < zs.length) (c : Nat) (hW : errW zs = c + 1) :
    Calls Tryd.prog 5 #[.slice ad zs.length cap] w fun e w' => e = .returned (.bool true) ∧ Below w.heap.size w w' := by
  have hc4 : c < 4 := by have := errW_le zs; omega
  obtain ⟨n, hn⟩ : ∃ n : Int, n = (c : Int) + 1 := ⟨_, rfl⟩
  have hn0 : 0 < n := by omega
  have HW := hid hW
  have HN := hid hn
  have HWN : Hid ((errW zs : Int) = n) := by unfold Hid; rw [hW, hn]; rfl
  clear hW hn
  go_enter Tryd.func5, Tryd.ntmps5
  go_wp2_with (go_at_call 19; refine (heavier_any A _ C0.nine.three).mono ?_; rintro e w1 ⟨rfl, hb1⟩)
  have C1 := C0.step hb1
  clear hb1 C0
  refine (ownInts_any _ zs _ C1.sl (by omega)).mono ?_
  rintro e w2 ⟨v2, rfl, hs2, hb2⟩
  have C2 := C1.step hb2
  clear hb2 C1
  go_wp2_with fail
  refine (least_bad A _ zs c _ hs2 C2.nine.three HW.out).mono ?_
  rintro e wx ⟨rfl, hx⟩
  subst hx
  go_wp2_with fail
  refine (rErr_is _ zs n _ C2.sl HWN.out).mono ?_
  rintro e wy ⟨rfl, hy⟩
  subst hy
  go_wp2_with fail
  refine (coded_yes A c n _ C2.nine (by omega) HN.out).mono ?_
  rintro e w7 ⟨rfl, hb7⟩
  go_wp2_with fail
  go_ret
  exact ⟨rfl, (C2.step hb7).bel⟩
set_option maxRecDepth 100000 in
set_option maxHeartbeats 4000000 in
theorem leastLaw_ok (A : Nat → Addr) (b off cap : Nat) (zs : List Int) (w : World) (C0 : Cy w A (.slice (some ⟨b, off, none⟩) zs.length cap) zs w) (hl : ¬ 30 < zs.length) (hW : errW zs = 0)
    (hc : ∀ i, i < zs.length → w.cell? ⟨b, off + i, none⟩ = some (.int .i64 (zs.getD i 0))) :
    Calls Tryd.prog 5 #[.slice (some ⟨b, off, none⟩) zs.length cap] w fun e w' => e = .returned (.bool true) ∧ Below w.heap.size w w' := by
  obtain ⟨h4, h5, h6, -⟩ := errW_zero hW
  have hp := pow_le7 h5
  have hpn : Hid ((2 : Int) ^ zs.length = ((2 ^ zs.length : Nat) : Int)) := pow_nat _
  have hp2 : 1 ≤ 2 ^ zs.length ∧ 2 ^ zs.length ≤ 128 := by have := hpn.out; omega
  obtain ⟨i0, hi, hz0, hz1, hz2⟩ := info_parts Tryd.infoInt
  have HO := hid h6
  have HC := hid hc
  have HW := hid hW
  have HWN : Hid ((errW zs : Int) = 0) := by unfold Hid; rw [hW]; rfl
  clear hW h6 hc
  go_enter Tryd.func5, Tryd.ntmps5
  go_wp2_with (go_at_call 19; refine (heavier_any A _ C0.nine.three).mono ?_; rintro e w1 ⟨rfl, hb1⟩)
  have C1 := C0.step hb1
  clear hb1 C0
  refine (ownInts_any _ zs _ C1.sl (by omega)).mono ?_
  rintro e w2 ⟨v2, rfl, hs2, hb2⟩
  have C2 := C1.step hb2
  clear hb2 C1
  go_wp2_with fail
  refine (least_ok A _ zs _ hs2 C2.nine.three HW.out).mono ?_
  rintro e w3 ⟨v3, rfl, hs3, hb3⟩
  have C3 := C2.step hb3
  clear hb3 C2 hs2
  go_wp2_with fail
  refine (rErr_is _ zs 0 _ C3.sl HWN.out).mono ?_
  rintro e wy ⟨rfl, hy⟩
  subst hy
  go_wp2_with fail
  go_loopw [7, 8] (fun v i wr => ∃ k : Nat, 1 ≤ k ∧ k ≤ 2 ^ zs.length ∧ i = .int .i64 k ∧ wr.ownsRow wy.heap.size 3 1 v (leastTo zs k).length ((leastTo zs k).map (Value.int .i64)) ∧ Below wy.heap.size wy wr)
    (fun _ i _ => 2 ^ zs.length - (intOf i).toNat)
  case atStart => exact ⟨1, Nat.le_refl _, hp2.1, rfl, by simpa [leastTo] using World.ownsRow_nil _ _ _ _, Below.refl _ _⟩
  case round =>
    obtain ⟨k, hk1, hk, rfl, hown, hnx⟩ := hrel
    have HR := hid hown
    clear hown
    have HCr : Hid (∀ i, i < zs.length → wr.cell? ⟨b, off + i, none⟩ = some (.int .i64 (zs.getD i 0))) := fun i hi => cell_later (below_trans C3.bel hnx) (HC.out i hi)
    by_cases hlt : k < 2 ^ zs.length
    · have hle : (k : Int) < 2 ^ zs.length := by have := hpn.out; omega
      have hk128 : (k : Int) < 128 := by omega
      have hS : Hid (leastTo zs (k + 1) = leastTo zs k ++ if 1 ≤ k ∧ neededN zs k = k then [(k : Int)] else []) := rfl
      have hln := leastTo_length zs k
      by_cases hx : neededN zs k = k
      · have hS' : Hid (leastTo zs (k + 1) = leastTo zs k ++ [(k : Int)]) := by unfold Hid; rw [hS.out, if_pos ⟨hk1, hx⟩]
        have HX := hid hx
        clear hS hx
        go_wp2_with (first | (go_at_call 31; refine (two_any zs.length _ (by omega)).mono ?_; rintro e w' ⟨rfl, rfl⟩) | (go_at_call 29; refine (rNeeded_is b off cap zs k k _ h5 HO.out (by omega) (by omega) HCr.out HX.out).mono ?_; rintro e w' ⟨rfl, rfl⟩) | (at_builtin; refine wpList_append_own _ rfl (.tmp 48) (.tmp 50) 22 rfl wy.heap.size 3 i0 (.int .i64 0) 1 8 Tryd.underlying22 hi hz0 hz1 hz2 rfl (by decide) _ (leastTo zs k).length _ rfl (by exact HR.out.alloc _) ⟨_, 0, none⟩ 1 1 [.int .i64 k] rfl rfl ?c1 ?c2 ?c3 ?c4 ?c5 ?_))
        case c1 =>
          intro j u hj
          match j, hj with
          | 0, hj => simp at hj; subst hj; rw [addr_add, World.cell?_alloc_at _ _ _ _ rfl]; rfl
        case c2 => intro u hu; simp at hu; subst hu; rfl
        case c3 => unfold maxLen; omega
        case c4 => omega
        case c5 => have := hnx.size; simp; omega
        · intro v' w4 hown' hgrow _
          have R : w4.ownsRow wy.heap.size 3 1 v' (leastTo zs (k + 1)).length ((leastTo zs (k + 1)).map (Value.int .i64)) := by
            rw [hS'.out, List.length_append, List.map_append]; exact hown'
          have hB : Below wy.heap.size wy w4 := grown_below hnx hnx.size ((Below.refl _ _).alloc (Nat.le_refl _) _) HR.out hgrow
          clear hown' hgrow
          go_wp2
          go_roundw
          case rel => exact ⟨k + 1, by omega, by omega, by go_num, R, hB⟩
          case measure => simp [intOf]; omega
      · have hS' : Hid (leastTo zs (k + 1) = leastTo zs k) := by unfold Hid; rw [hS.out, if_neg (fun h => hx h.2)]; simp
        have hx' : (neededN zs k == (k : Int)) = false := beq_eq_false_iff_ne.2 hx
        clear hS hx
        go_wp2_with (first | (go_at_call 31; refine (two_any zs.length _ (by omega)).mono ?_; rintro e w' ⟨rfl, rfl⟩) | (go_at_call 29; refine (rNeeded_any b off cap zs k _ h5 HO.out (by omega) (by omega) HCr.out).mono ?_; rintro e w' ⟨rfl, rfl⟩))
        go_roundw
        case rel => exact ⟨k + 1, by omega, by omega, by go_num, by rw [hS'.out]; exact HR.out, hnx⟩
        case measure => simp [intOf]; omega
    · have hke : k = 2 ^ zs.length := by omega
      have hgt : ¬ (k : Int) < 2 ^ zs.length := by have := hpn.out; omega
      have hln := leastTo_length zs k
      have hs : IsSl wr _ (leastTo zs k) := IsSl.owned HR.out (by unfold maxLen; omega)
      rw [← hke] at hs3
      have HS := hid hs
      have HS3 := hid (hs3.later hnx)
      clear hs hs3 hke
      go_wp2_with (first | (go_at_call 31; refine (two_any zs.length _ (by omega)).mono ?_; rintro e w' ⟨rfl, rfl⟩) | (go_at_call 15; refine (same_any _ _ (leastTo zs k) _ HS3.out HS.out (by omega)).mono ?_; rintro e w5 ⟨rfl, hb5⟩))
      go_ret
      exact ⟨rfl, below_trans (below_trans C3.bel hnx) hb5⟩

theorem leastLaw_any (A : Nat → Addr) (v : Value) (zs : List Int) (w : World) (hv : IsSl w v zs) (hE : Held9 w A) :
    Calls Tryd.prog 5 #[v] w fun e w' => e = .returned (.bool true) ∧ Below w.heap.size w w' := by
  have C0 : Cy w A v zs w := ⟨Below.refl _ _, hv, hE⟩
  obtain ⟨ad, cap, rfl, hm, -, hc⟩ := hv
  unfold maxLen at hm
  by_cases hl : 30 < zs.length
  · exact least_long A ad cap zs w C0 hm hl
  · by_cases hW : errW zs = 0
    · obtain ⟨b, off, rfl, hcc⟩ := hc (by have := (errW_zero hW).1; omega)
      exact leastLaw_ok A b off cap zs w C0 hl hW hcc
    · exact leastLaw_bad A ad cap zs w C0 hl (errW zs - 1) (by omega)
end Go.Proofs.YtkbbjkiinpimiaaDoor
