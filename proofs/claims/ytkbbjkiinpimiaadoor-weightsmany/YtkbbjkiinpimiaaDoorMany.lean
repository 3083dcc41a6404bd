/-
  THE WALK of the law WeightsMany: whatever weights, whatever number of times, whatever set: true; nothing that was there is written.
-/
import Derived.Test.YtkbbjkiinpimiaaDoorMeet
import Derived.Test.YtkbbjkiinpimiaaDoorPlain3
namespace Go.Proofs.YtkbbjkiinpimiaaDoor
open Go.RowKit

set_option maxRecDepth 100000 in
set_option maxHeartbeats 2000000 in
theorem many_short (A : Nat → Addr) (ad : Option Addr) (cap : Nat) (zs : List Int) (t s : Int) (w : World) (hE : Held3 w A) (hm : zs.length ≤ 9223372036854775807) (h : 30 < zs.length ∨ t < 1 ∨ 1000 < t) :
    Calls Tryd.prog 7 #[.slice ad zs.length cap, .int .i64 t, .int .i64 s] w fun e w' => e = .returned (.bool true) ∧ Below w.heap.size w w' := by
  have HE := hid hE
  clear hE
  by_cases hl : 30 < zs.length
  · clear h
    go_enter Tryd.func7, Tryd.ntmps7
    go_wp2_with (go_at_call 19; refine (heavier_any A _ HE.out).mono ?_; rintro e w1 ⟨rfl, hb1⟩)
    go_ret
    exact ⟨rfl, hb1⟩
  · by_cases h1 : t < 1
    · clear h
      go_enter Tryd.func7, Tryd.ntmps7
      go_wp2_with (go_at_call 19; refine (heavier_any A _ HE.out).mono ?_; rintro e w1 ⟨rfl, hb1⟩)
      go_ret
      exact ⟨rfl, hb1⟩
    · have h2 : 1000 < t := by omega
      clear h
      go_enter Tryd.func7, Tryd.ntmps7
      go_wp2_with (go_at_call 19; refine (heavier_any A _ HE.out).mono ?_; rintro e w1 ⟨rfl, hb1⟩)
      go_ret
      exact ⟨rfl, hb1⟩
set_option maxRecDepth 100000 in
set_option maxHeartbeats 2000000 in
theorem many_bad (A : Nat → Addr) (ad : Option Addr) (cap : Nat) (zs : List Int) (t s : Int) (w : World) (C0 : Cx w A (.slice ad zs.length cap) zs w) (hl : ¬ 30 < zs.length) (h1 : ¬ t < 1) (h2 : ¬ 1000 < t) (h : errS zs s ≠ 0) :
    Calls Tryd.prog 7 #[.slice ad zs.length cap, .int .i64 t, .int .i64 s] w fun e w' => e = .returned (.bool true) ∧ Below w.heap.size w w' := by
  obtain ⟨c, hc⟩ : ∃ c, errS zs s = c + 1 := ⟨errS zs s - 1, by omega⟩
  have HA := hid hc
  clear h hc
  go_enter Tryd.func7, Tryd.ntmps7
  go_wp2_with (go_at_call 19; refine (heavier_any A _ C0.2.2).mono ?_; rintro e w1 ⟨rfl, hb1⟩)
  refine (ownInts_any _ zs _ (C0.step hb1).2.1 (by omega)).mono ?_
  rintro e w2 ⟨v2, rfl, hs2, hb2⟩
  have C2 := (C0.step hb1).step hb2
  go_wp2_with fail
  refine (enough_bad A _ zs s _ _ hs2 C2.2.2 HA.out).mono ?_
  rintro e w3 ⟨rfl, rfl⟩
  go_wp2_with fail
  go_ret
  exact ⟨rfl, C2.1⟩

set_option maxRecDepth 100000 in
set_option maxHeartbeats 2000000 in
theorem many_ok (A : Nat → Addr) (b off cap : Nat) (zs : List Int) (t s : Int) (w : World) (C0 : Cx w A (.slice (some ⟨b, off, none⟩) zs.length cap) zs w)
    (hc : ∀ i, i < zs.length → w.cell? ⟨b, off + i, none⟩ = some (.int .i64 (zs.getD i 0))) (hl : zs.length ≤ 7) (h1 : 1 ≤ t) (h2 : t ≤ 1000) (h : errS zs s = 0) :
    Calls Tryd.prog 7 #[.slice (some ⟨b, off, none⟩) zs.length cap, .int .i64 t, .int .i64 s] w fun e w' => e = .returned (.bool true) ∧ Below w.heap.size w w' := by
  have HA := hid h
  have HC := hid hc
  obtain ⟨x, HX⟩ : ∃ x, Hid (enoughB zs s = x) := ⟨_, rfl⟩
  have hok : okTo zs zs.length := (errW_zero (errS_zero h).1).2.2.1
  clear h hc
  obtain ⟨i0, hi, hz0, hz1, hz2⟩ := info_parts Tryd.infoInt
  go_enter Tryd.func7, Tryd.ntmps7
  go_wp2_with (go_at_call 19; refine (heavier_any A _ C0.2.2).mono ?_; rintro e w1 ⟨rfl, hb1⟩)
  refine (ownInts_any _ zs _ (C0.step hb1).2.1 (by omega)).mono ?_
  rintro e w2 ⟨v2, rfl, hs2, hb2⟩
  have C2 := (C0.step hb1).step hb2
  clear hb1 hb2
  go_wp2_with fail
  refine (enough_is A _ zs s _ x hs2 C2.2.2 HA.out HX.out).mono ?_
  rintro e w3 ⟨rfl, hb3⟩
  have C3 := C2.step hb3
  clear C2 hb3 hs2 C0
  go_wp2_with fail
  go_loopw [10, 11] (fun v i wr => ∃ k : Nat, k ≤ zs.length ∧ i = .int .i64 k ∧ wr.ownsRow w3.heap.size 3 1 v k ((mulL t (zs.take k)).map (Value.int .i64)) ∧ (∀ j, j < k → zs.getD j 0 ≤ 1000 / t) ∧ Below w3.heap.size w3 wr)
    (fun _ i _ => zs.length - (intOf i).toNat)
  case atStart => exact ⟨0, Nat.zero_le _, rfl, World.ownsRow_nil _ _ _ _, (fun j hj => by omega), Below.refl _ _⟩
  case round =>
    obtain ⟨k, hk, rfl, hown, hle, hnx⟩ := hrel
    by_cases hlt : k < zs.length
    · have hz := hok k hlt
      have hck : wr.cell? ⟨b, off + k, none⟩ = some (.int .i64 (zs.getD k 0)) := cell_later hnx (cell_later C3.1 (HC.out k hlt))
      have HK := hid hown
      clear hown
      rw [getD_lt zs k hlt] at hz hck
      generalize hzk : zs[k] = z at hz hck
      have HZ := hid hzk
      clear hzk hok
      by_cases hq : 1000 / t < z
      · have hq1 : t ≠ 0 := by omega
        go_wp2
        go_quiet (fail)
        go_wp2
        go_ret
        exact ⟨rfl, below_drewN (below_trans C3.1 hnx) _⟩
      · have hq1 : t ≠ 0 := by omega
        have hq2 : z ≤ 1000 / t := by omega
        have hm0 : 0 ≤ t * z := Int.mul_nonneg (by omega) (by omega)
        have hm1 : t * z ≤ 1000 := Int.le_trans (Int.mul_le_mul_of_nonneg_left hq2 (by omega)) (Int.mul_ediv_self_le (by omega))
        go_wp2
        go_quiet (fail)
        go_wp2_with (at_builtin; refine wpList_append_own _ rfl (.tmp 54) (.tmp 61) 22 rfl w3.heap.size 3 i0 (.int .i64 0) 1 8 Tryd.underlying22 hi hz0 hz1 hz2 rfl (by decide) _ k _ rfl (by exact HK.out.alloc _) ⟨wr.heap.size, 0, none⟩ 1 1 [.int .i64 (t * z)] rfl rfl ?c1 ?c2 ?c3 ?c4 ?c5 ?_)
        case c1 =>
          intro j u hj
          match j, hj with
          | 0, hj => simp at hj; subst hj; rw [addr_add, World.cell?_alloc_at _ _ _ _ (show wr.heap.size = (wr.drewN nq).heap.size from rfl)]; rfl
        case c2 => intro u hu; simp at hu; subst hu; rfl
        case c3 => unfold maxLen; omega
        case c4 => omega
        case c5 => have := hnx.size; simp; omega
        · intro v' w4 hown' hgrow _
          have R : w4.ownsRow w3.heap.size 3 1 v' (k + 1) ((mulL t (zs.take (k + 1))).map (Value.int .i64)) := by
            rw [mulL_take_succ t zs k hlt, getD_lt zs k hlt, HZ.out, List.map_append]; exact hown'
          have hB : Below w3.heap.size w3 w4 := by
            refine Below.grown ?_ hgrow (by have := hnx.size; simp; omega) ?_
            · exact below_drewN (hnx.alloc hnx.size _) _
            · intro g hg
              rcases HK.out.2 with ⟨rfl, _⟩ | ⟨g', c', cur, rfl, hb', _⟩
              · cases hg
              · have : g' = g := by simpa [Value.ownBlock] using hg
                omega
          have hle' : ∀ j, j < k + 1 → zs.getD j 0 ≤ 1000 / t := by
            intro j hj
            rcases Nat.lt_succ_iff_lt_or_eq.1 hj with h' | h'
            · exact hle j h'
            · rw [h', getD_lt zs k hlt, HZ.out]; exact hq2
          clear hown' hgrow hle
          go_wp2
          go_roundw
          case rel => exact ⟨k + 1, by omega, by go_num, R, hle', hB⟩
          case measure => simp [intOf]; omega
    · have hke : k = zs.length := by omega
      subst hke
      have hs4 : IsSl wr _ (mulL t zs) := IsSl.owned (base := w3.heap.size) (by rw [mulL_length]; rw [List.take_length] at hown; exact hown) (by rw [mulL_length]; unfold maxLen; omega)
      have C4 := C3.step hnx
      have HL := hid hle
      clear hown hle hnx C3 hok
      by_cases h7 : zs.length = 7
      · have h7' : ((zs.length : Int) == 7) = true := beq_iff_eq.2 (by omega)
        have HH := hid h7
        clear h7
        go_wp2_with fail
        refine (enough_is A _ (mulL t zs) s _ x hs4 C4.2.2 (errS_mul h1 HA.out HL.out) ((enoughB_mul h1 s).trans HX.out)).mono ?_
        rintro e w5 ⟨rfl, hb5⟩
        go_wp2_with fail
        go_ret
        exact ⟨rfl, (C4.step hb5).1⟩
      · have h7' : ((zs.length : Int) == 7) = false := beq_eq_false_iff_ne.2 (by omega)
        have HH := hid h7
        clear h7
        go_wp2_with fail
        refine (enough_is A _ (mulL t zs) s _ x hs4 C4.2.2 (errS_mul h1 HA.out HL.out) ((enoughB_mul h1 s).trans HX.out)).mono ?_
        rintro e w5 ⟨rfl, hb5⟩
        have C5 := C4.step hb5
        clear hs4 C4 hb5
        go_wp2_with fail
        refine (ownInts_own _ zs _ C5.2.1 (by omega)).mono ?_
        rintro e w6 ⟨v6, rfl, ho6, hb6⟩
        have HO := hid ho6
        have h65 := hb6.size
        clear ho6
        go_wp2_with (at_builtin; refine wpList_append_own _ rfl (.tmp 81) (.tmp 82) 22 rfl w5.heap.size 3 i0 (.int .i64 0) 1 8 Tryd.underlying22 hi hz0 hz1 hz2 rfl (by decide) _ zs.length _ rfl (by exact HO.out.alloc _) ⟨w6.heap.size, 0, none⟩ 1 1 [.int .i64 0] rfl rfl ?c1 ?c2 ?c3 ?c4 ?c5 ?_)
        case c1 =>
          intro j u hj
          match j, hj with
          | 0, hj => simp at hj; subst hj; rw [addr_add, World.cell?_alloc_at _ _ _ _ rfl]; rfl
        case c2 => intro u hu; simp at hu; subst hu; rfl
        case c3 => unfold maxLen; omega
        case c4 => omega
        case c5 => simp; omega
        · intro v7 w7 hown' hgrow _
          have hs7 : IsSl w7 v7 (zs ++ [0]) := IsSl.owned (base := w5.heap.size) (by rw [List.length_append, List.map_append]; exact hown') (by rw [List.length_append]; unfold maxLen; simp; omega)
          have hB : Below w5.heap.size w6 w7 := by
            refine Below.grown ((Below.refl _ _).alloc h65 _) hgrow (by simp; omega) ?_
            intro g hg
            rcases HO.out.2 with ⟨rfl, _⟩ | ⟨g', c', cur, rfl, hb', _⟩
            · cases hg
            · have : g' = g := by simpa [Value.ownBlock] using hg
              omega
          have C7 := C5.step (hb6.trans hB)
          clear hown' hgrow
          go_wp2_with fail
          refine (enough_is A _ (zs ++ [0]) s _ x hs7 C7.2.2 (errS_snoc HA.out HH.out) ((enoughB_snoc zs s).trans HX.out)).mono ?_
          rintro e w8 ⟨rfl, hb8⟩
          go_wp2_with fail
          go_ret
          exact ⟨by simp, (C7.step hb8).1⟩

theorem many_any (A : Nat → Addr) (v : Value) (zs : List Int) (t s : Int) (w : World) (hv : IsSl w v zs) (hE : Held3 w A) :
    Calls Tryd.prog 7 #[v, .int .i64 t, .int .i64 s] w fun e w' => e = .returned (.bool true) ∧ Below w.heap.size w w' := by
  have C0 : Cx w A v zs w := ⟨Below.refl _ _, hv, hE⟩
  obtain ⟨ad, cap, rfl, hm, -, hc⟩ := hv
  unfold maxLen at hm
  by_cases h : 30 < zs.length ∨ t < 1 ∨ 1000 < t
  · exact many_short A ad cap zs t s w hE hm h
  · by_cases h0 : errS zs s = 0
    · obtain ⟨g1, g2, -, -⟩ := errW_zero (errS_zero h0).1
      obtain ⟨b, off, rfl, hcc⟩ := hc (by omega)
      exact many_ok A b off cap zs t s w C0 hcc g2 (by omega) (by omega) h0
    · exact many_bad A ad cap zs t s w C0 (by omega) (by omega) (by omega) h0
end Go.Proofs.YtkbbjkiinpimiaaDoor
