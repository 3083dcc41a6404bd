/-
  On the way to JTampersProof: GU.
-/
import Derived.Test.YtadhpkopkkjmfaaGreatDoorBz67
import Derived.Test.YtadhpkopkkjmfaaGreatDoorBz25
import Derived.Test.YtadhpkopkkjmfaaGreatDoorBz31
set_option maxHeartbeats 8000000
set_option maxRecDepth 100000
namespace Go.Proofs.YtadhpkopkkjmfaaGreatDoor
open Go.RowKit
theorem pairL_zero (L : List E3) (k : Nat) : ¬ pairL L k 0 := fun ⟨_, _, _, h, _⟩ => absurd h (Nat.not_lt_zero _)
theorem pairL_succ {L : List E3} {k i : Nat} (hi : i < L.length) (hk : k < L.length) : pairL L k (i + 1) ↔ pairL L k i ∨ (i ≠ k ∧ (L[i]'hi).d = (L[k]'hk).d) := by
  constructor
  · rintro ⟨j, h1, h2, h3, h4, h5⟩
    rcases Nat.lt_succ_iff_lt_or_eq.1 h3 with g | rfl
    · exact .inl ⟨j, h1, h2, g, h4, h5⟩
    · exact .inr ⟨h4, h5⟩
  · rintro (⟨j, h1, h2, h3, h4, h5⟩ | ⟨h4, h5⟩)
    · exact ⟨j, h1, h2, by omega, h4, h5⟩
    · exact ⟨i, hi, hk, by omega, h4, h5⟩
theorem EL.tamp {w : World} {g k : Nat} {cur : Array Value} {L : List E3} (hg : w.heap[g]? = some (.cells cur 75 (0, 0))) (h : EL w (some ⟨g, 0, none⟩) L) (hk : k < L.length) (hs : L.length * 3 ≤ cur.size) :
    EL (w.setCell ⟨g, k * 3 + 2, none⟩ (.int .i64 (5 - (L[k]'hk).p))) (some ⟨g, 0, none⟩) (tampL L k) := by
  intro i hi
  have hi' : i < L.length := by rw [tampL_length] at hi; exact hi
  obtain ⟨b, off, e, h0, h1, h2⟩ := h i hi'
  obtain ⟨rfl, rfl⟩ : b = g ∧ off = 0 := by
    have := Option.some.inj e
    injection this with e1 e2
    exact ⟨e1.symm, e2.symm⟩
  have hr := heap_setCell_same w b (k * 3 + 2) _ _ (.int .i64 (5 - (L[k]'hk).p)) hg
  rw [cell_of_row _ _ _ _ _ _ hg] at h0 h1 h2
  have hgt := tampL_get L k i hi
  refine ⟨b, 0, rfl, ?_, ?_, ?_⟩
  · rw [cell_of_row _ _ _ _ _ _ hr, Array.getElem?_setIfInBounds_ne (by omega), h0, hgt]
    split <;> rfl
  · rw [cell_of_row _ _ _ _ _ _ hr, Array.getElem?_setIfInBounds_ne (by omega), h1, hgt]
    split <;> rfl
  · rw [cell_of_row _ _ _ _ _ _ hr, hgt]
    by_cases e : k = i
    · subst e
      rw [if_pos rfl, Nat.zero_add, Array.getElem?_setIfInBounds_self_of_lt (by omega)]
      rfl
    · rw [if_neg e, Array.getElem?_setIfInBounds_ne (by omega), h2]
theorem jtampers_any (A : Nat → Addr) (v u : Value) (zs vs : List Int) (x : Int) (w : World) (hE : Held9 w A) (hv : IsSl w v zs) (hu : IsSl w u vs) (hr : ∀ y, y ∈ vs → y ≤ 9223372036854775807) (hx9 : x ≤ 9223372036854775807) :
    Calls Tryz.prog 8 #[v, u, .int .i64 x] w fun e w' => e = .returned (.bool true) ∧ Below w.heap.size w w' := by
  have HE := hid hE
  have HV := hid hv
  have HU := hid hu
  have HR := hid hr
  have HJd := hid (judged_any A w hE)
  obtain ⟨av, capv, rfl, hzm, -, -⟩ := hv
  obtain ⟨au, capu, rfl, hum, -, -⟩ := hu
  unfold maxLen at hzm hum
  obtain ⟨n, HN⟩ : ∃ n, Hid (zs.length = n) := ⟨_, rfl⟩
  obtain ⟨l, HL⟩ : ∃ l, Hid (vs.length = l) := ⟨_, rfl⟩
  rw [HN.out] at HV hzm ⊢
  rw [HL.out] at HU hum ⊢
  clear hE hr
  by_cases he : errW zs = 0
  · by_cases h400 : 400 < l
    · have e2 : (400 : Int) < (l : Int) := by omega
      go_enter Tryz.func8, Tryz.ntmps8
      go_wp2_with fail
      refine HJd.out.mono ?_
      rintro e w1 ⟨rfl, hb⟩
      have HB1 := hid hb
      have HWe := hid (rErr_any _ zs w1 (HV.out.later hb))
      rw [he, show ((0 : Nat) : Int) = 0 from rfl] at HWe
      clear hb
      go_wp2_with fail
      refine HWe.out.mono ?_
      rintro e w2 ⟨rfl, hx⟩
      subst w2
      go_wp2_with fail
      go_ret
      exact ⟨rfl, HB1.out⟩
    · have e2 : ¬ (400 : Int) < (l : Int) := by omega
      by_cases hx0 : x < 0
      · go_enter Tryz.func8, Tryz.ntmps8
        go_wp2_with fail
        refine HJd.out.mono ?_
        rintro e w1 ⟨rfl, hb⟩
        have HB1 := hid hb
        have HWe := hid (rErr_any _ zs w1 (HV.out.later hb))
        rw [he, show ((0 : Nat) : Int) = 0 from rfl] at HWe
        clear hb
        go_wp2_with fail
        refine HWe.out.mono ?_
        rintro e w2 ⟨rfl, hx⟩
        subst w2
        go_wp2_with fail
        go_ret
        exact ⟨rfl, HB1.out⟩
      · obtain ⟨q, rfl⟩ := Int.eq_ofNat_of_zero_le (show 0 ≤ x by omega)
        obtain ⟨n1, n7, -, -⟩ := errW_zero he
        rw [HN.out] at n1 n7
        go_enter Tryz.func8, Tryz.ntmps8
        go_wp2_with fail
        refine HJd.out.mono ?_
        rintro e w1 ⟨rfl, hb⟩
        have HB1 := hid hb
        have HWe := hid (rErr_any _ zs w1 (HV.out.later hb))
        rw [he, show ((0 : Nat) : Int) = 0 from rfl] at HWe
        have HOwn := hid (ownInts_any _ zs w1 (HV.out.later hb) (by rw [HN.out]; omega))
        clear hb
        go_wp2_with fail
        refine HWe.out.mono ?_
        rintro e w2 ⟨rfl, hx⟩
        subst w2
        go_wp2_with fail
        refine HOwn.out.mono ?_
        rintro e w2 ⟨v2, rfl, hv2, hb2⟩
        have HV2 := hid hv2
        have HB2 := hid (below_trans HB1.out hb2)
        have HNew := hid (wnew_ok v2 HV2.out (HE.out.later HB2.out) he)
        clear hv2 hb2
        go_wp2_with fail
        refine HNew.out.mono ?_
        rintro e w3 ⟨C, X, rfl, h3⟩
        have H3 := hid h3
        have HB3 := hid (below_trans HB2.out h3.bel)
        have HOw2 := hid (ownInts_long _ vs w3 (HU.out.later HB3.out) (by rw [HL.out]; omega))
        clear h3
        go_wp2_with fail
        refine HOw2.out.mono ?_
        rintro e w4 ⟨v4, rfl, ho4, hb4⟩
        have HRun := hid (run_any v4 w3.heap.size (H3.out.later hb4) (HE.out.later HB2.out) ho4 (by rw [HL.out]; omega) HR.out (by rw [HL.out]; omega) (own_new H3.out ho4))
        clear ho4 hb4
        go_wp2_with fail
        refine HRun.out.mono ?_
        rintro e w5 ⟨u5, C5, X5, rfl, h5⟩
        have HAx := hid (h5.alng (fun _ U => AX zs U) (fun _ _ _ _ hs hX hm h => (hs.ax h hX hm).1) AX.new)
        have HEf := hid (ax_events HAx.out)
        rw [HN.out] at HEf
        obtain ⟨V, HVx⟩ : ∃ V, Hid (runX zs (vs.take vs.length) newX = V) := ⟨_, rfl⟩
        have HWD := hid h5.wd
        rw [HVx.out] at HWD HEf
        have hev := HWD.out.inv.ev
        have HEv := hid (events_any HWD.out)
        rw [key_xb h5.ky] at HEv
        obtain ⟨E, HEE⟩ : ∃ E, Hid (V.evs = E) := ⟨_, rfl⟩
        rw [HEE.out] at HEf hev HEv
        obtain ⟨ne, HNe⟩ : ∃ ne, Hid (E.length = ne) := ⟨_, rfl⟩
        rw [HNe.out] at hev HEv HEf
        clear h5
        go_wp2_with fail
        refine HEv.out.mono ?_
        rintro e w6 ⟨v6, rfl, ho6, hb6⟩
        have HWD6 := hid (HWD.out.later hb6)
        have HE6 := hid (HWD6.out.held (HE.out.later HB2.out))
        have HB6 := hid (below_trans HB2.out HWD6.out.bel)
        have HLow := hid (below_trans HB2.out HWD.out.bel).size
        by_cases hne0 : ne = 0
        · subst hne0
          obtain ⟨ad6, cap6, hv6, -, -, hel6⟩ := own_el (by rw [HNe.out]; exact ho6)
          have HCk := hid (jcheck_ok A ad6 cap6 E (n : Int) 0 E.length w6 HE6.out (by omega) (by omega) hel6 (by rw [HNe.out]; omega) (by rw [HNe.out]; exact HEf.out))
          rw [HNe.out] at hv6 HCk
          subst hv6
          clear ho6 hb6 hel6
          go_wp2_with fail
          refine HCk.out.mono ?_
          rintro e w7 ⟨v7, rfl, hv7, hb7⟩
          obtain rfl := hv7.nil
          have HB7 := hid (below_trans HB6.out hb7)
          clear hv7 hb7
          go_wp2_with fail
          go_ret
          exact ⟨rfl, HB7.out⟩
        · have e0 : ((ne : Int) == 0) = false := beq_eq_false_iff_ne.2 (by omega)
          obtain ⟨k, Hk⟩ : ∃ k, Hid (q % ne = k) := ⟨_, rfl⟩
          have hkn : k < ne := by rw [← Hk.out]; exact Nat.mod_lt _ (by omega)
          have tk : Int.tmod (q : Int) (ne : Int) = (k : Int) := by rw [Int.tmod_eq_emod_of_nonneg (by omega), ← Hk.out]; simp
          obtain ⟨g, cap6, cur, hv6, hbg, hrow6, hnc, hcm, hcs, htk⟩ : ∃ g cap, ∃ cur : Array Value, v6 = .slice (some ⟨g, 0, none⟩) ne cap ∧ w5.heap.size ≤ g ∧ w6.heap[g]? = some (.cells cur 75 (0, 0)) ∧ ne ≤ cap ∧ cap ≤ maxLen ∧ cur.size = cap * 3 ∧ cur.toList.take (ne * 3) = evCells E := by
            rcases ho6.2 with ⟨-, h0⟩ | h6
            · exact absurd h0 hne0
            · exact h6
          have HEL : Hid (EL w6 (some ⟨g, 0, none⟩) E) := by
            obtain ⟨ad6, cp6, hv6', -, -, hel6⟩ := own_el (by rw [HNe.out]; exact ho6)
            rw [hv6] at hv6'
            injection hv6' with e1
            rw [e1]; exact hel6
          subst hv6
          have h63 : cap6 ≤ 9223372036854775807 := by unfold maxLen at hcm; omega
          have hkE : k < E.length := by rw [HNe.out]; exact hkn
          have HKE := hid hkE
          obtain ⟨⟨sk, dk, pk⟩, HEk⟩ : ∃ e, Hid (E[k]'hkE = e) := ⟨_, rfl⟩
          have hpk : pk = 2 ∨ pk = 3 := by
            have h0 := (evC_zero (HEf.out.1 k hkE (by omega))).1
            rw [HEk.out] at h0
            exact (of_decide_eq_true h0).2.2
          have hsub : IntKind.i64.wrap (5 - pk) = 5 - pk := by rw [IntKind.wrap_i64]; omega
          have HRow := hid hrow6
          have HSz : Hid (E.length * 3 ≤ cur.size) := by rw [HNe.out, hcs]; exact Nat.mul_le_mul_right 3 hnc
          have HBG : Hid (w.heap.size ≤ g) := Nat.le_trans HLow.out hbg
          clear ho6 hb6 htk hcs hcm hbg hrow6
          go_wp2_with fail
          go_loopw [12, 13] (fun t v wr => ∃ (i : Nat) (b : Bool), i ≤ ne ∧ t = .bool b ∧ v = .int .i64 (i : Int) ∧ Hid (Below w6.heap.size w6 wr ∧ (b = true ↔ pairL E k i))) (fun _ v _ => ne - (intOf v).toNat)
          case atStart => exact ⟨0, false, Nat.zero_le _, rfl, rfl, Below.refl _ _, ⟨fun h => (by cases h), fun h => absurd h (pairL_zero E k)⟩⟩
          case round =>
            obtain ⟨i, b, hi, rfl, rfl, HI⟩ := hrel
            obtain ⟨bk, ok, ek, k0, k1, k2⟩ := (HEL.out.later HI.out.1) k HKE.out
            obtain ⟨rfl, rfl⟩ : bk = g ∧ ok = 0 := by
              have := Option.some.inj ek
              injection this with e1 e2
              exact ⟨e1.symm, e2.symm⟩
            clear ek
            rw [HEk.out, Nat.zero_add] at k0 k1 k2
            by_cases hlt : i < ne
            · have hlt2 : (i : Int) < (ne : Int) := by omega
              have HIE : Hid (i < E.length) := by rw [HNe.out]; exact hlt
              have HSu := hid (pairL_succ HIE.out HKE.out)
              rw [HEk.out] at HSu
              by_cases hik : i = k
              · subst hik
                have e3 : ((i : Int) != (i : Int)) = false := by simp
                have HNx : Hid (b = true ↔ pairL E i (i + 1)) := by
                  refine Iff.trans HI.out.2 (Iff.trans ?_ HSu.out.symm)
                  exact ⟨.inl, fun h => h.elim id (fun g => absurd rfl g.1)⟩
                go_wp2_with fail
                go_quiet (fail)
                go_wp2_with fail
                go_roundw
                case rel => exact ⟨i + 1, b, by omega, rfl, by go_num, below_drewN HI.out.1 _, HNx.out⟩
                case measure => simp [intOf]; omega
              · have e3 : ((i : Int) != (k : Int)) = true := by simp; omega
                obtain ⟨bi, oi, ei, i0, i1, i2⟩ := (HEL.out.later HI.out.1) i HIE.out
                obtain ⟨rfl, rfl⟩ : bi = bk ∧ oi = 0 := by
                  have := Option.some.inj ei
                  injection this with e1 e2
                  exact ⟨e1.symm, e2.symm⟩
                clear ei
                obtain ⟨⟨si, di, pi⟩, HEi⟩ : ∃ e, Hid (E[i]'HIE.out = e) := ⟨_, rfl⟩
                rw [HEi.out] at HSu
                rw [HEi.out, Nat.zero_add] at i0 i1 i2
                by_cases hdd : di = dk
                · subst hdd
                  have HNx : Hid (pairL E k (i + 1)) := HSu.out.2 (.inr ⟨hik, rfl⟩)
                  go_wp2_with fail
                  go_quiet (fail)
                  go_wp2_with fail
                  go_roundw
                  case rel => exact ⟨i + 1, true, by omega, rfl, by go_num, below_drewN HI.out.1 _, ⟨fun _ => HNx.out, fun _ => rfl⟩⟩
                  case measure => simp [intOf]; omega
                · have e4 : (di == dk) = false := beq_eq_false_iff_ne.2 hdd
                  have HNx : Hid (b = true ↔ pairL E k (i + 1)) := by
                    refine Iff.trans HI.out.2 (Iff.trans ?_ HSu.out.symm)
                    exact ⟨.inl, fun h => h.elim id (fun g => absurd g.2 hdd)⟩
                  go_wp2_with fail
                  go_quiet (fail)
                  go_wp2_with fail
                  go_roundw
                  case rel => exact ⟨i + 1, b, by omega, rfl, by go_num, below_drewN HI.out.1 _, HNx.out⟩
                  case measure => simp [intOf]; omega
            · obtain rfl : i = ne := by omega
              have hlt2 : ¬ ((i : Int) < (i : Int)) := by omega
              have HRw := hid ((HI.out.1.block _ (row_ltJ HRow.out)).trans HRow.out)
              have z2 := frozen_of_row _ _ (k * 3 + 2) _ _ HRw.out
              have HT := hid (EL.tamp HRw.out (HEL.out.later HI.out.1) HKE.out HSz.out)
              rw [HEk.out] at HT
              have HBt : Hid (Below w.heap.size w (wr.setCell ⟨bk, k * 3 + 2, none⟩ (.int .i64 (5 - pk)))) := (below_trans HB6.out HI.out.1).setCell HBG.out _
              obtain ⟨W7, HW7⟩ : ∃ W7, Hid (wr.setCell ⟨bk, k * 3 + 2, none⟩ (.int .i64 (5 - pk)) = W7) := ⟨_, rfl⟩
              rw [HW7.out] at HT HBt
              have HE7 := hid (HE.out.later HBt.out)
              have HTl := hid (tampL_length E k)
              have hW7 := HW7.out
              cases b with
              | false =>
                have hnp : ¬ pairL E k E.length := fun h => by rw [HNe.out] at h; have := HI.out.2.2 h; cases this
                have HF := hid (tamp_ok HKE.out (by rw [HNe.out]; exact HEf.out) hnp)
                have HCk := hid (jcheck_ok A (some ⟨bk, 0, none⟩) cap6 (tampL E k) (n : Int) 0 (tampL E k).length W7 HE7.out (by omega) (by omega) HT.out (by rw [HTl.out, HNe.out]; omega) HF.out)
                rw [HTl.out, HNe.out] at HCk
                clear hnp
                go_wp2_with fail
                refine HCk.out.mono ?_
                rintro e w8 ⟨v8, rfl, hv8, hb8⟩
                obtain rfl := hv8.nil
                have HB8 := hid (below_trans HBt.out hb8)
                clear hv8 hb8
                go_wp2_with fail
                refine (coded_nil 0 w8).mono ?_
                rintro e w9 ⟨rfl, hx⟩
                subst w9
                go_wp2_with fail
                go_ret
                exact ⟨rfl, HB8.out⟩
              | true =>
                obtain ⟨c, j, hc0, hF⟩ := tamp_no (k := k) (by rw [HNe.out]; exact HEf.out) (by rw [HNe.out]; exact HI.out.2.1 rfl)
                have HCk := hid (jcheck_ok A (some ⟨bk, 0, none⟩) cap6 (tampL E k) (n : Int) c j W7 HE7.out (by omega) (by omega) HT.out (by rw [HTl.out, HNe.out]; omega) hF)
                rw [HTl.out, HNe.out] at HCk
                have HCl := hid hF.le
                clear hF
                go_wp2_with fail
                refine HCk.out.mono ?_
                rintro e w8 ⟨v8, rfl, hv8, hb8⟩
                have HB8 := hid (below_trans HBt.out hb8)
                have HCd := hid (coded_flt A c j _ v8 w8 (HE7.out.later hb8) HCl.out hc0 hv8)
                clear hv8 hb8
                go_wp2_with fail
                refine HCd.out.mono ?_
                rintro e w9 ⟨rfl, hb9⟩
                have HB9 := hid (below_trans HB8.out hb9)
                clear hb9
                go_wp2_with fail
                go_ret
                exact ⟨rfl, HB9.out⟩
  · obtain ⟨c, hc⟩ : ∃ c, errW zs = c := ⟨_, rfl⟩
    have k0 : (0 : Int) < (c : Int) := by omega
    go_enter Tryz.func8, Tryz.ntmps8
    go_wp2_with fail
    refine HJd.out.mono ?_
    rintro e w1 ⟨rfl, hb⟩
    have HB1 := hid hb
    have HWe := hid (rErr_any _ zs w1 (HV.out.later hb))
    rw [hc] at HWe
    clear hb
    go_wp2_with fail
    refine HWe.out.mono ?_
    rintro e w2 ⟨rfl, hx⟩
    subst w2
    go_wp2_with fail
    go_ret
    exact ⟨rfl, HB1.out⟩
end Go.Proofs.YtadhpkopkkjmfaaGreatDoor
