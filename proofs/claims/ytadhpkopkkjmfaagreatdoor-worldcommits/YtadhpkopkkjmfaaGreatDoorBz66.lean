/-
  On the way to WCommitsProof: YO YP.
-/
import Derived.Test.YtadhpkopkkjmfaaGreatDoorBz57
import Derived.Test.YtadhpkopkkjmfaaGreatDoorBz61
set_option maxHeartbeats 8000000
set_option maxRecDepth 100000
namespace Go.Proofs.YtadhpkopkkjmfaaGreatDoor
open Go.RowKit
theorem outE_all {d : Nat} {p : Nat} : ∀ (L : List E3), L ≠ [] → (∀ e, e ∈ L → e.d = (d : Int) ∧ e.p = (p : Int)) → outE (d : Int) L = (p : Int)
  | [], h, _ => absurd rfl h
  | e :: r, _, h => by
    obtain ⟨h1, h2⟩ := h e List.mem_cons_self
    rw [outE, if_pos h1, h2]
theorem rf_zero {r : Int} {n : Nat} (h0 : 0 ≤ r) (h1 : r < 2 ^ n) : (r = 0 ∧ ∀ i, i < n → bit r i = false) ∨ (0 < r ∧ ∃ i, i < n ∧ bit r i = true) := by
  obtain ⟨k, rfl⟩ := Int.eq_ofNat_of_zero_le h0
  rcases Nat.eq_zero_or_pos k with rfl | hp
  · exact .inl ⟨rfl, fun i _ => by unfold bit; simp⟩
  · refine .inr ⟨by omega, ?_⟩
    obtain ⟨i, hi⟩ := Nat.exists_testBit_of_ne_zero (show k ≠ 0 by omega)
    refine ⟨i, ?_, by unfold bit; rw [Int.toNat_natCast]; exact hi⟩
    refine Nat.lt_of_not_le fun hle => ?_
    rw [pow_nat] at h1
    have : k < 2 ^ i := Nat.lt_of_lt_of_le (by omega) (Nat.pow_le_pow_right (by decide) hle)
    rw [Nat.testBit_lt_two_pow this] at hi
    cases hi
theorem wcommits_any (A : Nat → Addr) (v : Value) (zs : List Int) (s0 d0 r0 : Int) (w : World) (hE : Held9 w A) (hv : IsSl w v zs) :
    Calls Tryz.prog 3 #[v, .int .i64 s0, .int .i64 d0, .int .i64 r0] w fun e w' => e = .returned (.bool true) ∧ Below w.heap.size w w' := by
  have HE := hid hE
  have HV := hid hv
  obtain ⟨av, capv, rfl, hzm, -, -⟩ := hv
  unfold maxLen at hzm
  obtain ⟨n, HN⟩ : ∃ n, Hid (zs.length = n) := ⟨_, rfl⟩
  rw [HN.out] at HV hzm ⊢
  clear hE
  by_cases he : errW zs = 0
  · obtain ⟨n1, n7, -, -⟩ := errW_zero he
    rw [HN.out] at n1 n7
    by_cases hs0 : s0 < 0
    · have k1 : s0 < 0 := hs0
      go_enter Tryz.func3, Tryz.ntmps3
      go_wp2_with fail
      refine (born_any A w HE.out).mono ?_
      rintro e w1 ⟨rfl, hb⟩
      have HB1 := hid hb
      have HWe := hid (rErr_any _ zs w1 (HV.out.later hb))
      rw [he, show ((0 : Nat) : Int) = 0 from rfl] at HWe
      clear hb
      go_wp2_with fail
      refine HWe.out.mono ?_
      rintro e w2 ⟨rfl, hx⟩
      subst w2
      go_wp2_with fail
      go_ret
      exact ⟨rfl, HB1.out⟩
    · obtain ⟨s, rfl⟩ := Int.eq_ofNat_of_zero_le (show 0 ≤ s0 by omega)
      by_cases hsn : n ≤ s
      · have k1 : (n : Int) ≤ (s : Int) := by omega
        go_enter Tryz.func3, Tryz.ntmps3
        go_wp2_with fail
        refine (born_any A w HE.out).mono ?_
        rintro e w1 ⟨rfl, hb⟩
        have HB1 := hid hb
        have HWe := hid (rErr_any _ zs w1 (HV.out.later hb))
        rw [he, show ((0 : Nat) : Int) = 0 from rfl] at HWe
        clear hb
        go_wp2_with fail
        refine HWe.out.mono ?_
        rintro e w2 ⟨rfl, hx⟩
        subst w2
        go_wp2_with fail
        go_ret
        exact ⟨rfl, HB1.out⟩
      · have k1 : ¬ (n : Int) ≤ (s : Int) := by omega
        by_cases hd0 : d0 < 0
        · have k2 : d0 < 0 := hd0
          go_enter Tryz.func3, Tryz.ntmps3
          go_wp2_with fail
          refine (born_any A w HE.out).mono ?_
          rintro e w1 ⟨rfl, hb⟩
          have HB1 := hid hb
          have HWe := hid (rErr_any _ zs w1 (HV.out.later hb))
          rw [he, show ((0 : Nat) : Int) = 0 from rfl] at HWe
          clear hb
          go_wp2_with fail
          refine HWe.out.mono ?_
          rintro e w2 ⟨rfl, hx⟩
          subst w2
          go_wp2_with fail
          go_ret
          exact ⟨rfl, HB1.out⟩
        · obtain ⟨d, rfl⟩ := Int.eq_ofNat_of_zero_le (show 0 ≤ d0 by omega)
          by_cases hd6 : 6 ≤ d
          · have k2 : (6 : Int) ≤ (d : Int) := by omega
            go_enter Tryz.func3, Tryz.ntmps3
            go_wp2_with fail
            refine (born_any A w HE.out).mono ?_
            rintro e w1 ⟨rfl, hb⟩
            have HB1 := hid hb
            have HWe := hid (rErr_any _ zs w1 (HV.out.later hb))
            rw [he, show ((0 : Nat) : Int) = 0 from rfl] at HWe
            clear hb
            go_wp2_with fail
            refine HWe.out.mono ?_
            rintro e w2 ⟨rfl, hx⟩
            subst w2
            go_wp2_with fail
            go_ret
            exact ⟨rfl, HB1.out⟩
          · have k2 : ¬ (6 : Int) ≤ (d : Int) := by omega
            by_cases hr0 : r0 < 0
            · have k3 : r0 < 0 := hr0
              go_enter Tryz.func3, Tryz.ntmps3
              go_wp2_with fail
              refine (born_any A w HE.out).mono ?_
              rintro e w1 ⟨rfl, hb⟩
              have HB1 := hid hb
              have HWe := hid (rErr_any _ zs w1 (HV.out.later hb))
              rw [he, show ((0 : Nat) : Int) = 0 from rfl] at HWe
              clear hb
              go_wp2_with fail
              refine HWe.out.mono ?_
              rintro e w2 ⟨rfl, hx⟩
              subst w2
              go_wp2_with fail
              go_ret
              exact ⟨rfl, HB1.out⟩
            · by_cases hrn : 2 ^ n ≤ r0
              · have k3 : 0 ≤ r0 := by omega
                go_enter Tryz.func3, Tryz.ntmps3
                go_wp2_with fail
                refine (born_any A w HE.out).mono ?_
                rintro e w1 ⟨rfl, hb⟩
                have HB1 := hid hb
                have HWe := hid (rErr_any _ zs w1 (HV.out.later hb))
                rw [he, show ((0 : Nat) : Int) = 0 from rfl] at HWe
                clear hb
                go_wp2_with fail
                refine HWe.out.mono ?_
                rintro e w2 ⟨rfl, hx⟩
                subst w2
                go_wp2_with fail
                refine (two_any n w1 (by omega)).mono ?_
                rintro e w2 ⟨rfl, hx⟩
                subst w2
                go_wp2_with fail
                go_ret
                exact ⟨rfl, HB1.out⟩
              · have k3 : 0 ≤ r0 := by omega
                have hp7 := (pow_le7 n7).1
                go_enter Tryz.func3, Tryz.ntmps3
                go_wp2_with fail
                refine (born_any A w HE.out).mono ?_
                rintro e w1 ⟨rfl, hb⟩
                have HB1 := hid hb
                have HWe := hid (rErr_any _ zs w1 (HV.out.later hb))
                rw [he, show ((0 : Nat) : Int) = 0 from rfl] at HWe
                clear hb
                go_wp2_with fail
                refine HWe.out.mono ?_
                rintro e w2 ⟨rfl, hx⟩
                subst w2
                go_wp2_with fail
                refine (two_any n w1 (by omega)).mono ?_
                rintro e w2 ⟨rfl, hx⟩
                subst w2
                go_wp2_with fail
                have HOwn := hid (ownInts_any _ zs w1 (HV.out.later HB1.out) (by rw [HN.out]; omega))
                refine HOwn.out.mono ?_
                rintro e w2 ⟨v2, rfl, hv2, hb2⟩
                have HV2 := hid hv2
                have HB2 := hid (below_trans HB1.out hb2)
                have HNew := hid (wnew_ok v2 HV2.out (HE.out.later HB2.out) he)
                clear hv2 hb2
                go_wp2_with fail
                refine HNew.out.mono ?_
                rintro e w3 ⟨C, X, rfl, h3⟩
                have H3 := hid h3
                clear h3
                go_wp2_with fail
                go_loopw [12] (fun v wr => ∃ (k : Nat) (V : PX) (C' : Nat → Nat) (X' : XB), k ≤ n ∧ v = .int .i64 (k : Int) ∧ Hid (WD w2 wr C' X' zs V k ∧ X'.xb = X.xb ∧ RfI zs V d (fun i => decide (i < k) && bit r0 i))) (fun v _ => n - (intOf v).toNat)
                case atStart => exact ⟨0, newX, C, X, Nat.zero_le _, rfl, H3.out, rfl, (RfI.new (by omega)).same fun i _ => by simp⟩
                case round =>
                  obtain ⟨k, V, C1, X1, hk, rfl, HI⟩ := hrel
                  by_cases hlt : k < n
                  · have hlt' : (k : Int) < (n : Int) := by omega
                    have HHas := hid (rHas_any r0 k wr (by omega) k3 (by omega))
                    cases hbt : bit r0 k with
                    | true =>
                      rw [hbt] at HHas
                      have HRf := hid (refuse_any (k : Int) (d : Int) 0 HI.out.1 (HE.out.later HB2.out) (by omega) (by
                        unfold cRef
                        rw [if_pos ⟨⟨by omega, by rw [HN.out]; omega⟩, by omega, by omega⟩, Int.toNat_natCast, if_pos (HI.out.2.2.up (by rw [HN.out]; exact hlt))]))
                      rw [HI.out.2.1, if_pos rfl, Int.toNat_natCast, Int.toNat_natCast, show ev A 0 = .nilIface from rfl] at HRf
                      go_wp2_with fail
                      refine HHas.out.mono ?_
                      rintro e w4 ⟨rfl, hx⟩
                      subst w4
                      go_wp2_with fail
                      refine HRf.out.mono ?_
                      rintro e w4 ⟨rfl, C2, X2, g1, g2, -, -⟩
                      have HI2 : Hid (WD w2 w4 C2 X2 zs (refuseX V k d) (k + 1) ∧ X2.xb = X.xb ∧ RfI zs (refuseX V k d) d (fun i => decide (i < k + 1) && bit r0 i)) := by
                        refine ⟨g1, (key_xb g2).trans HI.out.2.1, (HI.out.2.2.refuse k).same fun i _ => ?_⟩
                        by_cases e : i = k
                        · subst e; rw [if_pos rfl, hbt, decide_eq_true (by omega)]; rfl
                        · rw [if_neg e]
                          congr 1
                          exact decide_eq_decide.2 (by omega)
                      clear g1 g2
                      go_wp2_with fail
                      go_roundw
                      case rel => exact ⟨k + 1, refuseX V k d, C2, X2, by omega, by go_num, HI2.out⟩
                      case measure => simp [intOf]; omega
                    | false =>
                      rw [hbt] at HHas
                      have HI2 : Hid (WD w2 wr C1 X1 zs V (k + 1) ∧ X1.xb = X.xb ∧ RfI zs V d (fun i => decide (i < k + 1) && bit r0 i)) := by
                        refine ⟨HI.out.1.mono (by omega), HI.out.2.1, HI.out.2.2.same fun i _ => ?_⟩
                        by_cases e : i = k
                        · subst e; rw [hbt, Bool.and_false, Bool.and_false]
                        · congr 1
                          exact decide_eq_decide.2 (by omega)
                      go_wp2_with fail
                      refine HHas.out.mono ?_
                      rintro e w4 ⟨rfl, hx⟩
                      subst w4
                      go_wp2_with fail
                      go_roundw
                      case rel => exact ⟨k + 1, V, C1, X1, by omega, by go_num, HI2.out⟩
                      case measure => simp [intOf]; omega
                  · obtain rfl : k = n := by omega
                    have hlt' : ¬ ((k : Int) < (k : Int)) := by omega
                    have hsk : s < zs.length := by rw [HN.out]; omega
                    have HRr : Hid (RfI zs V d (fun i => bit r0 i)) := HI.out.2.2.same fun i hi => by rw [decide_eq_true (by rw [HN.out] at hi; exact hi), Bool.true_and]
                    have HBg := hid (begin_any (s : Int) (d : Int) 0 HI.out.1 (HE.out.later HB2.out) (by omega) (HRr.out.beg hsk (by omega)))
                    rw [HI.out.2.1, if_pos rfl, Int.toNat_natCast, Int.toNat_natCast, show ev A 0 = .nilIface from rfl] at HBg
                    obtain ⟨p, HP⟩ : ∃ p : Nat, Hid ((p = 3 ∧ 0 < r0 ∧ ∃ j, j < zs.length ∧ bit r0 j = true) ∨ (p = 2 ∧ r0 = 0 ∧ ∀ j, j < zs.length → bit r0 j = false)) := by
                      rcases rf_zero (n := k) k3 (by omega) with ⟨q1, q2⟩ | ⟨q1, q2⟩
                      · exact ⟨2, .inr ⟨rfl, q1, by rw [HN.out]; exact q2⟩⟩
                      · exact ⟨3, .inl ⟨rfl, q1, by rw [HN.out]; exact q2⟩⟩
                    go_wp2_with fail
                    refine HBg.out.mono ?_
                    rintro e w4 ⟨rfl, C2, X2, g1, g2, -, -⟩
                    have HGo : Hid (GoB zs d s p 35 (beginX zs V s d)) := by
                      have hc := HRr.out.cw (s := s) g1.inv p
                      refine (goA he hsk rfl rfl ?_ zs.length 0 _ _ _ (by omega) hc (fun i _ => by rw [if_neg (Nat.not_lt_zero _)]) (by rw [HN.out]; omega)).mono (by rw [HN.out]; omega)
                      rcases HP.out with ⟨x, -, y⟩ | ⟨x, -, y⟩
                      · exact .inl ⟨x, y⟩
                      · exact .inr ⟨x, y⟩
                    have HX2 := hid (key_xb g2 |>.trans HI.out.2.1)
                    have H4 := hid (g1.mono (show k + 1 ≤ 10 by omega))
                    obtain ⟨rr, HRr2⟩ : ∃ rr, Hid (rr ≤ 35 ∧ GoC zs d s p rr (beginX zs V s d)) := HGo.out
                    clear g1 g2
                    go_wp2_with fail
                    go_loopw [14] (fun v wr => ∃ (j r : Nat) (V' : PX) (C' : Nat → Nat) (X' : XB), v = .int .i64 (j : Int) ∧ j + r ≤ 35 ∧ Hid (WD w2 wr C' X' zs V' (10 + 3 * j) ∧ X'.xb = X.xb ∧ GoC zs d s p r V')) (fun v _ => 40 - (intOf v).toNat)
                    case atStart => exact ⟨0, rr, beginX zs V s d, C2, X2, rfl, by have := HRr2.out.1; omega, H4.out, HX2.out, HRr2.out.2⟩
                    case round =>
                      obtain ⟨j, r, V', C3, X3, rfl, hjr, HJ⟩ := hrel
                      have hj200 : (j : Int) < 200 := by omega
                      have HFl := hid (flying_any HJ.out.1 (by omega))
                      rw [HJ.out.2.1] at HFl
                      cases r with
                      | succ r =>
                        obtain ⟨f, rest, HF⟩ : ∃ f rest, Hid (V'.fly = f :: rest ∧ GoC zs d s p r (deliverX zs V' 0 f)) := HJ.out.2.2
                        obtain ⟨nf, HNf⟩ : ∃ nf, Hid (V'.fly.length = nf + 1) := ⟨rest.length, by rw [HF.out.1]; rfl⟩
                        go_wp2_with fail
                        refine HFl.out.mono ?_
                        rintro e w5 ⟨v5, rfl, ho5, hb5⟩
                        obtain ⟨ad5, cap5, rfl⟩ : ∃ ad cap, v5 = .slice ad (nf + 1) cap := by
                          rw [HNf.out] at ho5
                          rcases ho5.2 with ⟨_, h0⟩ | ⟨g, cap, cur, e, -⟩
                          · cases h0
                          · exact ⟨_, _, e⟩
                        have H5 := hid (HJ.out.1.later hb5)
                        have hfl : 0 < V'.fly.length := by rw [HNf.out]; omega
                        have HDl := hid (deliver_ok 0 f H5.out (HE.out.later HB2.out) hfl (by simp [HF.out.1]) (by omega))
                        rw [HJ.out.2.1, show ((0 : Nat) : Int) = 0 from rfl] at HDl
                        clear ho5 hb5
                        go_wp2_with fail
                        refine HDl.out.mono ?_
                        rintro e w6 ⟨rfl, C6, X6, g1, g2, -, -⟩
                        have H6 : Hid (WD w2 w6 C6 X6 zs (deliverX zs V' 0 f) (10 + 3 * (j + 1)) ∧ X6.xb = X.xb ∧ GoC zs d s p r (deliverX zs V' 0 f)) := ⟨g1.mono (by omega), (key_xb g2).trans HJ.out.2.1, HF.out.2⟩
                        clear g1 g2
                        go_wp2_with fail
                        go_roundw
                        case rel => exact ⟨j + 1, r, deliverX zs V' 0 f, C6, X6, by go_num, by omega, H6.out⟩
                        case measure => simp [intOf]; omega
                      | zero =>
                        have HFin : Hid (FinC zs d s p V') := HJ.out.2.2
                        rcases HP.out with ⟨rfl, hr1, -⟩ | ⟨rfl, hr1, -⟩
                        · have k4 : 0 < r0 := hr1
                          go_wp2_with fail
                          refine HFl.out.mono ?_
                          rintro e w5 ⟨v5, rfl, ho5, hb5⟩
                          obtain ⟨ad5, cap5, rfl⟩ : ∃ ad cap, v5 = .slice ad 0 cap := by
                            rw [HFin.out.1] at ho5
                            rcases ho5.2 with ⟨e, _⟩ | ⟨g, cap, cur, e, -⟩
                            · exact ⟨_, _, e⟩
                            · exact ⟨_, _, e⟩
                          have H5 := hid (HJ.out.1.later hb5)
                          clear ho5 hb5
                          have HStt := hid (states_any d k H5.out (HE.out.later HB2.out) (by omega) HN.out)
                          rw [HJ.out.2.1] at HStt
                          go_wp2_with fail
                          refine HStt.out.mono ?_
                          rintro e w6 ⟨adS, capS, rfl, hsl, hb6, -⟩
                          have H6 := hid (H5.out.later hb6)
                          have HSL := hid hsl
                          have HLd := hid (lead_ok s d H6.out hsk (by omega))
                          obtain ⟨PF, HPF⟩ : ∃ PF, Hid ((V'.nd s).ld d = some (0, PF) ∧ PF.stt = 2) := HFin.out.2.2.2.2
                          have HLt : Hid (leadT (V'.nd s) d = ⟨#[100, 111, 110, 101]⟩) := by
                            unfold leadT
                            rw [HPF.out.1]
                            show stP PF.stt = _
                            rw [HPF.out.2]
                            rfl
                          rw [HJ.out.2.1, HLt.out] at HLd
                          clear hsl hb6 HStt
                          go_wp2_with fail
                          refine HLd.out.mono ?_
                          rintro e w7 ⟨rfl, hx⟩
                          subst w7
                          have HFl6 := hid (flying_any H6.out (by omega))
                          rw [HJ.out.2.1] at HFl6
                          go_wp2_with fail
                          refine HFl6.out.mono ?_
                          rintro e w8 ⟨v8, rfl, ho8, hb8⟩
                          obtain ⟨ad8, cap8, rfl⟩ : ∃ ad cap, v8 = .slice ad 0 cap := by
                            rw [HFin.out.1] at ho8
                            rcases ho8.2 with ⟨e, _⟩ | ⟨g, cap, cur, e, -⟩
                            · exact ⟨_, _, e⟩
                            · exact ⟨_, _, e⟩
                          have H8 := hid (H6.out.later hb8)
                          have HSL8 := hid (HSL.out.later hb8)
                          clear ho8 hb8
                          go_wp2_with fail
                          go_loopw [19] (fun v wq => ∃ i : Nat, i ≤ k ∧ v = .int .i64 (i : Int) ∧ wq = w8) (fun v _ => k - (intOf v).toNat)
                          case atStart => exact ⟨0, Nat.zero_le _, rfl, rfl⟩
                          case round =>
                            obtain ⟨i, hik, rfl, hwq⟩ := hrel
                            subst hwq
                            by_cases hil : i < k
                            · have hil' : (i : Int) < (k : Int) := by omega
                              obtain ⟨bS, oS, hadS, z0, -, -⟩ := HSL8.out i (by rw [stsL_length]; exact hil)
                              rw [stsL_get] at z0
                              subst hadS
                              have HPi := hid (HFin.out.2.1 i (by rw [HN.out]; exact hil))
                              rw [HPi.out, show ((3 : Nat) : Int) = 3 from rfl] at z0
                              go_wp2_with fail
                              go_roundw
                              case rel => exact ⟨i + 1, by omega, by go_num, by trivial⟩
                              case measure => simp [intOf]; omega
                            · have hil' : ¬ (i : Int) < (k : Int) := by omega
                              have HEv := hid (events_any H8.out)
                              rw [HJ.out.2.1] at HEv
                              have HLen : Hid (V'.evs.length = k) := by rw [← HN.out]; exact HFin.out.2.2.1
                              have HOut : Hid (outE (d : Int) V'.evs = 3) := outE_all V'.evs (fun e => by have := HLen.out; rw [e] at this; simp at this; omega) HFin.out.2.2.2.1
                              go_wp2_with fail
                              refine HEv.out.mono ?_
                              rintro e w9 ⟨v9, rfl, ho9, hb9⟩
                              obtain ⟨ad9, cap9, rfl, -, -, hel9⟩ := own_el ho9
                              have HOc := hid (joutcome_any ad9 cap9 V'.evs (d : Int) w9 hel9 (by rw [HLen.out]; omega))
                              rw [HOut.out, HLen.out] at HOc
                              have H9 := hid (H8.out.later hb9)
                              rw [HLen.out]
                              clear ho9 hb9 hel9
                              go_wp2_with fail
                              refine HOc.out.mono ?_
                              rintro e w10 ⟨rfl, hb10⟩
                              have H10 := hid (H9.out.later hb10)
                              have HEv2 := hid (events_any H10.out)
                              rw [HJ.out.2.1] at HEv2
                              clear hb10
                              go_wp2_with fail
                              refine HEv2.out.mono ?_
                              rintro e w11 ⟨v11, rfl, ho11, hb11⟩
                              obtain ⟨ad11, cap11, rfl, -, -, -⟩ := own_el ho11
                              rw [HLen.out]
                              have HBz := hid (below_trans HB2.out (H10.out.later hb11).bel)
                              clear ho11 hb11
                              go_wp2_with fail
                              go_ret
                              exact ⟨rfl, HBz.out⟩
                        · have k4 : ¬ 0 < r0 := by omega
                          go_wp2_with fail
                          refine HFl.out.mono ?_
                          rintro e w5 ⟨v5, rfl, ho5, hb5⟩
                          obtain ⟨ad5, cap5, rfl⟩ : ∃ ad cap, v5 = .slice ad 0 cap := by
                            rw [HFin.out.1] at ho5
                            rcases ho5.2 with ⟨e, _⟩ | ⟨g, cap, cur, e, -⟩
                            · exact ⟨_, _, e⟩
                            · exact ⟨_, _, e⟩
                          have H5 := hid (HJ.out.1.later hb5)
                          clear ho5 hb5
                          have HStt := hid (states_any d k H5.out (HE.out.later HB2.out) (by omega) HN.out)
                          rw [HJ.out.2.1] at HStt
                          go_wp2_with fail
                          refine HStt.out.mono ?_
                          rintro e w6 ⟨adS, capS, rfl, hsl, hb6, -⟩
                          have H6 := hid (H5.out.later hb6)
                          have HSL := hid hsl
                          have HLd := hid (lead_ok s d H6.out hsk (by omega))
                          obtain ⟨PF, HPF⟩ : ∃ PF, Hid ((V'.nd s).ld d = some (0, PF) ∧ PF.stt = 2) := HFin.out.2.2.2.2
                          have HLt : Hid (leadT (V'.nd s) d = ⟨#[100, 111, 110, 101]⟩) := by
                            unfold leadT
                            rw [HPF.out.1]
                            show stP PF.stt = _
                            rw [HPF.out.2]
                            rfl
                          rw [HJ.out.2.1, HLt.out] at HLd
                          clear hsl hb6 HStt
                          go_wp2_with fail
                          refine HLd.out.mono ?_
                          rintro e w7 ⟨rfl, hx⟩
                          subst w7
                          have HFl6 := hid (flying_any H6.out (by omega))
                          rw [HJ.out.2.1] at HFl6
                          go_wp2_with fail
                          refine HFl6.out.mono ?_
                          rintro e w8 ⟨v8, rfl, ho8, hb8⟩
                          obtain ⟨ad8, cap8, rfl⟩ : ∃ ad cap, v8 = .slice ad 0 cap := by
                            rw [HFin.out.1] at ho8
                            rcases ho8.2 with ⟨e, _⟩ | ⟨g, cap, cur, e, -⟩
                            · exact ⟨_, _, e⟩
                            · exact ⟨_, _, e⟩
                          have H8 := hid (H6.out.later hb8)
                          have HSL8 := hid (HSL.out.later hb8)
                          clear ho8 hb8
                          go_wp2_with fail
                          go_loopw [19] (fun v wq => ∃ i : Nat, i ≤ k ∧ v = .int .i64 (i : Int) ∧ wq = w8) (fun v _ => k - (intOf v).toNat)
                          case atStart => exact ⟨0, Nat.zero_le _, rfl, rfl⟩
                          case round =>
                            obtain ⟨i, hik, rfl, hwq⟩ := hrel
                            subst hwq
                            by_cases hil : i < k
                            · have hil' : (i : Int) < (k : Int) := by omega
                              obtain ⟨bS, oS, hadS, z0, -, -⟩ := HSL8.out i (by rw [stsL_length]; exact hil)
                              rw [stsL_get] at z0
                              subst hadS
                              have HPi := hid (HFin.out.2.1 i (by rw [HN.out]; exact hil))
                              rw [HPi.out, show ((2 : Nat) : Int) = 2 from rfl] at z0
                              go_wp2_with fail
                              go_roundw
                              case rel => exact ⟨i + 1, by omega, by go_num, by trivial⟩
                              case measure => simp [intOf]; omega
                            · have hil' : ¬ (i : Int) < (k : Int) := by omega
                              have HEv := hid (events_any H8.out)
                              rw [HJ.out.2.1] at HEv
                              have HLen : Hid (V'.evs.length = k) := by rw [← HN.out]; exact HFin.out.2.2.1
                              have HOut : Hid (outE (d : Int) V'.evs = 2) := outE_all V'.evs (fun e => by have := HLen.out; rw [e] at this; simp at this; omega) HFin.out.2.2.2.1
                              go_wp2_with fail
                              refine HEv.out.mono ?_
                              rintro e w9 ⟨v9, rfl, ho9, hb9⟩
                              obtain ⟨ad9, cap9, rfl, -, -, hel9⟩ := own_el ho9
                              have HOc := hid (joutcome_any ad9 cap9 V'.evs (d : Int) w9 hel9 (by rw [HLen.out]; omega))
                              rw [HOut.out, HLen.out] at HOc
                              have H9 := hid (H8.out.later hb9)
                              rw [HLen.out]
                              clear ho9 hb9 hel9
                              go_wp2_with fail
                              refine HOc.out.mono ?_
                              rintro e w10 ⟨rfl, hb10⟩
                              have H10 := hid (H9.out.later hb10)
                              have HEv2 := hid (events_any H10.out)
                              rw [HJ.out.2.1] at HEv2
                              clear hb10
                              go_wp2_with fail
                              refine HEv2.out.mono ?_
                              rintro e w11 ⟨v11, rfl, ho11, hb11⟩
                              obtain ⟨ad11, cap11, rfl, -, -, -⟩ := own_el ho11
                              rw [HLen.out]
                              have HBz := hid (below_trans HB2.out (H10.out.later hb11).bel)
                              clear ho11 hb11
                              go_wp2_with fail
                              go_ret
                              exact ⟨rfl, HBz.out⟩
  · obtain ⟨c, hc⟩ : ∃ c, Hid (errW zs = c) := ⟨_, rfl⟩
    have hcp : (0 : Int) < (c : Int) := by have := hc.out; omega
    go_enter Tryz.func3, Tryz.ntmps3
    go_wp2_with fail
    refine (born_any A w HE.out).mono ?_
    rintro e w1 ⟨rfl, hb⟩
    have HB1 := hid hb
    have HWe := hid (rErr_any _ zs w1 (HV.out.later hb))
    rw [hc.out] at HWe
    clear hb
    go_wp2_with fail
    refine HWe.out.mono ?_
    rintro e w2 ⟨rfl, hx⟩
    subst w2
    go_wp2_with fail
    go_ret
    exact ⟨rfl, HB1.out⟩
end Go.Proofs.YtadhpkopkkjmfaaGreatDoor
