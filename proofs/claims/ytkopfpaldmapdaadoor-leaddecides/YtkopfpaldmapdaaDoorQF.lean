/-
  THE LAW LeadDecides: its walk.
-/
import Derived.Test.YtkopfpaldmapdaaDoorQE
namespace Go.Proofs.YtkopfpaldmapdaaDoor
open Go.RowKit

theorem ldhear_of {w : World} {lb b cap id : Nat} {deal att : Int} {zs : List Int} {P : PL} (A : Nat → Addr) (f t d k a : Int) (y : Bool) (p1 p2 p3 : Int) (R : PL × Option (Int × Int)) (he : errW zs = 0) (hs : P.stt < 4) (hE : Held3 w A) (h : LD w lb b cap id deal att zs P) (hR : phear zs id deal att P ⟨f, t, d, k, a, y, p1, p2, p3⟩ = R) :
    Calls Tryd.prog 35 #[.pointer (some ⟨lb, 0, none⟩), frV f t d k a y p1 p2 p3] w fun e w' => ∃ v, e = .returned v ∧ FrB w.heap.size w' v (outL id deal att zs.length R.2) ∧ LD w' lb b cap id deal att zs R.1 ∧ Kept (In1 lb) w w' := by
  subst hR; exact ldhear_any A f t d k a y p1 p2 p3 he hs hE h
set_option maxHeartbeats 8000000 in
set_option maxRecDepth 100000 in
theorem decides_small (A : Nat → Addr) (v : Value) (zs : List Int) (att : Int) (aL : Option Addr) (cL : Nat) (L : List F9) (w : World) (hv : IsSl w v zs) (hE : Held3 w A) (hL : FL w aL L)
    (h : errW zs = 0 ∧ 0 ≤ att ∧ att ≤ 1048576 ∧ L.length ≤ 60) :
    Calls Tryd.prog 6 #[v, .int .i64 att, .slice aL L.length cL] w fun e w' => e = .returned (.bool true) ∧ Below w.heap.size w w' := by
  have HS := hid hv
  have HE := hid hE
  have HL := hid hL
  obtain ⟨he, a0, a1, l60⟩ := h
  have HZ := hid he
  obtain ⟨z1, z7, -, -⟩ := errW_zero he
  have HOk : Hid (okTo zs zs.length) := (errW_zero he).2.2.1
  obtain ⟨av, capv, rfl, -, -, hcv⟩ := hv
  obtain ⟨vb, vo, rfl, hvc⟩ := hcv (by omega)
  have HVC := hid hvc
  clear hE hL he hcv hvc
  have g2 : ¬ att < 0 := by omega
  have g3 : ¬ 1048576 < att := by omega
  have g4 : ¬ (60 : Int) < (L.length : Int) := by omega
  go_enter Tryd.func6, Tryd.ntmps6
  go_wp2_with fail
  refine (leads_any A w HE.out).mono ?_
  rintro e w1 ⟨rfl, hb⟩
  have HS1 := hid (HS.out.later hb)
  have HB1 := hid hb
  clear hb
  go_upto_if 42 with (go_at_call 27; refine (rErr_is _ zs 0 _ HS1.out HZ.out).mono ?_; rintro e wx ⟨rfl, hx⟩; subst wx)
  go_cut [8, 9] from 19 (fun s8 s9 wx => ∃ lb b cap, s8 = .pointer (some ⟨lb, 0, none⟩) ∧ s9 = .nilIface ∧ DJ w wx lb b cap att zs P0 0 false 0 0)
  case first =>
    as_aux_lemma =>
      by_cases ga : att = 0
      · subst ga
        go_wp2_with fail
        refine (ownInts_any _ zs w1 HS1.out (by omega)).mono ?_
        rintro e w2 ⟨v2, rfl, hv2, hb⟩
        have HV2 := hid hv2
        have HB2 := hid (below_trans HB1.out hb)
        have HE2 := hid (HE.out.later HB2.out)
        clear hb hv2
        obtain ⟨av2, capv2, rfl, -, -, -⟩ := HV2.out
        go_wp2_with fail
        refine (ldBegin_ok A _ zs 0 0 w2 HV2.out HE2.out HZ.out (by omega) (by decide) (by decide)).mono ?_
        rintro e w3 ⟨lb, b, cap, rfl, hl, hb, hg⟩
        have HF : Hid (DJ w w3 lb b cap 0 zs P0 0 false 0 0) := ⟨hl, di0 _ _, below_trans HB2.out hb, Nat.le_trans HB2.out.size hg⟩
        clear hl hb hg
        go_wp2_with fail
        go_meet
        exact ⟨lb, b, cap, rfl, rfl, HF.out⟩
      · have ea : (att == 0) = false := beq_eq_false_iff_ne.2 ga
        go_wp2_with fail
        refine (ownInts_any _ zs w1 HS1.out (by omega)).mono ?_
        rintro e w2 ⟨v2, rfl, hv2, hb⟩
        have HV2 := hid hv2
        have HB2 := hid (below_trans HB1.out hb)
        have HE2 := hid (HE.out.later HB2.out)
        clear hb hv2
        obtain ⟨av2, capv2, rfl, -, -, -⟩ := HV2.out
        go_wp2_with fail
        refine (ldTry_ok A _ zs 0 0 att w2 HV2.out HE2.out HZ.out (by omega) (by decide) (by decide) (by omega) a1).mono ?_
        rintro e w3 ⟨lb, b, cap, rfl, hl, hb, hg⟩
        have HF : Hid (DJ w w3 lb b cap att zs P0 0 false 0 0) := ⟨hl, di0 _ _, below_trans HB2.out hb, Nat.le_trans HB2.out.size hg⟩
        clear hl hb hg
        go_wp2_with fail
        go_meet
        exact ⟨lb, b, cap, rfl, rfl, HF.out⟩
  obtain ⟨lb, b, cap, rfl, rfl, hD⟩ := hcut
  have HD0 := hid hD
  clear hD HS1 HB1
  go_wp2_with fail
  go_loopw [10, 11, 12, 13, 14] (fun s10 s11 s12 s13 i wr => ∃ (k : Nat) (P : PL) (acks : Int) (no : Bool) (fin phase : Int), k ≤ L.length ∧ i = .int .i64 (k : Int) ∧ s10 = .int .i64 acks ∧ s11 = .bool no ∧ s12 = .int .i64 fin ∧ s13 = .int .i64 phase ∧ DJ w wr lb b cap att zs P acks no fin phase) (fun _ _ _ _ i _ => L.length - (intOf i).toNat)
  case atStart => exact ⟨0, P0, 0, false, 0, 0, Nat.zero_le _, rfl, rfl, rfl, rfl, rfl, HD0.out⟩
  case round =>
    obtain ⟨k, P, acks, no, fin, phase, hk, rfl, rfl, rfl, rfl, rfl, hI⟩ := hrel
    have HI := hid hI
    clear hI
    by_cases hlt : k < L.length
    · have hltI : (k : Int) < (L.length : Int) := by omega
      obtain ⟨b1, o1, rfl, q1⟩ := (HL.out.later HI.out.bel) k hlt
      generalize L[k]'hlt = y at q1
      obtain ⟨sf, st, sd, sk, sa, sy, s1, s2, s3⟩ := y
      obtain ⟨c0, c1, c2, c3, c4, c5, c6, c7, c8⟩ := nineO q1
      simp only at c0 c1 c2 c3 c4 c5 c6 c7 c8
      clear q1
      have hlb : lb < wr.heap.size := row_ltJ HI.out.ld.row
      go_upto_if 65 with fail
      iterate 7 go_step
      go_cut [15] from 62 to 193 (fun s15 wx => s15 = .pointer (some ⟨wr.heap.size, 0, none⟩) ∧ wx.heap[wr.heap.size]? = some (.cells #[.int .i64 sf, .int .i64 st, .int .i64 sd, .int .i64 sk, .int .i64 sa, .bool sy, .int .i64 s1, .int .i64 s2, .int .i64 s3] 36 (0, 0)) ∧ Below wr.heap.size wr wx)
      case first =>
        as_aux_lemma =>
          go_wp2_with fail
          go_meet
          exact ⟨rfl, heap_alloc_new wr _, (Below.refl _ _).alloc (Nat.le_refl _) _⟩
      obtain ⟨rfl, hrow, hbel⟩ := hcut
      have HRow := hid hrow
      have HI1 := hid (HI.out.later hbel)
      clear hrow hbel c0 c1 c2 c3 c4 c5 c6 c7 c8 HI
      obtain ⟨c0, c1, c2, c3, c4, c5, c6, c7, c8⟩ := nine HRow.out
      have f4 := frozen_of_row wc wr.heap.size 4 _ _ HRow.out
      have f1 := frozen_of_row wc wr.heap.size 1 _ _ HRow.out
      have f2 := frozen_of_row wc wr.heap.size 2 _ _ HRow.out
      obtain ⟨Z, HZw⟩ : ∃ Z, Hid (((wc.setCell ⟨wr.heap.size, 4, none⟩ (.int .i64 att)).setCell ⟨wr.heap.size, 1, none⟩ (.int .i64 0)).setCell ⟨wr.heap.size, 2, none⟩ (.int .i64 0) = Z) := ⟨_, rfl⟩
      have HRz : Hid (Z.heap[wr.heap.size]? = some (.cells #[.int .i64 sf, .int .i64 0, .int .i64 0, .int .i64 sk, .int .i64 att, .bool sy, .int .i64 s1, .int .i64 s2, .int .i64 s3] 36 (0, 0))) := by
        rw [← HZw.out]
        exact heap_setCell_same _ wr.heap.size 2 _ _ _ (heap_setCell_same _ wr.heap.size 1 _ _ _ (heap_setCell_same _ wr.heap.size 4 _ _ _ HRow.out))
      have HI2 : Hid (DJ w Z lb b cap att zs P acks no fin phase) := by
        rw [← HZw.out]
        exact HI1.out.aside ((((Kept.refl (In1 wr.heap.size) wc).set1 4 _).set1 1 _).set1 2 _) hlb
      obtain ⟨d0, d1, d2, d3, d4, d5, d6, d7, d8⟩ := nine HRz.out
      by_cases n1 : sf < 0
      · as_aux_lemma =>
          go_upto_if 85 with fail
          rw [HZw.out]
          go_wp2_with fail
          go_roundw
          case rel => exact ⟨k + 1, P, acks, no, fin, phase, by omega, by go_num, rfl, rfl, rfl, rfl, HI2.out⟩
          case measure => simp [intOf]; omega
      · obtain ⟨m, rfl⟩ := Int.eq_ofNat_of_zero_le (show 0 ≤ sf by omega)
        by_cases n2 : m < zs.length
        · have n3 : ¬ (zs.length : Int) ≤ (m : Int) := by omega
          go_upto_if 85 with fail
          rw [HZw.out]
          iterate 5 go_step
          clear c0 c1 c2 c3 c4 c5 c6 c7 c8 f4 f1 f2 HRow HI1 HZw
          have hm7 : m < 7 := by omega
          have HAK : Hid (P.stt = 1 → 0 ≤ acks ∧ acks < 128) := fun e => by
            have h1 := (HI2.out.di.pre e).2.2
            have h2 := HI2.out.di.pw.lo
            have h3 := HI2.out.di.pw.hi
            have h4 := (pow_le7 z7).1
            omega
          obtain ⟨ak, HAk⟩ : ∃ x, Hid (acksD P acks m sk sy = x) := ⟨_, rfl⟩
          go_cut [10] from 62 to 193 (fun s10 wx => s10 = .int .i64 ak ∧ Z = wx)
          case first =>
            as_aux_lemma =>
              by_cases t1 : sk = 6
              · subst t1
                cases sy with
                | false =>
                  have HH : Hid (ak = acks) := by unfold Hid; rw [← HAk.out]; unfold acksD; rw [if_neg (by simp)]
                  go_wp2_with fail
                  go_meet
                  exact ⟨by rw [HH.out], rfl⟩
                | true =>
                  rcases HI2.out.di.st with hs | hs | hs
                  · have HH : Hid (ak = acks) := by unfold Hid; rw [← HAk.out]; unfold acksD; rw [if_neg (by omega)]
                    go_wp2_with (go_at_call 31; refine (ldState_any HI2.out.ld).mono ?_; rw [hs, stP0]; rintro e wx ⟨rfl, hx⟩; subst wx)
                    go_meet
                    exact ⟨by rw [HH.out], rfl⟩
                  · obtain ⟨x, HX⟩ : ∃ x, Hid (bit acks m = x) := ⟨_, rfl⟩
                    obtain ⟨k1, k2⟩ := HAK.out hs
                    have hp := (pow_le7 (n := m) (by omega)).1
                    have hp2 := (pow_le7 (n := m) (by omega)).2
                    cases x with
                    | true =>
                      have HH : Hid (ak = acks) := by unfold Hid; rw [← HAk.out]; unfold acksD; rw [if_neg (by rw [HX.out]; simp)]
                      go_wp2_with (first | (go_at_call 31; refine (ldState_any HI2.out.ld).mono ?_; rw [hs, stP1]; rintro e wx ⟨rfl, hx⟩; subst wx) | (go_at_call 32; refine (rHas_is acks m true _ (by omega) k1 (by omega) HX.out).mono ?_; rintro e wx ⟨rfl, hx⟩; subst wx))
                      go_meet
                      exact ⟨by rw [HH.out], rfl⟩
                    | false =>
                      obtain rfl : ak = acks + 2 ^ m := by rw [← HAk.out]; unfold acksD; rw [if_pos ⟨rfl, rfl, hs, HX.out⟩]
                      go_wp2_with (first | (go_at_call 31; refine (ldState_any HI2.out.ld).mono ?_; rw [hs, stP1]; rintro e wx ⟨rfl, hx⟩; subst wx) | (go_at_call 32; refine (rHas_is acks m false _ (by omega) k1 (by omega) HX.out).mono ?_; rintro e wx ⟨rfl, hx⟩; subst wx) | (go_at_call 33; refine (two_any m _ (by omega)).mono ?_; rintro e wx ⟨rfl, hx⟩; subst wx))
                      go_meet
                      exact ⟨rfl, rfl⟩
                  · have HH : Hid (ak = acks) := by unfold Hid; rw [← HAk.out]; unfold acksD; rw [if_neg (by omega)]
                    go_wp2_with (go_at_call 31; refine (ldState_any HI2.out.ld).mono ?_; rw [hs, stP3]; rintro e wx ⟨rfl, hx⟩; subst wx)
                    go_meet
                    exact ⟨by rw [HH.out], rfl⟩
              · have e6 : (sk == 6) = false := beq_eq_false_iff_ne.2 t1
                have HH : Hid (ak = acks) := by unfold Hid; rw [← HAk.out]; unfold acksD; rw [if_neg (by omega)]
                go_wp2_with fail
                go_meet
                exact ⟨by rw [HH.out], rfl⟩
          obtain ⟨rfl, rfl⟩ := hcut
          iterate 2 go_step
          obtain ⟨no', HNo⟩ : ∃ x, Hid (noD no sk sy = x) := ⟨_, rfl⟩
          go_cut [11] from 62 to 193 (fun s11 wx => s11 = .bool no' ∧ Z = wx)
          case first =>
            as_aux_lemma =>
              by_cases t1 : sk = 2
              · subst t1
                cases sy with
                | false =>
                  obtain rfl : no' = true := by rw [← HNo.out]; simp [noD]
                  go_wp2_with fail
                  go_meet
                  exact ⟨rfl, rfl⟩
                | true =>
                  have HH : Hid (no' = no) := by unfold Hid; rw [← HNo.out]; simp [noD]
                  go_wp2_with fail
                  go_meet
                  exact ⟨by rw [HH.out], rfl⟩
              · have e6 : (sk == 2) = false := beq_eq_false_iff_ne.2 t1
                have HH : Hid (no' = no) := by unfold Hid; rw [← HNo.out]; simp [noD, t1]
                go_wp2_with fail
                go_meet
                exact ⟨by rw [HH.out], rfl⟩
          obtain ⟨rfl, rfl⟩ := hcut
          iterate 2 go_step
          obtain ⟨fx, HFx⟩ : ∃ x, Hid (decide (s1 = 2 ∨ s1 = 3) = x) := ⟨_, rfl⟩
          go_cut [16] from 62 to 193 (fun s16 wx => s16 = .bool fx ∧ Z = wx)
          case first =>
            as_aux_lemma =>
              go_wp2_with (go_at_call 34; refine (lfinal_is s1 fx _ HFx.out).mono ?_; rintro e wx ⟨rfl, hx⟩; subst wx)
              go_meet
              exact ⟨rfl, rfl⟩
          obtain ⟨rfl, rfl⟩ := hcut
          iterate 2 go_step
          obtain ⟨fin', HFi⟩ : ∃ x, Hid (finD fin sk sy s1 = x) := ⟨_, rfl⟩
          go_cut [12] from 62 to 193 (fun s12 wx => s12 = .int .i64 fin' ∧ Z = wx)
          case first =>
            as_aux_lemma =>
              by_cases t1 : sk = 4
              · subst t1
                cases sy with
                | false =>
                  have HH : Hid (fin' = fin) := by unfold Hid; rw [← HFi.out]; unfold finD; rw [if_neg (by simp)]
                  go_wp2_with fail
                  go_meet
                  exact ⟨by rw [HH.out], rfl⟩
                | true =>
                  cases fx with
                  | false =>
                    have HH : Hid (fin' = fin) := by unfold Hid; rw [← HFi.out]; unfold finD; rw [if_neg (fun x => of_decide_eq_false HFx.out x.2.2)]
                    go_wp2_with fail
                    go_meet
                    exact ⟨by rw [HH.out], rfl⟩
                  | true =>
                    have HH : Hid (fin' = s1) := by unfold Hid; rw [← HFi.out]; unfold finD; rw [if_pos ⟨rfl, rfl, of_decide_eq_true HFx.out⟩]
                    go_wp2_with fail
                    go_meet
                    exact ⟨by rw [HH.out], rfl⟩
              · have e6 : (sk == 4) = false := beq_eq_false_iff_ne.2 t1
                have HH : Hid (fin' = fin) := by unfold Hid; rw [← HFi.out]; unfold finD; rw [if_neg (fun x => t1 x.1)]
                go_wp2_with fail
                go_meet
                exact ⟨by rw [HH.out], rfl⟩
          obtain ⟨rfl, rfl⟩ := hcut
          have HST := hid (step_di HI2.out.di z7 n2 sk sy s1 s2 s3)
          rw [HAk.out, HNo.out, HFi.out] at HST
          obtain ⟨R, HR⟩ : ∃ R, Hid (phear zs 0 0 att P ⟨(m : Int), 0, 0, sk, att, sy, s1, s2, s3⟩ = R) := ⟨_, rfl⟩
          rw [HR.out] at HST
          have HPs : Hid (P.stt < 4) := by have := HI2.out.di.st; unfold Hid; omega
          go_wp2_with fail
          refine (ldhear_of A (m : Int) 0 0 sk att sy s1 s2 s3 R HZ.out HPs.out (HE.out.later HI2.out.bel) HI2.out.ld HR.out).mono ?_
          rintro e w7 ⟨v7, rfl, hf7, hl7, hk7⟩
          clear d0 d1 d2 d3 d4 d5 d6 d7 d8
          obtain ⟨Q, o⟩ := R
          cases o with
          | none =>
            as_aux_lemma =>
              obtain ⟨ad7, cp7, rfl, -, -⟩ := hf7
              have HJ := hid (HI2.out.hear hl7 hk7 HST.out)
              clear hl7 hk7
              rw [show (outL 0 0 att zs.length none).length = 0 from rfl]
              go_wp2_with fail
              go_roundw
              case rel => exact ⟨k + 1, Q, ak, no', fin', phase, by omega, by go_num, rfl, rfl, rfl, rfl, HJ.out⟩
              case measure => simp [intOf]; omega
          | some kp =>
            obtain ⟨kk, p⟩ := kp
            obtain ⟨ad7, cp7, rfl, hfl, -⟩ := hf7
            have hlen : (outL 0 0 att zs.length (some (kk, p))).length = zs.length := toL_length _ _ _ _ _ _
            rw [hlen]
            obtain ⟨ob, oo, rfl, hc7⟩ := hfl 0 (by rw [hlen]; omega)
            have hx : (outL 0 0 att zs.length (some (kk, p)))[0]'(by rw [hlen]; omega) = ⟨0, 0, 0, kk, att, false, p, 0, 0⟩ := toL_first _ _ _ _ _ z1
            rw [hx] at hc7
            obtain ⟨d0, d1, d2, d3, d4, d5, d6, d7, d8⟩ := nineO (o := oo) (fun j hj => by have := hc7 j hj; rw [show oo + 0 * 9 + j = oo + j by omega] at this; exact this)
            simp only at d0 d1 d2 d3 d4 d5 d6 d7 d8
            have nz : ¬ (zs.length : Int) = 0 := by omega
            have nz2 : ((zs.length : Int) == 0) = false := beq_eq_false_iff_ne.2 nz
            have nz3 : (0 : Int) < (zs.length : Int) := by omega
            have nz4 : 0 < zs.length := by omega
            clear hfl hc7 hx hlen
            rcases HST.out with ⟨rfl, hd⟩ | ⟨rfl, hq, hw⟩
            · as_aux_lemma =>
                have HJ := hid (HI2.out.hear hl7 hk7 hd)
                clear hl7 hk7 hd
                go_wp2_with fail
                go_roundw
                case rel => exact ⟨k + 1, Q, ak, no', fin', p, by omega, by go_num, rfl, rfl, rfl, rfl, HJ.out⟩
                case measure => simp [intOf]; omega
            · have HLd := hid hl7
              have HBl : Hid (Below w.heap.size w w7) := hk7.below HI2.out.bel.size (fun i e => by have h1 : i = lb := e; have h2 := HI2.out.ld.bl; have h3 := HI2.out.b0; omega) HI2.out.bel
              have HQ := hid hq
              clear hl7 hk7 hq
              have HVw : Hid (∀ i, i < zs.length → w7.cell? ⟨vb, vo + i, none⟩ = some (.int .i64 (zs.getD i 0))) := fun i hi => cell_later HBl.out (HVC.out i hi)
              rcases hw with ⟨j1, j2, j3, j4, j5⟩ | ⟨j1, j2, j3, j4⟩ | ⟨j1, j2, j3, j4⟩
              · as_aux_lemma =>
                  have hp7 := (pow_le7 z7).1
                  have HEn := hid j3
                  have HAf := hid j2
                  clear j3 j2 HST HVC HL HS
                  go_wp2_with (first | (go_at_call 31; refine (ldState_any HLd.out).mono ?_; rw [HQ.out, stP2]; rintro e wx ⟨rfl, hx⟩; subst wx) | (go_at_call 36; refine (rafter_any phase _).mono ?_; rw [← HAf.out]; rintro e wx ⟨rfl, hx⟩; subst wx) | (go_at_call 37; refine (rEnough_is vb vo capv zs ak true _ z7 HOk.out j4 (by omega) HVw.out HEn.out).mono ?_; rintro e wx ⟨rfl, hx⟩; subst wx))
                  go_ret
                  exact ⟨rfl, HBl.out⟩
              · as_aux_lemma =>
                  have ea : (att == 0) = true := beq_iff_eq.2 j2
                  subst j3
                  subst j4
                  clear HST HVC HL HS
                  go_wp2_with (go_at_call 31; refine (ldState_any HLd.out).mono ?_; rw [HQ.out, stP2]; rintro e wx ⟨rfl, hx⟩; subst wx)
                  go_ret
                  exact ⟨rfl, HBl.out⟩
              · as_aux_lemma =>
                  have ea : (att == 0) = false := beq_eq_false_iff_ne.2 j2
                  clear HST HVC HL HS
                  rcases j4 with rfl | rfl
                  · go_wp2_with (go_at_call 31; refine (ldState_any HLd.out).mono ?_; rw [HQ.out, stP2]; rintro e wx ⟨rfl, hx⟩; subst wx)
                    go_ret
                    exact ⟨rfl, HBl.out⟩
                  · go_wp2_with (go_at_call 31; refine (ldState_any HLd.out).mono ?_; rw [HQ.out, stP2]; rintro e wx ⟨rfl, hx⟩; subst wx)
                    go_ret
                    exact ⟨rfl, HBl.out⟩
        · as_aux_lemma =>
            have n3 : (zs.length : Int) ≤ (m : Int) := by omega
            go_upto_if 85 with fail
            rw [HZw.out]
            go_wp2_with fail
            go_roundw
            case rel => exact ⟨k + 1, P, acks, no, fin, phase, by omega, by go_num, rfl, rfl, rfl, rfl, HI2.out⟩
            case measure => simp [intOf]; omega
    · obtain rfl : k = L.length := by omega
      go_wp2_with fail
      go_ret
      exact ⟨rfl, HI.out.bel⟩
end Go.Proofs.YtkopfpaldmapdaaDoor
