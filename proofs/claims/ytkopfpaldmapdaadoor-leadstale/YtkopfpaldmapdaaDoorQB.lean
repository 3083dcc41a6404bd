/-
  THE LAW LeadStale: its walk.
-/
import Derived.Test.YtkopfpaldmapdaaDoorL1S
import Derived.Test.YtkopfpaldmapdaaDoorQA
namespace Go.Proofs.YtkopfpaldmapdaaDoor
open Go.RowKit

/-- What is not for this lead is passed over. -/
theorem stale_pass {zs : List Int} {att : Int} {P : PL} {f : F9} (h : ¬ (f.a = att ∧ f.d = 0 ∧ f.t = 0 ∧ 0 ≤ f.f ∧ f.f < zs.length)) : phear zs 0 0 att P f = (P, none) := by
  unfold phear
  rw [if_neg (fun ht => ?_)]
  obtain ⟨⟨h1, h2, h3⟩, -, ⟨h4, h5⟩, -⟩ := takesB_in ht
  exact h ⟨h3, h2, h1, h4, h5⟩
theorem ldhear_is {w : World} {lb b cap id : Nat} {deal att : Int} {zs : List Int} {P : PL} (A : Nat → Addr) (f t d k a : Int) (y : Bool) (p1 p2 p3 : Int) (R : PL × Option (Int × Int)) (he : errW zs = 0) (hs : P.stt < 4) (hE : Held3 w A) (h : LD w lb b cap id deal att zs P) (hR : phear zs id deal att P ⟨f, t, d, k, a, y, p1, p2, p3⟩ = R) :
    Calls Tryd.prog 35 #[.pointer (some ⟨lb, 0, none⟩), frV f t d k a y p1 p2 p3] w fun e w' => ∃ v, e = .returned v ∧ FrB w.heap.size w' v (outL id deal att zs.length R.2) ∧ LD w' lb b cap id deal att zs R.1 ∧ Kept (In1 lb) w w' := by
  subst hR; exact ldhear_any A f t d k a y p1 p2 p3 he hs hE h
set_option maxHeartbeats 8000000 in
set_option maxRecDepth 100000 in
theorem stale_small (A : Nat → Addr) (v : Value) (zs : List Int) (att : Int) (aL aM : Option Addr) (cL cM : Nat) (L M : List F9) (w : World) (hv : IsSl w v zs) (hE : Held3 w A) (hL : FL w aL L) (hM : FL w aM M)
    (h : errW zs = 0 ∧ 1 ≤ att ∧ att ≤ 1048576 ∧ L.length ≤ 60 ∧ M.length ≤ 60) :
    Calls Tryd.prog 7 #[v, .int .i64 att, .slice aL L.length cL, .slice aM M.length cM] w fun e w' => e = .returned (.bool true) ∧ Below w.heap.size w w' := by
  have HS := hid hv
  have HE := hid hE
  have HL := hid hL
  have HM := hid hM
  obtain ⟨he, a0, a1, l60, m60⟩ := h
  have HZ := hid he
  obtain ⟨z1, z7, -, -⟩ := errW_zero he
  obtain ⟨av, capv, rfl, -, -, -⟩ := hv
  clear hE hL hM he
  have g2 : ¬ att < 1 := by omega
  have g3 : ¬ 1048576 < att := by omega
  have g4 : ¬ (60 : Int) < (L.length : Int) := by omega
  have g5 : ¬ (60 : Int) < (M.length : Int) := by omega
  go_enter Tryd.func7, Tryd.ntmps7
  go_wp2_with fail
  refine (leads_any A w HE.out).mono ?_
  rintro e w1 ⟨rfl, hb⟩
  have HS1 := hid (HS.out.later hb)
  have HB1 := hid hb
  clear hb
  go_wp2_with (go_at_call 27; refine (rErr_is _ zs 0 _ HS1.out HZ.out).mono ?_; rintro e wx ⟨rfl, hx⟩; subst wx)
  refine (ownInts_any _ zs w1 HS1.out (by omega)).mono ?_
  rintro e w2 ⟨v2, rfl, hv2, hb⟩
  have HV2 := hid hv2
  have HB2 := hid (below_trans HB1.out hb)
  have HE2 := hid (HE.out.later HB2.out)
  clear hb hv2
  obtain ⟨av2, capv2, rfl, -, -, -⟩ := HV2.out
  go_wp2_with fail
  refine (ldTry_ok A _ zs 0 0 att w2 HV2.out HE2.out HZ.out (by omega) (by decide) (by decide) a0 a1).mono ?_
  rintro e w3 ⟨lx, bx, cx, rfl, hlx, hb, hgx⟩
  have HX := hid hlx
  have hx0 : w.heap.size ≤ bx := Nat.le_trans HB2.out.size hgx
  have HB3 := hid (below_trans HB2.out hb)
  have HS3 := hid (HS.out.later HB3.out)
  clear hb hlx hgx
  go_wp2_with fail
  refine (ownInts_any _ zs w3 HS3.out (by omega)).mono ?_
  rintro e w4 ⟨v4, rfl, hv4, hb⟩
  have HV4 := hid hv4
  have HX4 := hid (HX.out.later hb)
  have HB4 := hid (below_trans HB3.out hb)
  have HE4 := hid (HE.out.later HB4.out)
  clear hb hv4
  obtain ⟨av4, capv4, rfl, -, -, -⟩ := HV4.out
  go_wp2_with fail
  refine (ldTry_ok A _ zs 0 0 att w4 HV4.out HE4.out HZ.out (by omega) (by decide) (by decide) a0 a1).mono ?_
  rintro e w5 ⟨ly, by_, cy, rfl, hly, hb, hgy⟩
  have HI0 : Hid (SI w w5 lx bx cx ly by_ cy att zs P0) := ⟨HX4.out.later hb, hly, below_trans HB4.out hb, hx0, Nat.lt_of_lt_of_le (row_ltJ HX4.out.row) hgy, by decide⟩
  clear hb hly hgy
  go_wp2_with fail
  go_loopw [14] (fun i wr => ∃ (k : Nat) (P : PL), k ≤ L.length ∧ i = .int .i64 (k : Int) ∧ SI w wr lx bx cx ly by_ cy att zs P) (fun i _ => L.length - (intOf i).toNat)
  case atStart => exact ⟨0, P0, Nat.zero_le _, rfl, HI0.out⟩
  case round =>
    obtain ⟨k, P, hk, rfl, hI⟩ := hrel
    have HI := hid hI
    clear hI
    by_cases hlt : k < L.length
    · have hltI : (k : Int) < (L.length : Int) := by omega
      obtain ⟨b1, o1, rfl, q1⟩ := (HL.out.later HI.out.bel) k hlt
      obtain ⟨mm, HMM⟩ : ∃ b : Bool, Hid (decide ((k : Int) < (M.length : Int)) = b) := ⟨_, rfl⟩
      have hmm := HMM.out
      go_upto_if 80 with fail
      go_cut [15] from 71 to 132 (fun _ wx => SI w wx lx bx cx ly by_ cy att zs P)
      case first =>
        cases mm with
        | false =>
          have hmI : ¬ (k : Int) < (M.length : Int) := of_decide_eq_false hmm
          go_wp2_with fail
          go_meet
          exact HI.out
        | true =>
          have hm : k < M.length := by have := of_decide_eq_true hmm; omega
          have hmI : (k : Int) < (M.length : Int) := by omega
          obtain ⟨b2, o2, rfl, q2⟩ := (HM.out.later HI.out.bel) k hm
          generalize M[k]'hm = s at q2
          obtain ⟨sf, st, sd, sk, sa, sy, s1, s2, s3⟩ := s
          obtain ⟨c0, c1, c2, c3, c4, c5, c6, c7, c8⟩ := nineO q2
          simp only at c0 c1 c2 c3 c4 c5 c6 c7 c8
          clear q2
          go_step
          go_step
          go_cut [15] from 71 to 132 (fun s15 wx => s15 = .pointer (some ⟨wr.heap.size, 0, none⟩) ∧ wx.heap[wr.heap.size]? = some (.cells #[.int .i64 sf, .int .i64 st, .int .i64 sd, .int .i64 sk, .int .i64 sa, .bool sy, .int .i64 s1, .int .i64 s2, .int .i64 s3] 36 (0, 0)) ∧ Below wr.heap.size wr wx)
          case first =>
            go_wp2_with fail
            go_meet
            exact ⟨rfl, heap_alloc_new wr _, (Below.refl _ _).alloc (Nat.le_refl _) _⟩
          obtain ⟨rfl, hrow, hbel⟩ := hcut
          have HRow := hid hrow
          have HI9 := hid (HI.out.later hbel)
          have hw9 : wr.heap.size < wc.heap.size := row_ltJ hrow
          clear hrow hbel c0 c1 c2 c3 c4 c5 c6 c7 c8
          obtain ⟨c0, c1, c2, c3, c4, c5, c6, c7, c8⟩ := nine HRow.out
          generalize wc = Y at *
          by_cases ng1 : sa = att
          · rw [ng1] at c4
            by_cases ng2 : sd = 0
            · rw [ng2] at c2
              by_cases ng3 : st = 0
              · rw [ng3] at c1
                by_cases ng4 : 0 ≤ sf
                · obtain ⟨m, rfl⟩ := Int.eq_ofNat_of_zero_le ng4
                  by_cases ng5 : (m : Int) < (zs.length : Int)
                  · have ng6 : m < zs.length := by omega
                    have z4 := frozen_of_row Y wr.heap.size 4 _ _ HRow.out
                    have HIx : Hid (SI w (Y.setCell ⟨wr.heap.size, 4, none⟩ (.int .i64 (att - 1))) lx bx cx ly by_ cy att zs P) := by
                      have hk : Kept (In1 wr.heap.size) Y (Y.setCell ⟨wr.heap.size, 4, none⟩ (.int .i64 (att - 1))) := (Kept.refl _ _).set1 4 _
                      have r1 := row_ltJ HI.out.x.row
                      have r2 := row_ltJ HI.out.y.row
                      have r3 := HI.out.x.bl
                      have r4 := HI.out.y.bl
                      exact ⟨HI9.out.x.kept hk (fun e => by have : lx = wr.heap.size := e; omega) (fun e => by have : bx = wr.heap.size := e; omega), HI9.out.y.kept hk (fun e => by have : ly = wr.heap.size := e; omega) (fun e => by have : by_ = wr.heap.size := e; omega), hk.below HI9.out.bel.size (fun i e => by rw [show i = wr.heap.size from e]; exact HI.out.bel.size) HI9.out.bel, HI9.out.x0, HI9.out.yx, HI9.out.st⟩
                    go_wp2_with fail
                    refine (ldhear_any A (m : Int) 0 0 sk (att - 1) sy s1 s2 s3 HZ.out HIx.out.st (HE.out.later HIx.out.bel) HIx.out.y).mono ?_
                    rw [stale_pass (f := ⟨(m : Int), 0, 0, sk, (att - 1), sy, s1, s2, s3⟩) (fun x => by have h1 : att - 1 = att := x.1; omega)]
                    rintro e w7 ⟨v7, rfl, ⟨ad7, cap7, rfl, -, -⟩, hl7, hk7⟩
                    have HI7 := hid (HIx.out.pass hl7 hk7)
                    clear hl7 hk7
                    rw [show (outL 0 0 att zs.length none).length = 0 from rfl]
                    go_wp2_with fail
                    go_meet
                    exact HI7.out
                  · have ng6 : ¬ m < zs.length := by omega
                    have HF : Hid (¬ ((m : Int) < (zs.length : Int))) := by unfold Hid; omega
                    go_wp2_with fail
                    refine (ldhear_any A (m : Int) 0 0 sk att sy s1 s2 s3 HZ.out HI9.out.st (HE.out.later HI9.out.bel) HI9.out.y).mono ?_
                    rw [stale_pass (f := ⟨(m : Int), 0, 0, sk, att, sy, s1, s2, s3⟩) (fun x => by have h1 : (m : Int) < (zs.length : Int) := x.2.2.2.2; have h2 := HF.out; omega)]
                    rintro e w7 ⟨v7, rfl, ⟨ad7, cap7, rfl, -, -⟩, hl7, hk7⟩
                    have HI7 := hid (HI9.out.pass hl7 hk7)
                    clear hl7 hk7
                    rw [show (outL 0 0 att zs.length none).length = 0 from rfl]
                    go_wp2_with fail
                    go_meet
                    exact HI7.out
                · have e4 : decide (0 ≤ sf) = false := decide_eq_false ng4
                  have HF : Hid (¬ (0 ≤ sf)) := by unfold Hid; omega
                  go_wp2_with fail
                  refine (ldhear_any A sf 0 0 sk att sy s1 s2 s3 HZ.out HI9.out.st (HE.out.later HI9.out.bel) HI9.out.y).mono ?_
                  rw [stale_pass (f := ⟨sf, 0, 0, sk, att, sy, s1, s2, s3⟩) (fun x => by have h1 : 0 ≤ sf := x.2.2.2.1; have h2 := HF.out; omega)]
                  rintro e w7 ⟨v7, rfl, ⟨ad7, cap7, rfl, -, -⟩, hl7, hk7⟩
                  have HI7 := hid (HI9.out.pass hl7 hk7)
                  clear hl7 hk7
                  rw [show (outL 0 0 att zs.length none).length = 0 from rfl]
                  go_wp2_with fail
                  go_meet
                  exact HI7.out
              · have e3 : (st == 0) = false := beq_eq_false_iff_ne.2 ng3
                go_wp2_with fail
                refine (ldhear_any A sf st 0 sk att sy s1 s2 s3 HZ.out HI9.out.st (HE.out.later HI9.out.bel) HI9.out.y).mono ?_
                rw [stale_pass (f := ⟨sf, st, 0, sk, att, sy, s1, s2, s3⟩) (fun x => ng3 x.2.2.1)]
                rintro e w7 ⟨v7, rfl, ⟨ad7, cap7, rfl, -, -⟩, hl7, hk7⟩
                have HI7 := hid (HI9.out.pass hl7 hk7)
                clear hl7 hk7
                rw [show (outL 0 0 att zs.length none).length = 0 from rfl]
                go_wp2_with fail
                go_meet
                exact HI7.out
            · have e2 : (sd == 0) = false := beq_eq_false_iff_ne.2 ng2
              go_wp2_with fail
              refine (ldhear_any A sf st sd sk att sy s1 s2 s3 HZ.out HI9.out.st (HE.out.later HI9.out.bel) HI9.out.y).mono ?_
              rw [stale_pass (f := ⟨sf, st, sd, sk, att, sy, s1, s2, s3⟩) (fun x => ng2 x.2.1)]
              rintro e w7 ⟨v7, rfl, ⟨ad7, cap7, rfl, -, -⟩, hl7, hk7⟩
              have HI7 := hid (HI9.out.pass hl7 hk7)
              clear hl7 hk7
              rw [show (outL 0 0 att zs.length none).length = 0 from rfl]
              go_wp2_with fail
              go_meet
              exact HI7.out
          · have e1 : (sa == att) = false := beq_eq_false_iff_ne.2 ng1
            go_wp2_with fail
            refine (ldhear_any A sf st sd sk sa sy s1 s2 s3 HZ.out HI9.out.st (HE.out.later HI9.out.bel) HI9.out.y).mono ?_
            rw [stale_pass (f := ⟨sf, st, sd, sk, sa, sy, s1, s2, s3⟩) (fun x => ng1 x.1)]
            rintro e w7 ⟨v7, rfl, ⟨ad7, cap7, rfl, -, -⟩, hl7, hk7⟩
            have HI7 := hid (HI9.out.pass hl7 hk7)
            clear hl7 hk7
            rw [show (outL 0 0 att zs.length none).length = 0 from rfl]
            go_wp2_with fail
            go_meet
            exact HI7.out
      have HI2 := hid hcut
      clear hcut HI
      generalize wc = X at *
      have HC : Hid (∀ V : World, Below w.heap.size w V → ∀ j, j < 9 → V.cell? ⟨b1, o1 + k * 9 + j, none⟩ = (f9L (L[k]'hlt))[j]?) := by
        intro V hV
        obtain ⟨b', o', e', q'⟩ := (HL.out.later hV) k hlt
        cases e'
        exact q'
      clear q1
      generalize L[k]'hlt = y at HC
      obtain ⟨yf, yt, yd, yk, ya, yy, y1, y2, y3⟩ := y
      obtain ⟨d0, d1, d2, d3, d4, d5, d6, d7, d8⟩ := nineO (HC.out X HI2.out.bel)
      simp only at d0 d1 d2 d3 d4 d5 d6 d7 d8
      obtain ⟨R, HR⟩ : ∃ R, Hid (phear zs 0 0 att P ⟨yf, yt, yd, yk, ya, yy, y1, y2, y3⟩ = R) := ⟨_, rfl⟩
      have HRs : Hid (R.1.stt < 4) := by rw [← HR.out]; exact phear_st HI2.out.st
      have HID := hid HI2.out.drew
      have HED := hid (HE.out.later HID.out.bel)
      have HPs := hid HI2.out.st
      have HO : Hid ((outL 0 0 att zs.length R.2).length ≤ 1000) := Nat.le_trans (outL_le _ _ _ _ _) (by omega)
      go_wp2_with fail
      go_region_held3 (fun w' => w'.cell? ⟨b1, o1 + k * 9, none⟩ = some (.int .i64 yf) ∧ w'.cell? ⟨b1, o1 + k * 9 + 1, none⟩ = some (.int .i64 yt) ∧ w'.cell? ⟨b1, o1 + k * 9 + 2, none⟩ = some (.int .i64 yd) ∧ w'.cell? ⟨b1, o1 + k * 9 + 3, none⟩ = some (.int .i64 yk) ∧ w'.cell? ⟨b1, o1 + k * 9 + 4, none⟩ = some (.int .i64 ya) ∧ w'.cell? ⟨b1, o1 + k * 9 + 5, none⟩ = some (.bool yy) ∧ w'.cell? ⟨b1, o1 + k * 9 + 6, none⟩ = some (.int .i64 y1) ∧ w'.cell? ⟨b1, o1 + k * 9 + 7, none⟩ = some (.int .i64 y2) ∧ w'.cell? ⟨b1, o1 + k * 9 + 8, none⟩ = some (.int .i64 y3)) (go_keep) (first | (go_at_call 35; (with_reducible refine (ldhear_is A yf yt yd yk ya yy y1 y2 y3 R HZ.out HPs.out HED.out HID.out.x HR.out).mono ?_); rintro e w7 ⟨v7, rfl, hf7, hl7, hk7⟩; obtain ⟨hy7, hb7⟩ := HID.out.one hk7; have HF7 := hid hf7; have HX7 := hid hl7; have HK7 := hid hk7; have HY7 := hid hy7; have HE7 := hid (HE.out.later hb7); obtain ⟨f0, f1, f2, f3, f4, f5, f6, f7, f8⟩ := nineO (HC.out w7 hb7); simp only at f0 f1 f2 f3 f4 f5 f6 f7 f8; clear hf7 hl7 hk7 hy7 hb7) | (go_at_call 35; (with_reducible refine (ldhear_is A yf yt yd yk ya yy y1 y2 y3 R HZ.out HPs.out HE7.out HY7.out HR.out).mono ?_); rintro e w8 ⟨v8, rfl, hf8, hl8, hk8⟩; have HF8 := hid hf8; have HI8 := hid (HID.out.both HX7.out HK7.out hl8 hk8 HRs.out); have HG7 := hid (HF7.out.kept hk8 (fun i e => by rw [show i = ly from e]; exact row_ltJ HID.out.y.row)); obtain ⟨h0, h1, h2, h3, h4, h5, h6, h7, h8⟩ := nineO (HC.out w8 HI8.out.bel); simp only at h0 h1 h2 h3 h4 h5 h6 h7 h8; clear hf8 hl8 hk8) | (go_at_call 24; (with_reducible refine (same_list v7 v8 (outL 0 0 att zs.length R.2) _ HG7.out.fr HF8.out.fr HO.out).mono ?_); rintro e w9 ⟨rfl, hb9⟩; have HI9 := hid (HI8.out.later hb9); obtain ⟨h0, h1, h2, h3, h4, h5, h6, h7, h8⟩ := nineO (HC.out w9 HI9.out.bel); simp only at h0 h1 h2 h3 h4 h5 h6 h7 h8; clear hb9))
      all_goals go_wp2_with fail
      all_goals go_roundw
      case rel => exact ⟨k + 1, R.1, by omega, by go_num, HI9.out⟩
      case measure => simp [intOf]; omega
    · obtain rfl : k = L.length := by omega
      go_wp2_with (first | (go_at_call 31; refine (ldState_any HI.out.x).mono ?_; rintro e wx ⟨rfl, hx⟩; subst wx) | (go_at_call 31; refine (ldState_any HI.out.y).mono ?_; rintro e wx ⟨rfl, hx⟩; subst wx) | (go_at_call 38; refine (ldSeen_any HI.out.x).mono ?_; rintro e wx ⟨rfl, hx⟩; subst wx) | (go_at_call 38; refine (ldSeen_any HI.out.y).mono ?_; rintro e wx ⟨rfl, hx⟩; subst wx))
      go_ret
      exact ⟨rfl, HI.out.bel⟩
end Go.Proofs.YtkopfpaldmapdaaDoor
