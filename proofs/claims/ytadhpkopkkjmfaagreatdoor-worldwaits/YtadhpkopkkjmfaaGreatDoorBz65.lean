/-
  On the way to WAgreesProof, WEndsProof, WWaitsProof: YJ.
-/
import Derived.Test.YtadhpkopkkjmfaaGreatDoorBz61
set_option maxHeartbeats 8000000
set_option maxRecDepth 100000
namespace Go.Proofs.YtadhpkopkkjmfaaGreatDoor
open Go.RowKit
theorem mkW1 (w : World) : (Instr.makeSlice 22 (.int .i64 6) (.int .i64 6)).run Tryz.prog w = .ok (.slice (some ⟨w.heap.size, 0, none⟩) 6 6) (w.alloc (.cells (wasC 1 (fun _ => 0)).toArray 3)) := by kernel_rfl
theorem mkW2 (w : World) : (Instr.makeSlice 22 (.int .i64 12) (.int .i64 12)).run Tryz.prog w = .ok (.slice (some ⟨w.heap.size, 0, none⟩) 12 12) (w.alloc (.cells (wasC 2 (fun _ => 0)).toArray 3)) := by kernel_rfl
theorem mkW3 (w : World) : (Instr.makeSlice 22 (.int .i64 18) (.int .i64 18)).run Tryz.prog w = .ok (.slice (some ⟨w.heap.size, 0, none⟩) 18 18) (w.alloc (.cells (wasC 3 (fun _ => 0)).toArray 3)) := by kernel_rfl
theorem mkW4 (w : World) : (Instr.makeSlice 22 (.int .i64 24) (.int .i64 24)).run Tryz.prog w = .ok (.slice (some ⟨w.heap.size, 0, none⟩) 24 24) (w.alloc (.cells (wasC 4 (fun _ => 0)).toArray 3)) := by kernel_rfl
theorem mkW5 (w : World) : (Instr.makeSlice 22 (.int .i64 30) (.int .i64 30)).run Tryz.prog w = .ok (.slice (some ⟨w.heap.size, 0, none⟩) 30 30) (w.alloc (.cells (wasC 5 (fun _ => 0)).toArray 3)) := by kernel_rfl
theorem mkW6 (w : World) : (Instr.makeSlice 22 (.int .i64 36) (.int .i64 36)).run Tryz.prog w = .ok (.slice (some ⟨w.heap.size, 0, none⟩) 36 36) (w.alloc (.cells (wasC 6 (fun _ => 0)).toArray 3)) := by kernel_rfl
theorem mkW7 (w : World) : (Instr.makeSlice 22 (.int .i64 42) (.int .i64 42)).run Tryz.prog w = .ok (.slice (some ⟨w.heap.size, 0, none⟩) 42 42) (w.alloc (.cells (wasC 7 (fun _ => 0)).toArray 3)) := by kernel_rfl
theorem mkWas (n : Nat) (h1 : 1 ≤ n) (h7 : n ≤ 7) (w : World) : (Instr.makeSlice 22 (.int .i64 (6 * (n : Int))) (.int .i64 (6 * (n : Int)))).run Tryz.prog w = .ok (.slice (some ⟨w.heap.size, 0, none⟩) (6 * n) (6 * n)) (w.alloc (.cells (wasC n (fun _ => 0)).toArray 3)) := by
  have h : n = 1 ∨ n = 2 ∨ n = 3 ∨ n = 4 ∨ n = 5 ∨ n = 6 ∨ n = 7 := by omega
  rcases h with rfl | rfl | rfl | rfl | rfl | rfl | rfl
  · exact mkW1 w
  · exact mkW2 w
  · exact mkW3 w
  · exact mkW4 w
  · exact mkW5 w
  · exact mkW6 w
  · exact mkW7 w
theorem wagrees_any (A : Nat → Addr) (v : Value) (zs : List Int) (ad : Option Addr) (cap : Nat) (xs : List Step4) (w : World) (hE : Held9 w A) (hv : IsSl w v zs) (hx : SIn w ad xs) (hm : xs.length ≤ maxLen) :
    Calls Tryz.prog 4 #[v, .slice ad xs.length cap] w fun e w' => e = .returned (.bool true) ∧ Below w.heap.size w w' := by
  unfold maxLen at hm
  have HE := hid hE
  have HV := hid hv
  have HX := hid hx
  obtain ⟨av, capv, rfl, hzm, -, -⟩ := hv
  unfold maxLen at hzm
  obtain ⟨n, HN⟩ : ∃ n, Hid (zs.length = n) := ⟨_, rfl⟩
  rw [HN.out] at HV hzm ⊢
  clear hE hx
  by_cases h30 : 30 < n
  · have e1 : (30 : Int) < (n : Int) := by omega
    go_enter Tryz.func4, Tryz.ntmps4
    go_wp2_with fail
    refine (born_any A w HE.out).mono ?_
    rintro e w1 ⟨rfl, hb⟩
    have HB1 := hid hb
    clear hb
    go_wp2_with fail
    go_ret
    exact ⟨rfl, HB1.out⟩
  · have e1 : ¬ (30 : Int) < (n : Int) := by omega
    by_cases h400 : 400 < xs.length
    · have e2 : (400 : Int) < (xs.length : Int) := by omega
      go_enter Tryz.func4, Tryz.ntmps4
      go_wp2_with fail
      refine (born_any A w HE.out).mono ?_
      rintro e w1 ⟨rfl, hb⟩
      have HB1 := hid hb
      clear hb
      go_wp2_with fail
      go_ret
      exact ⟨rfl, HB1.out⟩
    · have e2 : ¬ (400 : Int) < (xs.length : Int) := by omega
      go_enter Tryz.func4, Tryz.ntmps4
      go_wp2_with fail
      refine (born_any A w HE.out).mono ?_
      rintro e w1 ⟨rfl, hb⟩
      have HB1 := hid hb
      have HOwn := hid (ownInts_any _ zs w1 (HV.out.later hb) (by rw [HN.out]; omega))
      clear hb
      go_wp2_with fail
      refine HOwn.out.mono ?_
      rintro e w2 ⟨v2, rfl, hv2, hb2⟩
      have HV2 := hid hv2
      have HB2 := hid (below_trans HB1.out hb2)
      clear hv2 hb2
      by_cases he : errW zs = 0
      · obtain ⟨n1, n7, -, -⟩ := errW_zero he
        rw [HN.out] at n1 n7
        have HNew := hid (wnew_ok v2 HV2.out (HE.out.later HB2.out) he)
        go_wp2_with fail
        refine HNew.out.mono ?_
        rintro e w3 ⟨C, X, rfl, h3⟩
        have H3 := hid h3
        have HB3 := hid (below_trans HB2.out h3.bel)
        clear h3
        have hmk := mkWas n n1 n7 w3
        obtain ⟨W4, HW4⟩ : ∃ W4, Hid (w3.alloc (.cells (wasC n (fun _ => 0)).toArray 3) = W4) := ⟨_, rfl⟩
        rw [HW4.out] at hmk
        have HI0 : Hid (AgI w2 W4 zs X.xb w3.heap.size newX 0 (fun _ => 0) C X) := by
          have hb4 : Below w3.heap.size w3 W4 := by rw [← HW4.out]; exact (Below.refl _ _).alloc (Nat.le_refl _) _
          refine ⟨AX.new, H3.out.later hb4, rfl, ?_, by rw [← HW4.out, HN.out]; exact heap_alloc_new w3 _, H3.out.bel.size, fun s d _ hd => ?_⟩
          · rcases Nat.lt_or_ge (C w3.heap.size) 2000 with q | q
            · have := H3.out.lt _ q; omega
            · exact q
          · rw [stN_new s d hd]; exact ⟨by decide, by decide, .inl rfl⟩
        go_wp2_with fail
        clear hmk
        go_loopw [9] (fun v wr => ∃ (k : Nat) (V : PX) (F : Nat → Nat) (C' : Nat → Nat) (X' : XB), k ≤ xs.length ∧ v = .int .i64 (k : Int) ∧ Hid (AgI w2 wr zs X.xb w3.heap.size V (42 * k) F C' X')) (fun v _ => xs.length - (intOf v).toNat)
        case atStart => exact ⟨0, newX, fun _ => 0, C, X, Nat.zero_le _, rfl, HI0.out⟩
        case round =>
          obtain ⟨k, V, F, C1, X1, hk, rfl, HI⟩ := hrel
          by_cases hlt : k < xs.length
          · obtain ⟨hn9, b, o, rfl, y0, y1, y2, y3⟩ := ((HX.out.later HB2.out).later HI.out.wd.bel) k hlt
            obtain ⟨⟨xk, xS, xD, xN⟩, HS⟩ : ∃ e, Hid (xs[k]'hlt = e) := ⟨_, rfl⟩
            rw [HS.out] at y0 y1 y2 y3 hn9
            have HAct := hid (act_any xk xS xD xN HI.out.wd (HE.out.later HB2.out) (by omega) hn9)
            rw [HI.out.xb] at HAct
            go_wp2_with fail
            refine HAct.out.mono ?_
            rintro e w5 ⟨rfl, ho⟩
            obtain ⟨V2, C2, X2, hI2, -, -⟩ := HI.out.act (by omega) ho
            have HI2 := hid hI2
            clear ho hI2 y0 y1 y2 y3 HAct
            go_wp2_with fail
            go_loopw [10] (fun v wr => ∃ (d : Nat) (F2 : Nat → Nat), d ≤ 6 ∧ v = .int .i64 (d : Int) ∧ Hid (AgI w2 wr zs X.xb w3.heap.size V2 (42 * k + 42) F2 C2 X2)) (fun v _ => 6 - (intOf v).toNat)
            case atStart => exact ⟨0, F, Nat.zero_le _, rfl, HI2.out⟩
            case round =>
              obtain ⟨d, F2, hd6, rfl, HId⟩ := hrel
              by_cases hdl : d < 6
              · have hd' : (d : Int) < 6 := by omega
                by_cases h5 : k % 5 = 0
                · have h5' : (Int.tmod (k : Int) 5 == 0) = true := by rw [Int.tmod_eq_emod_of_nonneg (by omega)]; exact beq_iff_eq.2 (by omega)
                  have HStt := hid (states_any d n HId.out.wd (HE.out.later HB2.out) hdl HN.out)
                  rw [HId.out.xb] at HStt
                  go_wp2_with fail
                  refine HStt.out.mono ?_
                  rintro e w6 ⟨adS, capS, rfl, hsl, hb6, hlow6⟩
                  have HNe : Hid (∀ p, adS = some p → ¬ In1 w3.heap.size p.block) := fun p hp e => by have h1 := hlow6 p hp; have h2 := row_ltJ HId.out.row; have h3 : p.block = w3.heap.size := e; omega
                  have HId6 := hid (HId.out.later hb6)
                  have HSL := hid hsl
                  have HLen := hid (stsL_length V2 d n)
                  have HAg : Hid (AgF (stsL V2 d n) 0 n) := by have := ax_agree HId.out.ax hdl; rw [HN.out] at this; exact this
                  have HJA := hid (jagree_any A adS capS (stsL V2 d n) 0 n w6 (HId6.out.wd.held (HE.out.later HB2.out)) hsl (by rw [HLen.out]; omega) HAg.out)
                  rw [HLen.out] at HJA
                  clear hsl hb6 HStt
                  go_wp2_with fail
                  refine HJA.out.mono ?_
                  rintro e w7 ⟨v7, rfl, hv7, hb7⟩
                  obtain rfl := hv7.nil
                  have HId7 := hid (HId6.out.later hb7)
                  have HSL7 := hid (HSL.out.later hb7)
                  clear hv7 hb7 HJA hlow6
                  go_wp2_with fail
                  go_loopw [13] (fun v wr => ∃ (s : Nat) (F3 : Nat → Nat), s ≤ n ∧ v = .int .i64 (s : Int) ∧ Hid (AgI w2 wr zs X.xb w3.heap.size V2 (42 * k + 42) F3 C2 X2 ∧ SL wr adS (stsL V2 d n))) (fun v _ => n - (intOf v).toNat)
                  case atStart => exact ⟨0, F2, Nat.zero_le _, rfl, HId7.out, HSL7.out⟩
                  case round =>
                    obtain ⟨s, F3, hsn, rfl, HIs⟩ := hrel
                    by_cases hsl : s < n
                    · have hsl' : (s : Int) < (n : Int) := by omega
                      obtain ⟨bS, oS, hadS, z0, -, -⟩ := HIs.out.2 s (by rw [stsL_length]; exact hsl)
                      rw [stsL_get] at z0
                      subst hadS
                      obtain ⟨ph, HPh⟩ : ∃ ph, Hid ((stN (V2.nd s) d).ph = ph) := ⟨_, rfl⟩
                      rw [HPh.out] at z0
                      obtain ⟨q, HQ⟩ : ∃ q, Hid (d * n + s = q) := ⟨_, rfl⟩
                      have hq6 : q < 6 * n := by
                        rw [← HQ.out]
                        have : d * n ≤ 5 * n := Nat.mul_le_mul_right n (by omega)
                        omega
                      obtain ⟨dn, HDn⟩ : ∃ dn, Hid (d * n = dn) := ⟨_, rfl⟩
                      have hdn1 : (d : Int) * (n : Int) = (dn : Int) := by rw [← HDn.out]; simp
                      have hdn2 : dn ≤ 42 := by
                        rw [← HDn.out]
                        exact Nat.le_trans (Nat.mul_le_mul (show d ≤ 6 by omega) n7) (by decide)
                      have hdn3 : (dn : Int) + (s : Int) = (q : Int) := by rw [← HQ.out, HDn.out]; simp
                      have f0 : wr.cell? ⟨w3.heap.size, q, none⟩ = some (.int .i64 (F3 q : Int)) := by rw [cell_of_row _ _ _ _ _ _ HIs.out.1.row, List.getElem?_toArray, HN.out]; exact wasC_get n F3 hq6
                      have z1 := frozen_of_row _ _ q _ _ HIs.out.1.row
                      have HMay : Hid (mayN (F3 q) ph) := by have := HIs.out.1.may s d (by rw [HN.out]; exact hsl) hdl; rw [HN.out, HQ.out, HPh.out] at this; exact this
                      have HSt := hid (HIs.out.1.store (q := q) (p := ph) (by rw [HN.out]; exact hsl) hdl (by rw [HN.out]; exact HQ.out) HPh.out)
                      have HSLn : Hid (SL (wr.setCell ⟨w3.heap.size, q, none⟩ (.int .i64 (ph : Int))) (some ⟨bS, oS, none⟩) (stsL V2 d n)) := HIs.out.2.kept HSt.out.2 HNe.out
                      go_wp2_with fail
                      refine (rmay_yes (F3 q) ph _ HMay.out).mono ?_
                      rintro e w8 ⟨rfl, hx⟩
                      subst w8
                      go_wp2_with fail
                      go_roundw
                      case rel => exact ⟨s + 1, setF F3 q ph, by omega, by go_num, HSt.out.1, HSLn.out⟩
                      case measure => simp [intOf]; omega
                    · have hsl' : ¬ (s : Int) < (n : Int) := by omega
                      go_wp2_with fail
                      go_roundw
                      case rel => exact ⟨d + 1, F3, by omega, by go_num, HIs.out.1⟩
                      case measure => simp [intOf]; omega
                · have h5' : (Int.tmod (k : Int) 5 == 0) = false := by rw [Int.tmod_eq_emod_of_nonneg (by omega)]; exact beq_eq_false_iff_ne.2 (by omega)
                  go_wp2_with fail
                  go_roundw
                  case rel => exact ⟨k + 1, V2, F2, C2, X2, by omega, by go_num, by rw [show 42 * (k + 1) = 42 * k + 42 by omega]; exact HId.out⟩
                  case measure => simp [intOf]; omega
              · have hd' : ¬ (d : Int) < 6 := by omega
                go_wp2_with fail
                go_roundw
                case rel => exact ⟨k + 1, V2, F2, C2, X2, by omega, by go_num, by rw [show 42 * (k + 1) = 42 * k + 42 by omega]; exact HId.out⟩
                case measure => simp [intOf]; omega
          · have hlt' : ¬ ((k : Int) < (xs.length : Int)) := by omega
            go_wp2_with fail
            go_loopw [15] (fun v wr => ∃ d : Nat, d ≤ 6 ∧ v = .int .i64 (d : Int) ∧ Hid (AgI w2 wr zs X.xb w3.heap.size V (42 * k) F C1 X1)) (fun v _ => 6 - (intOf v).toNat)
            case atStart => exact ⟨0, Nat.zero_le _, rfl, HI.out⟩
            case round =>
              obtain ⟨d, hd6, rfl, HId⟩ := hrel
              by_cases hdl : d < 6
              · have hd' : (d : Int) < 6 := by omega
                have HStt := hid (states_any d n HId.out.wd (HE.out.later HB2.out) hdl HN.out)
                rw [HId.out.xb] at HStt
                go_wp2_with fail
                refine HStt.out.mono ?_
                rintro e w6 ⟨adS, capS, rfl, hsl, hb6, -⟩
                have HId6 := hid (HId.out.later hb6)
                have HSL := hid hsl
                have HLen := hid (stsL_length V d n)
                have HAg : Hid (AgF (stsL V d n) 0 n) := by have := ax_agree HId.out.ax hdl; rw [HN.out] at this; exact this
                have HJA := hid (jagree_any A adS capS (stsL V d n) 0 n w6 (HId6.out.wd.held (HE.out.later HB2.out)) hsl (by rw [HLen.out]; omega) HAg.out)
                rw [HLen.out] at HJA
                clear hsl hb6 HStt
                go_wp2_with fail
                refine HJA.out.mono ?_
                rintro e w7 ⟨v7, rfl, hv7, hb7⟩
                obtain rfl := hv7.nil
                have HId7 := hid (HId6.out.later hb7)
                have HSL7 := hid (HSL.out.later hb7)
                clear hv7 hb7 HJA
                go_wp2_with fail
                go_loopw [18, 19, 20] (fun u t v wr => ∃ (s : Nat) (c b : Bool), s ≤ n ∧ u = .bool c ∧ t = .bool b ∧ v = .int .i64 (s : Int) ∧ wr = w7 ∧ Hid ((c = true → ∃ i, i < n ∧ ((stN (V.nd i) d).ph = 2 ∨ (stN (V.nd i) d).ph = 4)) ∧ (b = true → ∃ i, i < n ∧ (stN (V.nd i) d).ph = 0))) (fun _ _ v _ => n - (intOf v).toNat)
                case atStart => exact ⟨0, false, false, Nat.zero_le _, rfl, rfl, rfl, rfl, (fun x => by cases x), (fun x => by cases x)⟩
                case round =>
                  obtain ⟨s, c, b', hsn, rfl, rfl, rfl, hwr, HCb⟩ := hrel
                  subst hwr
                  by_cases hsl : s < n
                  · have hsl' : (s : Int) < (n : Int) := by omega
                    obtain ⟨bS, oS, hadS, z0, -, -⟩ := HSL7.out s (by rw [stsL_length]; exact hsl)
                    rw [stsL_get] at z0
                    subst hadS
                    obtain ⟨ph, HPh⟩ : ∃ ph, Hid ((stN (V.nd s) d).ph = ph) := ⟨_, rfl⟩
                    rw [HPh.out] at z0
                    by_cases p2 : ph = 2
                    · subst p2
                      rw [show ((2 : Nat) : Int) = 2 from rfl] at z0
                      have HNx : Hid ((true = true → ∃ i, i < n ∧ ((stN (V.nd i) d).ph = 2 ∨ (stN (V.nd i) d).ph = 4)) ∧ (b' = true → ∃ i, i < n ∧ (stN (V.nd i) d).ph = 0)) := ⟨fun _ => ⟨s, hsl, .inl HPh.out⟩, HCb.out.2⟩
                      go_wp2_with fail
                      go_roundw
                      case rel => exact ⟨s + 1, true, b', by omega, rfl, rfl, by go_num, by trivial, HNx.out⟩
                      case measure => simp [intOf]; omega
                    · by_cases p4 : ph = 4
                      · subst p4
                        rw [show ((4 : Nat) : Int) = 4 from rfl] at z0
                        have HNx : Hid ((true = true → ∃ i, i < n ∧ ((stN (V.nd i) d).ph = 2 ∨ (stN (V.nd i) d).ph = 4)) ∧ (b' = true → ∃ i, i < n ∧ (stN (V.nd i) d).ph = 0)) := ⟨fun _ => ⟨s, hsl, .inr HPh.out⟩, HCb.out.2⟩
                        go_wp2_with fail
                        go_roundw
                        case rel => exact ⟨s + 1, true, b', by omega, rfl, rfl, by go_num, by trivial, HNx.out⟩
                        case measure => simp [intOf]; omega
                      · have q2 : ((ph : Int) == 2) = false := beq_eq_false_iff_ne.2 (by omega)
                        have q4 : ((ph : Int) == 4) = false := beq_eq_false_iff_ne.2 (by omega)
                        by_cases p0 : ph = 0
                        · subst p0
                          rw [show ((0 : Nat) : Int) = 0 from rfl] at z0
                          have HNx : Hid ((c = true → ∃ i, i < n ∧ ((stN (V.nd i) d).ph = 2 ∨ (stN (V.nd i) d).ph = 4)) ∧ (true = true → ∃ i, i < n ∧ (stN (V.nd i) d).ph = 0)) := ⟨HCb.out.1, fun _ => ⟨s, hsl, HPh.out⟩⟩
                          clear q2 q4
                          go_wp2_with fail
                          go_roundw
                          case rel => exact ⟨s + 1, c, true, by omega, rfl, rfl, by go_num, by trivial, HNx.out⟩
                          case measure => simp [intOf]; omega
                        · have q0 : ((ph : Int) == 0) = false := beq_eq_false_iff_ne.2 (by omega)
                          go_wp2_with fail
                          go_roundw
                          case rel => exact ⟨s + 1, c, b', by omega, rfl, rfl, by go_num, by trivial, HCb.out⟩
                          case measure => simp [intOf]; omega
                  · have hsl' : ¬ (s : Int) < (n : Int) := by omega
                    have hcb : (c && b') = false := by
                      cases c with
                      | false => rfl
                      | true =>
                        cases b' with
                        | false => rfl
                        | true =>
                          obtain ⟨i, hi, h1⟩ := HCb.out.1 rfl
                          obtain ⟨j, hj, h2⟩ := HCb.out.2 rfl
                          exact absurd h2 (ax_all HId7.out.ax hdl (by rw [HN.out]; exact hi) (by rw [HN.out]; exact hj) h1)
                    cases c with
                    | false =>
                      go_wp2_with fail
                      go_roundw
                      case rel => exact ⟨d + 1, by omega, by go_num, HId7.out⟩
                      case measure => simp [intOf]; omega
                    | true =>
                      cases b' with
                      | false =>
                        go_wp2_with fail
                        go_roundw
                        case rel => exact ⟨d + 1, by omega, by go_num, HId7.out⟩
                        case measure => simp [intOf]; omega
                      | true => cases hcb
              · have hd' : ¬ (d : Int) < 6 := by omega
                have HEf := hid (ax_events HId.out.ax)
                rw [HN.out] at HEf
                have hev := HId.out.wd.inv.ev
                obtain ⟨ne, HNe⟩ : ∃ ne, Hid (V.evs.length = ne) := ⟨_, rfl⟩
                rw [HNe.out] at hev
                have HEv := hid (events_any HId.out.wd)
                rw [HId.out.xb] at HEv
                go_wp2_with fail
                refine HEv.out.mono ?_
                rintro e w6 ⟨v6, rfl, ho6, hb6⟩
                obtain ⟨ad6, cap6, rfl, -, -, hel6⟩ := own_el ho6
                have HId6 := hid (HId.out.later hb6)
                have HCk := hid (jcheck_ok A ad6 cap6 V.evs (n : Int) 0 V.evs.length w6 (HId6.out.wd.held (HE.out.later HB2.out)) (by omega) (by omega) hel6 (by rw [HNe.out]; omega) HEf.out)
                clear ho6 hb6 hel6
                go_wp2_with fail
                refine HCk.out.mono ?_
                rintro e w7 ⟨v7, rfl, hv7, hb7⟩
                obtain rfl := hv7.nil
                have HId7 := hid (HId6.out.later hb7)
                have HEv7 := hid (events_any HId7.out.wd)
                rw [HId7.out.xb] at HEv7
                clear hv7 hb7
                go_wp2_with fail
                refine HEv7.out.mono ?_
                rintro e w8 ⟨v8, rfl, ho8, hb8⟩
                obtain ⟨ad8, cap8, rfl, -, -, hel8⟩ := own_el ho8
                have HBk := hid (backEvents_any ad8 cap8 V.evs w8 hel8 (by rw [HNe.out]; omega))
                have HId8 := hid (HId7.out.later hb8)
                clear ho8 hb8 hel8
                go_wp2_with fail
                refine HBk.out.mono ?_
                rintro e w9 ⟨ad9, cap9, rfl, hel9, hb9⟩
                have HRv := hid (revf_ok ad9 cap9 V.evs (n : Int) 0 V.evs.length 0 (-1) w9 (by omega) (by omega) hel9 (by rw [HNe.out]; omega) HEf.out rfl rfl)
                have HId9 := hid (HId8.out.later hb9)
                unfold fltV at HRv
                clear hb9 hel9
                go_wp2_with fail
                refine HRv.out.mono ?_
                rintro e w10 ⟨rfl, hb10⟩
                have HB10 := hid (below_trans HB2.out (below_trans HId9.out.wd.bel hb10))
                have hfld : (Instr.field 55 (.agg #[.int .i64 0, .int .i64 (-1)]) 0).run Tryz.prog w10 = .ok (.int .i64 0) w10 := by rfl
                clear hb10
                go_wp2_with fail
                go_ret
                exact ⟨rfl, HB10.out⟩
      · obtain ⟨c, hc⟩ : ∃ c, errW zs = c + 1 := ⟨errW zs - 1, by omega⟩
        have HNew := hid (wnew_err v2 c HV2.out (HE.out.later HB2.out) hc)
        go_wp2_with fail
        refine HNew.out.mono ?_
        rintro e w3 ⟨rfl, hx⟩
        subst w3
        go_wp2_with fail
        go_ret
        exact ⟨rfl, HB2.out⟩
end Go.Proofs.YtadhpkopkkjmfaaGreatDoor
