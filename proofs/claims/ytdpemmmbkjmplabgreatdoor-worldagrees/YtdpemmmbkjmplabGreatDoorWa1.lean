/-
  THE LAW WorldAgrees, along its loops.
  NUMBERS AND STATES THAT CAME IN, opened.
  A LIST OF STEPS THAT CAME IN, opened.
  A slice of integers that came in.
  WHAT THE CELL 'laid' GIVES THE WALKS: each listed error variable holds a pointer of its own to a string, no two the same.
  FROM 'laid' TO WHAT THE WALKS ASK: package api's nine error variables hold nine different errors, errors.errorType its handle; the door's own heap meets the condition (the witness).
-/
import Derived.Test.YtdpemmmbkjmplabGreatDoorBa13
import Derived.Test.YtdpemmmbkjmplabGreatDoorBa1
import Derived.Test.YtdpemmmbkjmplabGreatDoorBa6
import Derived.Test.YtdpemmmbkjmplabGreatDoorRows
import Derived.Test.YtdpemmmbkjmplabGreatDoorBa2
import Derived.BigRegion
import Derived.ChangeShapes
import Derived.WideShapes
import Derived.RowKit
import Derived.Deep.Slices
import Derived.WalkKit
import Derived.ProofKit
import Derived.LaidLaws
import Derived.LaidMore
import Derived.LaidSub
import Derived.LaidHandle
import Derived.MakeChecks
namespace Go.Proofs.YtdpemmmbkjmplabGreatDoor
open Go.RowKit

theorem mkW1 (w : World) : (Instr.makeSlice 22 (.int .i64 6) (.int .i64 6)).run Tryz.prog w = .ok (.slice (some ⟨w.heap.size, 0, none⟩) 6 6) (w.alloc (.cells (wasC 1 (fun _ => 0)).toArray 3)) := by kernel_rfl
theorem mkW2 (w : World) : (Instr.makeSlice 22 (.int .i64 12) (.int .i64 12)).run Tryz.prog w = .ok (.slice (some ⟨w.heap.size, 0, none⟩) 12 12) (w.alloc (.cells (wasC 2 (fun _ => 0)).toArray 3)) := by kernel_rfl
theorem mkW3 (w : World) : (Instr.makeSlice 22 (.int .i64 18) (.int .i64 18)).run Tryz.prog w = .ok (.slice (some ⟨w.heap.size, 0, none⟩) 18 18) (w.alloc (.cells (wasC 3 (fun _ => 0)).toArray 3)) := by kernel_rfl
theorem mkW4 (w : World) : (Instr.makeSlice 22 (.int .i64 24) (.int .i64 24)).run Tryz.prog w = .ok (.slice (some ⟨w.heap.size, 0, none⟩) 24 24) (w.alloc (.cells (wasC 4 (fun _ => 0)).toArray 3)) := by kernel_rfl
theorem mkW5 (w : World) : (Instr.makeSlice 22 (.int .i64 30) (.int .i64 30)).run Tryz.prog w = .ok (.slice (some ⟨w.heap.size, 0, none⟩) 30 30) (w.alloc (.cells (wasC 5 (fun _ => 0)).toArray 3)) := by kernel_rfl
theorem mkW6 (w : World) : (Instr.makeSlice 22 (.int .i64 36) (.int .i64 36)).run Tryz.prog w = .ok (.slice (some ⟨w.heap.size, 0, none⟩) 36 36) (w.alloc (.cells (wasC 6 (fun _ => 0)).toArray 3)) := by kernel_rfl
theorem mkW7 (w : World) : (Instr.makeSlice 22 (.int .i64 42) (.int .i64 42)).run Tryz.prog w = .ok (.slice (some ⟨w.heap.size, 0, none⟩) 42 42) (w.alloc (.cells (wasC 7 (fun _ => 0)).toArray 3)) := by kernel_rfl
theorem mkWas (n : Nat) (h1 : 1 ≤ n) (h7 : n ≤ 7) (w : World) : (Instr.makeSlice 22 (.int .i64 (6 * (n : Int))) (.int .i64 (6 * (n : Int)))).run Tryz.prog w = .ok (.slice (some ⟨w.heap.size, 0, none⟩) (6 * n) (6 * n)) (w.alloc (.cells (wasC n (fun _ => 0)).toArray 3)) := by
  have h : n = 1 ∨ n = 2 ∨ n = 3 ∨ n = 4 ∨ n = 5 ∨ n = 6 ∨ n = 7 := by omega
  rcases h with rfl | rfl | rfl | rfl | rfl | rfl | rfl
  · exact mkW1 w
  · exact mkW2 w
  · exact mkW3 w
  · exact mkW4 w
  · exact mkW5 w
  · exact mkW6 w
  · exact mkW7 w
set_option maxHeartbeats 8000000 in
set_option maxRecDepth 100000 in
theorem wagrees_any (A : Nat → Addr) (v : Value) (zs : List Int) (ad : Option Addr) (cap : Nat) (xs : List Step4) (w : World) (hE : Held9 w A) (hv : IsSl w v zs) (hx : SIn w ad xs) (hm : xs.length ≤ maxLen) :
    Calls Tryz.prog 4 #[v, .slice ad xs.length cap] w fun e w' => e = .returned (.bool true) ∧ Below w.heap.size w w' := by
  unfold maxLen at hm
  have HE := hid hE
  have HV := hid hv
  have HX := hid hx
  obtain ⟨av, capv, rfl, hzm, -, -⟩ := hv
  unfold maxLen at hzm
  obtain ⟨n, HN⟩ : ∃ n, Hid (zs.length = n) := ⟨_, rfl⟩
  rw [HN.out] at HV hzm ⊢
  clear hE hx
  by_cases h30 : 30 < n
  · have e1 : (30 : Int) < (n : Int) := by omega
    go_enter Tryz.func4, Tryz.ntmps4
    go_wp2_with fail
    refine (born_any A w HE.out).mono ?_
    rintro e w1 ⟨rfl, hb⟩
    have HB1 := hid hb
    clear hb
    go_wp2_with fail
    go_ret
    exact ⟨rfl, HB1.out⟩
  · have e1 : ¬ (30 : Int) < (n : Int) := by omega
    by_cases h400 : 400 < xs.length
    · have e2 : (400 : Int) < (xs.length : Int) := by omega
      go_enter Tryz.func4, Tryz.ntmps4
      go_wp2_with fail
      refine (born_any A w HE.out).mono ?_
      rintro e w1 ⟨rfl, hb⟩
      have HB1 := hid hb
      clear hb
      go_wp2_with fail
      go_ret
      exact ⟨rfl, HB1.out⟩
    · have e2 : ¬ (400 : Int) < (xs.length : Int) := by omega
      go_enter Tryz.func4, Tryz.ntmps4
      go_wp2_with fail
      refine (born_any A w HE.out).mono ?_
      rintro e w1 ⟨rfl, hb⟩
      have HB1 := hid hb
      have HOwn := hid (ownInts_any _ zs w1 (HV.out.later hb) (by rw [HN.out]; omega))
      clear hb
      go_wp2_with fail
      refine HOwn.out.mono ?_
      rintro e w2 ⟨v2, rfl, hv2, hb2⟩
      have HV2 := hid hv2
      have HB2 := hid (below_trans HB1.out hb2)
      clear hv2 hb2
      by_cases he : errW zs = 0
      · obtain ⟨n1, n7, -, -⟩ := errW_zero he
        rw [HN.out] at n1 n7
        have HNew := hid (wnew_ok v2 HV2.out (HE.out.later HB2.out) he)
        go_wp2_with fail
        refine HNew.out.mono ?_
        rintro e w3 ⟨C, X, rfl, h3⟩
        have H3 := hid h3
        have HB3 := hid (below_trans HB2.out h3.bel)
        clear h3
        have hmk := mkWas n n1 n7 w3
        obtain ⟨W4, HW4⟩ : ∃ W4, Hid (w3.alloc (.cells (wasC n (fun _ => 0)).toArray 3) = W4) := ⟨_, rfl⟩
        rw [HW4.out] at hmk
        have HI0 : Hid (AgI w2 W4 zs X.xb w3.heap.size newX 0 (fun _ => 0) C X) := by
          have hb4 : Below w3.heap.size w3 W4 := by rw [← HW4.out]; exact (Below.refl _ _).alloc (Nat.le_refl _) _
          refine ⟨AX.new, H3.out.later hb4, rfl, ?_, by rw [← HW4.out, HN.out]; exact heap_alloc_new w3 _, H3.out.bel.size, fun s d _ hd => ?_⟩
          · rcases Nat.lt_or_ge (C w3.heap.size) 2000 with q | q
            · have := H3.out.lt _ q; omega
            · exact q
          · rw [stN_new s d hd]; exact ⟨by decide, by decide, .inl rfl⟩
        go_wp2_with fail
        clear hmk
        go_loopw [9] (fun v wr => ∃ (k : Nat) (V : PX) (F : Nat → Nat) (C' : Nat → Nat) (X' : XB), k ≤ xs.length ∧ v = .int .i64 (k : Int) ∧ Hid (AgI w2 wr zs X.xb w3.heap.size V (42 * k) F C' X')) (fun v _ => xs.length - (intOf v).toNat)
        case atStart => exact ⟨0, newX, fun _ => 0, C, X, Nat.zero_le _, rfl, HI0.out⟩
        case round =>
          obtain ⟨k, V, F, C1, X1, hk, rfl, HI⟩ := hrel
          by_cases hlt : k < xs.length
          · obtain ⟨hn9, b, o, rfl, y0, y1, y2, y3⟩ := ((HX.out.later HB2.out).later HI.out.wd.bel) k hlt
            obtain ⟨⟨xk, xS, xD, xN⟩, HS⟩ : ∃ e, Hid (xs[k]'hlt = e) := ⟨_, rfl⟩
            rw [HS.out] at y0 y1 y2 y3 hn9
            have HAct := hid (act_any xk xS xD xN HI.out.wd (HE.out.later HB2.out) (by omega) hn9)
            rw [HI.out.xb] at HAct
            go_wp2_with fail
            refine HAct.out.mono ?_
            rintro e w5 ⟨rfl, ho⟩
            obtain ⟨V2, C2, X2, hI2, -, -⟩ := HI.out.act (by omega) ho
            have HI2 := hid hI2
            clear ho hI2 y0 y1 y2 y3 HAct
            go_wp2_with fail
            go_loopw [10] (fun v wr => ∃ (d : Nat) (F2 : Nat → Nat), d ≤ 6 ∧ v = .int .i64 (d : Int) ∧ Hid (AgI w2 wr zs X.xb w3.heap.size V2 (42 * k + 42) F2 C2 X2)) (fun v _ => 6 - (intOf v).toNat)
            case atStart => exact ⟨0, F, Nat.zero_le _, rfl, HI2.out⟩
            case round =>
              obtain ⟨d, F2, hd6, rfl, HId⟩ := hrel
              by_cases hdl : d < 6
              · have hd' : (d : Int) < 6 := by omega
                by_cases h5 : k % 5 = 0
                · have h5' : (Int.tmod (k : Int) 5 == 0) = true := by rw [Int.tmod_eq_emod_of_nonneg (by omega)]; exact beq_iff_eq.2 (by omega)
                  have HStt := hid (states_any d n HId.out.wd (HE.out.later HB2.out) hdl HN.out)
                  rw [HId.out.xb] at HStt
                  go_wp2_with fail
                  refine HStt.out.mono ?_
                  rintro e w6 ⟨adS, capS, rfl, hsl, hb6, hlow6⟩
                  have HNe : Hid (∀ p, adS = some p → ¬ In1 w3.heap.size p.block) := fun p hp e => by have h1 := hlow6 p hp; have h2 := row_ltJ HId.out.row; have h3 : p.block = w3.heap.size := e; omega
                  have HId6 := hid (HId.out.later hb6)
                  have HSL := hid hsl
                  have HLen := hid (stsL_length V2 d n)
                  have HAg : Hid (AgF (stsL V2 d n) 0 n) := by have := ax_agree HId.out.ax hdl; rw [HN.out] at this; exact this
                  have HJA := hid (jagree_any A adS capS (stsL V2 d n) 0 n w6 (HId6.out.wd.held (HE.out.later HB2.out)) hsl (by rw [HLen.out]; omega) HAg.out)
                  rw [HLen.out] at HJA
                  clear hsl hb6 HStt
                  go_wp2_with fail
                  refine HJA.out.mono ?_
                  rintro e w7 ⟨v7, rfl, hv7, hb7⟩
                  obtain rfl := hv7.nil
                  have HId7 := hid (HId6.out.later hb7)
                  have HSL7 := hid (HSL.out.later hb7)
                  clear hv7 hb7 HJA hlow6
                  go_wp2_with fail
                  go_loopw [13] (fun v wr => ∃ (s : Nat) (F3 : Nat → Nat), s ≤ n ∧ v = .int .i64 (s : Int) ∧ Hid (AgI w2 wr zs X.xb w3.heap.size V2 (42 * k + 42) F3 C2 X2 ∧ SL wr adS (stsL V2 d n))) (fun v _ => n - (intOf v).toNat)
                  case atStart => exact ⟨0, F2, Nat.zero_le _, rfl, HId7.out, HSL7.out⟩
                  case round =>
                    obtain ⟨s, F3, hsn, rfl, HIs⟩ := hrel
                    by_cases hsl : s < n
                    · have hsl' : (s : Int) < (n : Int) := by omega
                      obtain ⟨bS, oS, hadS, z0, -, -⟩ := HIs.out.2 s (by rw [stsL_length]; exact hsl)
                      rw [stsL_get] at z0
                      subst hadS
                      obtain ⟨ph, HPh⟩ : ∃ ph, Hid ((stN (V2.nd s) d).ph = ph) := ⟨_, rfl⟩
                      rw [HPh.out] at z0
                      obtain ⟨q, HQ⟩ : ∃ q, Hid (d * n + s = q) := ⟨_, rfl⟩
                      have hq6 : q < 6 * n := by
                        rw [← HQ.out]
                        have : d * n ≤ 5 * n := Nat.mul_le_mul_right n (by omega)
                        omega
                      obtain ⟨dn, HDn⟩ : ∃ dn, Hid (d * n = dn) := ⟨_, rfl⟩
                      have hdn1 : (d : Int) * (n : Int) = (dn : Int) := by rw [← HDn.out]; simp
                      have hdn2 : dn ≤ 42 := by
                        rw [← HDn.out]
                        exact Nat.le_trans (Nat.mul_le_mul (show d ≤ 6 by omega) n7) (by decide)
                      have hdn3 : (dn : Int) + (s : Int) = (q : Int) := by rw [← HQ.out, HDn.out]; simp
                      have f0 : wr.cell? ⟨w3.heap.size, q, none⟩ = some (.int .i64 (F3 q : Int)) := by rw [cell_of_row _ _ _ _ _ _ HIs.out.1.row, List.getElem?_toArray, HN.out]; exact wasC_get n F3 hq6
                      have z1 := frozen_of_row _ _ q _ _ HIs.out.1.row
                      have HMay : Hid (mayN (F3 q) ph) := by have := HIs.out.1.may s d (by rw [HN.out]; exact hsl) hdl; rw [HN.out, HQ.out, HPh.out] at this; exact this
                      have HSt := hid (HIs.out.1.store (q := q) (p := ph) (by rw [HN.out]; exact hsl) hdl (by rw [HN.out]; exact HQ.out) HPh.out)
                      have HSLn : Hid (SL (wr.setCell ⟨w3.heap.size, q, none⟩ (.int .i64 (ph : Int))) (some ⟨bS, oS, none⟩) (stsL V2 d n)) := HIs.out.2.kept HSt.out.2 HNe.out
                      go_wp2_with fail
                      refine (rmay_yes (F3 q) ph _ HMay.out).mono ?_
                      rintro e w8 ⟨rfl, hx⟩
                      subst w8
                      go_wp2_with fail
                      go_roundw
                      case rel => exact ⟨s + 1, setF F3 q ph, by omega, by go_num, HSt.out.1, HSLn.out⟩
                      case measure => simp [intOf]; omega
                    · have hsl' : ¬ (s : Int) < (n : Int) := by omega
                      go_wp2_with fail
                      go_roundw
                      case rel => exact ⟨d + 1, F3, by omega, by go_num, HIs.out.1⟩
                      case measure => simp [intOf]; omega
                · have h5' : (Int.tmod (k : Int) 5 == 0) = false := by rw [Int.tmod_eq_emod_of_nonneg (by omega)]; exact beq_eq_false_iff_ne.2 (by omega)
                  go_wp2_with fail
                  go_roundw
                  case rel => exact ⟨k + 1, V2, F2, C2, X2, by omega, by go_num, by rw [show 42 * (k + 1) = 42 * k + 42 by omega]; exact HId.out⟩
                  case measure => simp [intOf]; omega
              · have hd' : ¬ (d : Int) < 6 := by omega
                go_wp2_with fail
                go_roundw
                case rel => exact ⟨k + 1, V2, F2, C2, X2, by omega, by go_num, by rw [show 42 * (k + 1) = 42 * k + 42 by omega]; exact HId.out⟩
                case measure => simp [intOf]; omega
          · have hlt' : ¬ ((k : Int) < (xs.length : Int)) := by omega
            go_wp2_with fail
            go_loopw [15] (fun v wr => ∃ d : Nat, d ≤ 6 ∧ v = .int .i64 (d : Int) ∧ Hid (AgI w2 wr zs X.xb w3.heap.size V (42 * k) F C1 X1)) (fun v _ => 6 - (intOf v).toNat)
            case atStart => exact ⟨0, Nat.zero_le _, rfl, HI.out⟩
            case round =>
              obtain ⟨d, hd6, rfl, HId⟩ := hrel
              by_cases hdl : d < 6
              · have hd' : (d : Int) < 6 := by omega
                have HStt := hid (states_any d n HId.out.wd (HE.out.later HB2.out) hdl HN.out)
                rw [HId.out.xb] at HStt
                go_wp2_with fail
                refine HStt.out.mono ?_
                rintro e w6 ⟨adS, capS, rfl, hsl, hb6, -⟩
                have HId6 := hid (HId.out.later hb6)
                have HSL := hid hsl
                have HLen := hid (stsL_length V d n)
                have HAg : Hid (AgF (stsL V d n) 0 n) := by have := ax_agree HId.out.ax hdl; rw [HN.out] at this; exact this
                have HJA := hid (jagree_any A adS capS (stsL V d n) 0 n w6 (HId6.out.wd.held (HE.out.later HB2.out)) hsl (by rw [HLen.out]; omega) HAg.out)
                rw [HLen.out] at HJA
                clear hsl hb6 HStt
                go_wp2_with fail
                refine HJA.out.mono ?_
                rintro e w7 ⟨v7, rfl, hv7, hb7⟩
                obtain rfl := hv7.nil
                have HId7 := hid (HId6.out.later hb7)
                have HSL7 := hid (HSL.out.later hb7)
                clear hv7 hb7 HJA
                go_wp2_with fail
                go_loopw [18, 19, 20] (fun u t v wr => ∃ (s : Nat) (c b : Bool), s ≤ n ∧ u = .bool c ∧ t = .bool b ∧ v = .int .i64 (s : Int) ∧ wr = w7 ∧ Hid ((c = true → ∃ i, i < n ∧ ((stN (V.nd i) d).ph = 2 ∨ (stN (V.nd i) d).ph = 4)) ∧ (b = true → ∃ i, i < n ∧ (stN (V.nd i) d).ph = 0))) (fun _ _ v _ => n - (intOf v).toNat)
                case atStart => exact ⟨0, false, false, Nat.zero_le _, rfl, rfl, rfl, rfl, (fun x => by cases x), (fun x => by cases x)⟩
                case round =>
                  obtain ⟨s, c, b', hsn, rfl, rfl, rfl, hwr, HCb⟩ := hrel
                  subst hwr
                  by_cases hsl : s < n
                  · have hsl' : (s : Int) < (n : Int) := by omega
                    obtain ⟨bS, oS, hadS, z0, -, -⟩ := HSL7.out s (by rw [stsL_length]; exact hsl)
                    rw [stsL_get] at z0
                    subst hadS
                    obtain ⟨ph, HPh⟩ : ∃ ph, Hid ((stN (V.nd s) d).ph = ph) := ⟨_, rfl⟩
                    rw [HPh.out] at z0
                    by_cases p2 : ph = 2
                    · subst p2
                      rw [show ((2 : Nat) : Int) = 2 from rfl] at z0
                      have HNx : Hid ((true = true → ∃ i, i < n ∧ ((stN (V.nd i) d).ph = 2 ∨ (stN (V.nd i) d).ph = 4)) ∧ (b' = true → ∃ i, i < n ∧ (stN (V.nd i) d).ph = 0)) := ⟨fun _ => ⟨s, hsl, .inl HPh.out⟩, HCb.out.2⟩
                      go_wp2_with fail
                      go_roundw
                      case rel => exact ⟨s + 1, true, b', by omega, rfl, rfl, by go_num, by trivial, HNx.out⟩
                      case measure => simp [intOf]; omega
                    · by_cases p4 : ph = 4
                      · subst p4
                        rw [show ((4 : Nat) : Int) = 4 from rfl] at z0
                        have HNx : Hid ((true = true → ∃ i, i < n ∧ ((stN (V.nd i) d).ph = 2 ∨ (stN (V.nd i) d).ph = 4)) ∧ (b' = true → ∃ i, i < n ∧ (stN (V.nd i) d).ph = 0)) := ⟨fun _ => ⟨s, hsl, .inr HPh.out⟩, HCb.out.2⟩
                        go_wp2_with fail
                        go_roundw
                        case rel => exact ⟨s + 1, true, b', by omega, rfl, rfl, by go_num, by trivial, HNx.out⟩
                        case measure => simp [intOf]; omega
                      · have q2 : ((ph : Int) == 2) = false := beq_eq_false_iff_ne.2 (by omega)
                        have q4 : ((ph : Int) == 4) = false := beq_eq_false_iff_ne.2 (by omega)
                        by_cases p0 : ph = 0
                        · subst p0
                          rw [show ((0 : Nat) : Int) = 0 from rfl] at z0
                          have HNx : Hid ((c = true → ∃ i, i < n ∧ ((stN (V.nd i) d).ph = 2 ∨ (stN (V.nd i) d).ph = 4)) ∧ (true = true → ∃ i, i < n ∧ (stN (V.nd i) d).ph = 0)) := ⟨HCb.out.1, fun _ => ⟨s, hsl, HPh.out⟩⟩
                          clear q2 q4
                          go_wp2_with fail
                          go_roundw
                          case rel => exact ⟨s + 1, c, true, by omega, rfl, rfl, by go_num, by trivial, HNx.out⟩
                          case measure => simp [intOf]; omega
                        · have q0 : ((ph : Int) == 0) = false := beq_eq_false_iff_ne.2 (by omega)
                          go_wp2_with fail
                          go_roundw
                          case rel => exact ⟨s + 1, c, b', by omega, rfl, rfl, by go_num, by trivial, HCb.out⟩
                          case measure => simp [intOf]; omega
                  · have hsl' : ¬ (s : Int) < (n : Int) := by omega
                    have hcb : (c && b') = false := by
                      cases c with
                      | false => rfl
                      | true =>
                        cases b' with
                        | false => rfl
                        | true =>
                          obtain ⟨i, hi, h1⟩ := HCb.out.1 rfl
                          obtain ⟨j, hj, h2⟩ := HCb.out.2 rfl
                          exact absurd h2 (ax_all HId7.out.ax hdl (by rw [HN.out]; exact hi) (by rw [HN.out]; exact hj) h1)
                    cases c with
                    | false =>
                      go_wp2_with fail
                      go_roundw
                      case rel => exact ⟨d + 1, by omega, by go_num, HId7.out⟩
                      case measure => simp [intOf]; omega
                    | true =>
                      cases b' with
                      | false =>
                        go_wp2_with fail
                        go_roundw
                        case rel => exact ⟨d + 1, by omega, by go_num, HId7.out⟩
                        case measure => simp [intOf]; omega
                      | true => cases hcb
              · have hd' : ¬ (d : Int) < 6 := by omega
                have HEf := hid (ax_events HId.out.ax)
                rw [HN.out] at HEf
                have hev := HId.out.wd.inv.ev
                obtain ⟨ne, HNe⟩ : ∃ ne, Hid (V.evs.length = ne) := ⟨_, rfl⟩
                rw [HNe.out] at hev
                have HEv := hid (events_any HId.out.wd)
                rw [HId.out.xb] at HEv
                go_wp2_with fail
                refine HEv.out.mono ?_
                rintro e w6 ⟨v6, rfl, ho6, hb6⟩
                obtain ⟨ad6, cap6, rfl, -, -, hel6⟩ := own_el ho6
                have HId6 := hid (HId.out.later hb6)
                have HCk := hid (jcheck_ok A ad6 cap6 V.evs (n : Int) 0 V.evs.length w6 (HId6.out.wd.held (HE.out.later HB2.out)) (by omega) (by omega) hel6 (by rw [HNe.out]; omega) HEf.out)
                clear ho6 hb6 hel6
                go_wp2_with fail
                refine HCk.out.mono ?_
                rintro e w7 ⟨v7, rfl, hv7, hb7⟩
                obtain rfl := hv7.nil
                have HId7 := hid (HId6.out.later hb7)
                have HEv7 := hid (events_any HId7.out.wd)
                rw [HId7.out.xb] at HEv7
                clear hv7 hb7
                go_wp2_with fail
                refine HEv7.out.mono ?_
                rintro e w8 ⟨v8, rfl, ho8, hb8⟩
                obtain ⟨ad8, cap8, rfl, -, -, hel8⟩ := own_el ho8
                have HBk := hid (backEvents_any ad8 cap8 V.evs w8 hel8 (by rw [HNe.out]; omega))
                have HId8 := hid (HId7.out.later hb8)
                clear ho8 hb8 hel8
                go_wp2_with fail
                refine HBk.out.mono ?_
                rintro e w9 ⟨ad9, cap9, rfl, hel9, hb9⟩
                have HRv := hid (revf_ok ad9 cap9 V.evs (n : Int) 0 V.evs.length 0 (-1) w9 (by omega) (by omega) hel9 (by rw [HNe.out]; omega) HEf.out rfl rfl)
                have HId9 := hid (HId8.out.later hb9)
                unfold fltV at HRv
                clear hb9 hel9
                go_wp2_with fail
                refine HRv.out.mono ?_
                rintro e w10 ⟨rfl, hb10⟩
                have HB10 := hid (below_trans HB2.out (below_trans HId9.out.wd.bel hb10))
                have hfld : (Instr.field 55 (.agg #[.int .i64 0, .int .i64 (-1)]) 0).run Tryz.prog w10 = .ok (.int .i64 0) w10 := by rfl
                clear hb10
                go_wp2_with fail
                go_ret
                exact ⟨rfl, HB10.out⟩
      · obtain ⟨c, hc⟩ : ∃ c, errW zs = c + 1 := ⟨errW zs - 1, by omega⟩
        have HNew := hid (wnew_err v2 c HV2.out (HE.out.later HB2.out) hc)
        go_wp2_with fail
        refine HNew.out.mono ?_
        rintro e w3 ⟨rfl, hx⟩
        subst w3
        go_wp2_with fail
        go_ret
        exact ⟨rfl, HB2.out⟩
end Go.Proofs.YtdpemmmbkjmplabGreatDoor
namespace Go.Proofs.YtdpemmmbkjmplabGreatDoor
open Go.ChangeShapes Go.WideShapes Go.RowKit

theorem cellsSt3 : Tryz.prog.cellsOf 43 = 3 := by kernel_rfl
theorem cellsInt1 : Tryz.prog.cellsOf 3 = 1 := by kernel_rfl
theorem cellsBool1 : Tryz.prog.cellsOf 4 = 1 := by kernel_rfl
theorem listOf3 {α : Type} : ∀ (l : List α), l.length = 3 → ∃ a b c, l = [a, b, c]
  | [a, b, c], _ => ⟨a, b, c, rfl⟩
theorem listOf4 {α : Type} : ∀ (l : List α), l.length = 4 → ∃ a b c d, l = [a, b, c, d]
  | [a, b, c, d], _ => ⟨a, b, c, d, rfl⟩
theorem listOf6 {α : Type} : ∀ (l : List α), l.length = 6 → ∃ a b c d e f, l = [a, b, c, d, e, f]
  | [a, b, c, d, e, f], _ => ⟨a, b, c, d, e, f, rfl⟩
theorem int_le_of_wf {n : Int} (w3 : (Lit.int .i64 n).wf = true) : n ≤ 9223372036854775807 := by
  have hmx : IntKind.i64.max = 9223372036854775807 := by decide
  have hw : decide (IntKind.i64.min ≤ n) = true ∧ decide (n ≤ IntKind.i64.max) = true := by simpa only [Lit.wf, Bool.and_eq_true] using w3
  have h2 := of_decide_eq_true hw.2
  rw [hmx] at h2
  exact h2
theorem st_of_trod {H : Type} {enc : TypeId × Value → H} {W : World} {base fuel : Nat} {cs : List Value} {x : DataW H × List MemPlace} {sp : Nat → Bool} {held : Bool}
    (h : DataW.trod enc Tryz.prog W base sp held fuel 43 cs = some x) : ∃ a b c : Int, cs = [.int .i64 a, .int .i64 b, .int .i64 c] := by
  obtain ⟨ys, n, _, _, hl, hlen, hf⟩ := DataW.trod_struct Tryz.underlying43 h
  rw [cellsSt3] at hl
  obtain ⟨c0, c1, c2, rfl⟩ := listOf3 cs hl
  obtain ⟨y0, y1, y2, rfl⟩ := listOf3 ys hlen
  have f0 : DataW.trod enc Tryz.prog W base sp held n 3 (([c0, c1, c2].drop 0).take (Tryz.prog.cellsOf 3)) = some y0 := hf 0 _ rfl
  have f1 : DataW.trod enc Tryz.prog W base sp held n 3 (([c0, c1, c2].drop 1).take (Tryz.prog.cellsOf 3)) = some y1 := hf 1 _ rfl
  have f2 : DataW.trod enc Tryz.prog W base sp held n 3 (([c0, c1, c2].drop 2).take (Tryz.prog.cellsOf 3)) = some y2 := hf 2 _ rfl
  rw [cellsInt1] at f0 f1 f2
  obtain ⟨i0, e0, _, _⟩ := DataW.trod_int Tryz.underlying3 f0
  obtain ⟨i1, e1, _, _⟩ := DataW.trod_int Tryz.underlying3 f1
  obtain ⟨i2, e2, _, _⟩ := DataW.trod_int Tryz.underlying3 f2
  simp at e0 e1 e2
  subst e0 e1 e2
  exact ⟨i0, i1, i2, rfl⟩
end Go.Proofs.YtdpemmmbkjmplabGreatDoor
namespace Go.Proofs.YtdpemmmbkjmplabGreatDoor
open Go.ChangeShapes Go.WideShapes Go.RowKit

theorem cellsStep : Tryz.prog.cellsOf 51 = 4 := by kernel_rfl
theorem cellsStr1 : Tryz.prog.cellsOf 9 = 1 := by kernel_rfl
theorem step_of_trod {H : Type} {enc : TypeId × Value → H} {W : World} {base fuel : Nat} {cs : List Value} {x : DataW H × List MemPlace} {sp : Nat → Bool} {held : Bool}
    (h : DataW.trod enc Tryz.prog W base sp held fuel 51 cs = some x) : ∃ t : Step4, cs = [.string t.k, .int .i64 t.s, .int .i64 t.d, .int .i64 t.n] ∧ t.n ≤ 9223372036854775807 := by
  obtain ⟨ys, n, _, _, hl, hlen, hf⟩ := DataW.trod_struct Tryz.underlying51 h
  rw [cellsStep] at hl
  obtain ⟨c0, c1, c2, c3, rfl⟩ := listOf4 cs hl
  obtain ⟨y0, y1, y2, y3, rfl⟩ := listOf4 ys hlen
  · · have f0 : DataW.trod enc Tryz.prog W base sp held n 9 (([c0, c1, c2, c3].drop 0).take (Tryz.prog.cellsOf 9)) = some y0 := hf 0 _ rfl
      have f1 : DataW.trod enc Tryz.prog W base sp held n 3 (([c0, c1, c2, c3].drop 1).take (Tryz.prog.cellsOf 3)) = some y1 := hf 1 _ rfl
      have f2 : DataW.trod enc Tryz.prog W base sp held n 3 (([c0, c1, c2, c3].drop 2).take (Tryz.prog.cellsOf 3)) = some y2 := hf 2 _ rfl
      have f3 : DataW.trod enc Tryz.prog W base sp held n 3 (([c0, c1, c2, c3].drop 3).take (Tryz.prog.cellsOf 3)) = some y3 := hf 3 _ rfl
      rw [cellsStr1] at f0
      rw [cellsInt1] at f1 f2 f3
      obtain ⟨s0, e0, _, _⟩ := DataW.trod_string Tryz.underlying9 f0
      obtain ⟨s1, e1, _, _⟩ := DataW.trod_int Tryz.underlying3 f1
      obtain ⟨i2, e2, _, _⟩ := DataW.trod_int Tryz.underlying3 f2
      obtain ⟨i3, e3, _, w3⟩ := DataW.trod_int Tryz.underlying3 f3
      simp at e0 e1 e2 e3
      subst e0 e1 e2 e3
      refine ⟨⟨s0, s1, i2, i3⟩, rfl, ?_⟩
      show i3 ≤ 9223372036854775807
      have hmx : IntKind.i64.max = 9223372036854775807 := by decide
      have hw : decide (IntKind.i64.min ≤ i3) = true ∧ decide (i3 ≤ IntKind.i64.max) = true := by simpa only [Lit.wf, Bool.and_eq_true] using w3
      have h2 := of_decide_eq_true hw.2
      rw [hmx] at h2
      exact h2
set_option maxRecDepth 100000 in
theorem steps_of_trod {H : Type} {enc : TypeId × Value → H} {W : World} {a : Option Addr} {len cap fuel : Nat} {d : DataW H} {p : List MemPlace} {sp : Nat → Bool} {held : Bool}
    (hf : DataW.trod enc Tryz.prog W 0 sp held fuel 48 (Value.slice a len cap).cells.toList = some (d, p)) : ∃ xs : List Step4, xs.length = len ∧ xs.length ≤ maxLen ∧ SIn W a xs := by
  rcases Deep.open_slice Tryz.underlying48 hf with ⟨hcs, _⟩ | ⟨x, l, c, m, n, D, Pl, hcs, _, hl, hm, hmm, _, hx⟩
  · simp [Value.cells] at hcs
    obtain ⟨rfl, rfl, rfl⟩ := hcs
    exact ⟨[], rfl, Nat.zero_le _, fun i h => absurd h (Nat.not_lt_zero _)⟩
  · simp [Value.cells] at hcs
    obtain ⟨rfl, rfl, rfl⟩ := hcs
    have hlm : len ≤ m := by rw [hmm]; split <;> omega
    have each : ∀ i, i < len → ∃ t : Step4, t.n ≤ 9223372036854775807 ∧ ∃ b off, some x = some ⟨b, off, none⟩ ∧ W.cell? ⟨b, off + i * 4, none⟩ = some (.string t.k) ∧ W.cell? ⟨b, off + i * 4 + 1, none⟩ = some (.int .i64 t.s) ∧
        W.cell? ⟨b, off + i * 4 + 2, none⟩ = some (.int .i64 t.d) ∧ W.cell? ⟨b, off + i * 4 + 3, none⟩ = some (.int .i64 t.n) := by
      intro i hi
      obtain ⟨cs, h1, h2⟩ := hx i (by omega)
      obtain ⟨t, rfl, g1⟩ := step_of_trod h2
      rw [cellsStep] at h1
      obtain ⟨_, _, h3⟩ := World.cells?_some h1
      have q0 := h3 0 (by omega)
      have q1 := h3 1 (by omega)
      have q2 := h3 2 (by omega)
      have q3 := h3 3 (by omega)
      obtain ⟨b, off, spot⟩ := x
      obtain ⟨cs0, g3, g4⟩ := hx 0 (by omega)
      obtain ⟨t0, rfl, _⟩ := step_of_trod g4
      rw [cellsStep] at g3
      obtain ⟨_, _, g5⟩ := World.cells?_some g3
      have hz := g5 0 (by omega)
      have hsp : spot = none := by
        cases spot with
        | none => rfl
        | some k => unfold World.cell? Addr.add at hz; simp at hz; revert hz; split <;> simp
      subst hsp
      simp only [Addr.add_lit] at q0 q1 q2 q3
      exact ⟨t, g1, b, off, rfl, by simpa using q0, by simpa using q1, by simpa using q2, by simpa using q3⟩
    have : Inhabited Step4 := ⟨⟨⟨#[]⟩, 0, 0, 0⟩⟩
    obtain ⟨f, hf⟩ := Deep.choose_lt each
    refine ⟨(List.range len).map f, by simp, by simp; omega, fun i h => ?_⟩
    have hi : i < len := by simpa using h
    simpa using hf i hi
end Go.Proofs.YtdpemmmbkjmplabGreatDoor
namespace Go.Proofs.YtdpemmmbkjmplabGreatDoor
open Go.ChangeShapes Go.WideShapes Go.RowKit

/-- A slice of integers that came in is a slice of numbers. -/
theorem isSl_of_trod {H : Type} {enc : TypeId × Value → H} {W : World} {a : Option Addr} {len cap fuel : Nat} {d : DataW H} {p : List MemPlace} {sp : Nat → Bool} {held : Bool}
    (hf : DataW.trod enc Tryz.prog W 0 sp held fuel 22 (Value.slice a len cap).cells.toList = some (d, p)) : ∃ zs, IsSl W (.slice a len cap) zs := by
  rcases open_ints Tryz.underlying22 Tryz.underlying3 (by kernel_rfl) hf with ⟨hcs, _⟩ | ⟨x, l, c, zs, hcs, _, hl, hm, hz, _, hcell, hwz⟩
  · simp [Value.cells] at hcs
    obtain ⟨rfl, rfl, rfl⟩ := hcs
    exact ⟨[], none, 0, rfl, by simp, fun _ => rfl, fun h => by cases h⟩
  · simp [Value.cells] at hcs
    obtain ⟨rfl, rfl, rfl⟩ := hcs
    have hzl : len ≤ zs.length := by rw [hz]; split <;> omega
    have hlen : (zs.take len).length = len := by rw [List.length_take]; omega
    refine ⟨zs.take len, some x, cap, by rw [hlen], by omega, (fun h => by cases h), fun h0 => ?_⟩
    rw [hlen] at h0
    have hx := hcell 0 (by omega)
    have hsp : x.spot = none := by
      cases hq : x.spot with
      | none => rfl
      | some k => unfold World.cell? Addr.add at hx; simp [hq] at hx; revert hx; split <;> simp
    obtain ⟨b, off, sp⟩ := x
    simp at hsp
    subst hsp
    refine ⟨b, off, rfl, fun i hi => ?_⟩
    rw [hlen] at hi
    have := hcell i (by omega)
    have e : (⟨b, off, none⟩ : Addr).add i = ⟨b, off + i, none⟩ := by unfold Addr.add; split <;> simp_all
    rw [e] at this
    rw [this]
    simp [List.getD, hi]
end Go.Proofs.YtdpemmmbkjmplabGreatDoor
namespace Go.Proofs.YtdpemmmbkjmplabGreatDoor
open Go.ChangeShapes Go.WideShapes Go.RowKit

theorem own : ownKnob Tryz.prog.godebug = none := by kernel_rfl
theorem laidOut : laidOutB Tryz.prog = true := by kernel_rfl
theorem star : "*" ++ "errors.errorString" = "*errors.errorString" := by decide
theorem rowErrS (u : TypeId) (h : Tryz.prog.typeName? 3 u = some "*errors.errorString") : u = 222 :=
  typeName_ptr_named (nm := "errors.errorString") (by rw [star]; kernel_rfl) (by kernel_rfl) (by decide) u (by rw [star]; exact h)
theorem cellsErrS : Tryz.prog.cellsOf 242 = 1 := by kernel_rfl
theorem cellsString : Tryz.prog.cellsOf 9 = 1 := by kernel_rfl

/-- An error of errors.New, read through. -/
def errD (text : List UInt8) : DataW Unit := .iface "*errors.errorString" (.ptr (.agg [.lit (.string text)]))

/-- What a listed error variable (number g) and its address a have. -/
structure Sent (W : World) (g : Nat) (a : Addr) : Prop where
  var : W.cell? ⟨g, 0, none⟩ = some (.iface 222 (.pointer (some a)))
  str : ∃ s, W.cell? a = some (.string s)
  row : ∃ c t, W.heap[a.block]? = some (.cells c t (0, 0))

set_option maxRecDepth 100000 in
theorem sents {W : World} : ∀ (l : List (String × DataW Unit)) (gs : List Nat) (texts : List (List UInt8)),
    l.map (fun x => Tryz.prog.globalNamed x.1) = gs.map some → (∀ g ∈ gs, (Tryz.prog.globals[g]?).map (·.type) = some 28) → l.map (·.2) = texts.map errD →
    ∀ ps, DataW.LaidVars Tryz.prog W l ps → ps.Nodup →
    (∀ b off, MemPlace.cell b off ∈ ps → (∃ c t, W.heap[b]? = some (.cells c t (0, 0))) ∧ ∀ u v, W.cell? ⟨b, off, none⟩ = some (.iface u v) → Value.okWide Tryz.prog W .any 0 u v) →
    ∃ ads : List Addr, ads.length = gs.length ∧ ads.Nodup ∧ (∀ a ∈ ads, MemPlace.cell a.block a.off ∈ ps ∧ a.spot = none) ∧ ∀ (i g : Nat) (a : Addr), gs[i]? = some g → ads[i]? = some a → Sent W g a
  | [], [], _, _, _, _, _, _, _, _ => ⟨[], rfl, List.nodup_nil, (fun a h => by cases h), fun i g a h => by simp at h⟩
  | [], _ :: _, _, h, _, _, _, _, _, _ => by simp at h
  | _ :: _, [], _, h, _, _, _, _, _, _ => by simp at h
  | _ :: _, _ :: _, [], _, _, h, _, _, _, _ => by simp at h
  | (n, d) :: l, g :: gs, text :: texts, hg, ht, hd, ps, hl, hnd, hrows => by
    simp only [List.map_cons, List.cons.injEq] at hg hd
    obtain ⟨hg0, hg⟩ := hg
    obtain ⟨hd0, hd⟩ := hd
    obtain ⟨g', t, cs, fuel, p, q, e1, e2, e3, e4, e5, rfl⟩ := hl
    obtain rfl := Option.some.inj (hg0.symm.trans e1)
    obtain rfl := Option.some.inj ((ht g (List.mem_cons_self)).symm.trans e2)
    subst hd0
    obtain ⟨l0⟩ := cs
    have hvc : ∀ v, l0 = [v] → W.cell? ⟨g, 0, none⟩ = some v := fun v e => by subst e; simpa using World.var?_cell hg0 e3 0
    have ok0 : ∀ u v, l0 = [.iface u v] → Value.okWide Tryz.prog W .any 0 u v := fun u v e => (hrows g 0 (by subst e; simp [MemPlace.row])).2 u v (hvc _ e)
    obtain ⟨a0, s0, rfl, hc0, hs0, hz0, rfl⟩ := errorString_of_trod Tryz.underlying28 rowErrS Tryz.underlying222 Tryz.underlying242 rfl rfl Tryz.underlying9 cellsErrS cellsString e4 ok0
    have hr0 := (hrows a0.block a0.off (by simp [MemPlace.row])).1
    obtain ⟨ads, h1, h2, h3, h4⟩ := sents l gs texts hg (fun g' hm => ht g' (List.mem_cons_of_mem _ hm)) hd q e5 (hnd.sublist (List.sublist_append_right _ _)) (fun b off hm => hrows b off (List.mem_append_right _ hm))
    have hsp : a0.spot = none := by
      cases hq : a0.spot with
      | none => rfl
      | some k => unfold World.cell? at hc0; rw [hq] at hc0; revert hc0; split <;> simp
    refine ⟨a0 :: ads, by simp [h1], ?_, ?_, ?_⟩
    · refine List.nodup_cons.2 ⟨fun hm => ?_, h2⟩
      have hq := (h3 a0 hm).1
      rw [List.append_assoc] at hnd
      have h5 := (List.nodup_append.1 (List.nodup_append.1 hnd).2.1).2.2 (MemPlace.cell a0.block a0.off) (by simp [MemPlace.row]) _ hq
      exact h5 rfl
    · intro a hm
      rcases List.mem_cons.1 hm with rfl | hm
      · exact ⟨by simp [MemPlace.row], hsp⟩
      · exact ⟨List.mem_append_right _ (h3 a hm).1, (h3 a hm).2⟩
    · intro i g' a hgi hai
      cases i with
      | zero =>
        simp at hgi hai
        subst hgi; subst hai
        exact ⟨hvc _ rfl, ⟨s0, hc0⟩, hr0⟩
      | succ i => exact h4 i g' a (by simpa using hgi) (by simpa using hai)
def textOf : DataW Unit → List UInt8
  | .iface _ (.ptr (.agg [.lit (.string t)])) => t
  | _ => []
end Go.Proofs.YtdpemmmbkjmplabGreatDoor
namespace Go.Proofs.YtdpemmmbkjmplabGreatDoor
open Go.ChangeShapes Go.WideShapes Go.RowKit

theorem door_met9 (os : Os) (args : Array Value) : laidMetH Tryz.prog Rows.worldAgreesRow.laid ((World.doorLaid Tryz.prog 187 os).forCall (fun _ _ => 0) ⟨#[], args, []⟩).memory :=
  laidMetH_of_parts3 (fuel := 8) (laidMet_of_run' 8 (by kernel_rfl) (by kernel_rfl)) (by kernel_rfl) (by kernel_rfl)
theorem plainOf : (Rows.worldAgreesRow.laid.filter fun x => x.2.handleName?.isNone).map (fun x => Tryz.prog.globalNamed x.1) = [6, 3, 4, 1, 7, 5, 8, 0, 2].map some := by kernel_rfl
theorem textsOf : (Rows.worldAgreesRow.laid.filter fun x => x.2.handleName?.isNone).map (·.2) = ((Rows.worldAgreesRow.laid.filter fun x => x.2.handleName?.isNone).map fun x => textOf x.2).map errD := by kernel_rfl
theorem typesOf : ([6, 3, 4, 1, 7, 5, 8, 0, 2].all fun g => ((Tryz.prog.globals[g]?).map (·.type)) == some 28) = true := by kernel_rfl
theorem handleOf : (Rows.worldAgreesRow.laid.filter fun x => x.2.handleName?.isSome) = Rows.worldAgreesRow.laid.take 1 := by kernel_rfl
theorem gErrT : Tryz.prog.globalNamed (Rows.worldAgreesRow.laid.map (·.1)).head! = some 9 := by kernel_rfl
theorem rtypeT : (Tryz.prog.cutTypes.find? (·.1 == "internal/reflectlite.rtype")).map (·.2) = some 191 := by kernel_rfl
theorem oneRow : ((List.range 254).filter fun t => Tryz.prog.rowNamed t [101, 114, 114, 111, 114]) = [28] := by kernel_rfl
theorem sizeT : Tryz.prog.types.size = 254 := by kernel_rfl
theorem handleErr : typeHandle Tryz.prog 28 = .pointer (some ⟨10, 28, none⟩) := by kernel_rfl

theorem handle_of {W : World} (h : handlesMet Tryz.prog (Rows.worldAgreesRow.laid.filter fun x => x.2.handleName?.isSome) W) : W.cell? ⟨9, 0, none⟩ = some (.iface 191 (.agg #[.pointer (some ⟨10, 28, none⟩)])) := by
  rw [handleOf] at h
  obtain ⟨name, u, ty, e1, e2, e3, e4, e5⟩ := h _ (List.mem_singleton.2 rfl)
  have en : name = [101, 114, 114, 111, 114] := (Option.some.inj e1).symm
  subst en
  obtain rfl := Option.some.inj (rtypeT.symm.trans e2)
  have hm : ty ∈ (List.range 254).filter fun t => Tryz.prog.rowNamed t [101, 114, 114, 111, 114] := List.mem_filter.2 ⟨List.mem_range.2 (by rw [← sizeT]; exact e3), e4⟩
  rw [oneRow] at hm
  obtain rfl := List.mem_singleton.1 hm
  rw [handleErr] at e5
  simpa using World.var?_cell gErrT e5 0

theorem held9_of_laid {W : World} (h : laidMetH Tryz.prog Rows.worldAgreesRow.laid W) : ∃ A, Held9 W A := by
  obtain ⟨⟨ps, h1, h2, h3⟩, hh⟩ := laidMetH_iff.1 h
  obtain ⟨ads, hl, hnd, -, hs⟩ := sents _ [6, 3, 4, 1, 7, 5, 8, 0, 2] _ plainOf
    (fun g hg => by simpa using List.all_eq_true.1 typesOf g hg) textsOf ps h1 h2 h3
  have hlen : ads.length = 9 := by rw [hl]; rfl
  have hgs : ∀ i, i < 9 → [6, 3, 4, 1, 7, 5, 8, 0, 2][i]? = some (gN i) := by
    intro i hi
    have : i = 0 ∨ i = 1 ∨ i = 2 ∨ i = 3 ∨ i = 4 ∨ i = 5 ∨ i = 6 ∨ i = 7 ∨ i = 8 := by omega
    rcases this with rfl | rfl | rfl | rfl | rfl | rfl | rfl | rfl | rfl <;> rfl
  have hat : ∀ i (hi : i < 9), ads[i]? = some (ads.getD i ⟨0, 0, none⟩) := by
    intro i hi
    rw [List.getD_eq_getElem?_getD, List.getElem?_eq_getElem (by omega)]; rfl
  refine ⟨fun i => ads.getD i ⟨0, 0, none⟩, fun i hi => (hs i (gN i) _ (hgs i hi) (hat i hi)).var, ?_, fun i hi => (hs i (gN i) _ (hgs i hi) (hat i hi)).row, handle_of hh⟩
  intro i j hi hj hne e
  have e1 := hat i hi
  have e2 := hat j hj
  rw [e] at e1
  exact hne ((List.getElem?_inj (by omega) hnd).1 (e1.trans e2.symm))
end Go.Proofs.YtdpemmmbkjmplabGreatDoor
