/-
  THE WALK of the law SiteKeeps.
  WHAT THE CELL 'laid' GIVES THE WALKS: each listed error variable holds a pointer of its own to a string, no two the same.
  FROM 'laid' TO WHAT THE WALKS OF A JOURNAL ASK, without package errors: four error variables hold their errors; the door's own heap meets the condition (the witness).
-/
import Derived.Test.YtnnknplmjiahhabDoorKe1
import Derived.Test.YtnnknplmjiahhabDoorRows
import Derived.Test.YtnnknplmjiahhabDoorBa5
import Derived.Deep.CutBlock
import Derived.WalkKit
import Derived.ProofKit
import Derived.LaidLaws
import Derived.LaidMore
import Derived.LaidSub
import Derived.LaidHandle
import Derived.MakeChecks
namespace Go.Proofs.YtnnknplmjiahhabDoor
open Go.RowKit

set_option maxRecDepth 100000 in
theorem keeps_early (A : Nat → Addr) (ad : Option Addr) (len cap : Nat) (w : World) (hE : HeldE w A) (hl : len ≤ 9223372036854775807) (h : 80 < len) :
    Calls Tryd.prog 4 #[.slice ad len cap] w fun e w' => e = .returned (.bool true) ∧ Below w.heap.size w w' := by
  have HE := hid hE
  clear hE
  go_enter Tryd.func4, Tryd.ntmps4
  go_wp2_with (go_at_call 6; refine (votes_any A _ HE.out).mono ?_; rintro e w1 ⟨rfl, hb1⟩)
  go_ret
  exact ⟨rfl, hb1⟩
set_option maxRecDepth 100000 in
set_option maxHeartbeats 8000000 in
theorem keeps_small (A : Nat → Addr) (ad : Option Addr) (cap : Nat) (xs : List Act12) (w : World) (hE : HeldE w A) (hx : SActsIn w ad xs) (hl : xs.length ≤ 80) :
    Calls Tryd.prog 4 #[.slice ad xs.length cap] w fun e w' => e = .returned (.bool true) ∧ Below w.heap.size w w' := by
  have HE := hid hE
  have HX := hid hx
  clear hE hx
  have hmk := mkI6
  have hmb := mkBo
  go_enter Tryd.func4, Tryd.ntmps4
  go_wp2_with (go_at_call 6; refine (votes_any A _ HE.out).mono ?_; rintro e w1 ⟨rfl, hb1⟩; have HB1 := hid hb1; have HE1 := hid (HE.out.later hb1); clear hb1)
  refine (pnew_ok 512 _ (by omega)).mono ?_
  rintro e w2 ⟨rfl, hP2, hb2, hs2⟩
  have HP2 := hid hP2
  have HB2 := hid (HB1.out.trans (hb2.mono HB1.out.size))
  have HE2 := hid (HE.out.later HB2.out)
  have hpq := HB1.out.size
  clear hP2 hb2 hs2
  obtain ⟨p, Hp⟩ : ∃ p, Hid (w1.heap.size + 1 = p) := ⟨_, rfl⟩
  obtain ⟨q, Hq⟩ : ∃ q, Hid (w1.heap.size = q) := ⟨_, rfl⟩
  have p0 : w.heap.size ≤ p := by rw [← Hp.out]; omega
  have q0 : w.heap.size ≤ q := by rw [← Hq.out]; omega
  rw [Hp.out, Hq.out] at HP2
  have hpp := Hp.out
  go_wp2_with fail
  refine (snew_ok A 0 p q _ (-1) _ HP2.out HE2.out (by rw [zeroB_size]; omega) (by rw [zeroB_size]; omega) (by omega) (by omega) (by omega)).mono ?_
  rintro e w3 ⟨s, j, mb, rfl, hJ, hS, hb3, hj0, hjm, hms⟩
  have HS := hid (sp_new HB2.out HP2.out p0 q0 hJ hS hb3 hj0 hjm hms (by omega) (by omega) (by rw [zeroB_size]; omega) (by rw [zeroB_size]; omega))
  clear hJ hS hb3 hj0 hjm hms hpp
  obtain ⟨pb, Hpb⟩ : ∃ n, Hid (w3.heap.size = n) := ⟨_, rfl⟩
  have hpb := Hpb.out
  have HI0 := hid (ki_start HS.out rfl)
  rw [Hpb.out] at HI0
  go_wp2_with fail
  go_loopw [6, 9] (fun vs i wr => ∃ (k s j mb n : Nat) (R : Nat → Bool) (over : Bool) (B : ByteArray) (l : Int) (P : Nat → Nat) (V : Nat → Bool), k ≤ xs.length ∧ vs = .pointer (some ⟨s, 0, none⟩) ∧ i = .int .i64 (k : Int) ∧ KI w wr s j mb p q pb (pb + 1) n R over B l k P V) (fun _ i _ => xs.length - (intOf i).toNat)
  case atStart => exact ⟨0, s, j, mb, 0, _, _, _, _, _, _, Nat.zero_le _, rfl, rfl, HI0.out⟩
  case round =>
    clear HI0 HS
    obtain ⟨k, s, j, mb, n, R, over, B, l, P, V, hk, rfl, rfl, hI⟩ := hrel
    have HI := hid hI
    clear hI
    by_cases hlt : k < xs.length
    · obtain ⟨b, o, rfl, hy, hc9⟩ := HX.out k hlt
      obtain ⟨y0, y1, y2, y3, y4, y5, y6, y7, y8, y9, y10, y11⟩ := twelve (w := wr) (fun j hj => (HI.out.bel.cell (cell_lt (hy j hj |>.trans (List.getElem?_eq_getElem (by simpa [act12L] using hj))))).trans (hy j hj))
      generalize xs[k]'hlt = x at *
      obtain ⟨xk, xf, xt, xd, xkk, xa, xy, xph, xpr, xpa, xdl, xn⟩ := x
      simp only at y0 y1 y2 y3 y4 y5 y6 y7 y8 y9 y10 y11 hc9
      clear hy
      obtain ⟨ab, Hab⟩ : ∃ n, Hid (wr.heap.size = n) := ⟨_, rfl⟩
      obtain ⟨W, HW⟩ : ∃ W, Hid (wr.alloc (.cells #[.string xk, .int .i64 xf, .int .i64 xt, .int .i64 xd, .int .i64 xkk, .int .i64 xa, .bool xy, .int .i64 xph, .int .i64 xpr, .int .i64 xpa, .int .i64 xdl, .int .i64 xn] 38) = W) := ⟨_, rfl⟩
      have hW := HW.out
      have hab := Hab.out
      have HIW := hid (HI.out.later (w' := W) (by rw [← HW.out]; exact (Below.refl _ _).alloc (Nat.le_refl _) _))
      have RW : Hid (W.heap[ab]? = some (.cells #[.string xk, .int .i64 xf, .int .i64 xt, .int .i64 xd, .int .i64 xkk, .int .i64 xa, .bool xy, .int .i64 xph, .int .i64 xpr, .int .i64 xpa, .int .i64 xdl, .int .i64 xn] 38 (0, 0))) := by rw [← HW.out, ← Hab.out]; exact heap_alloc_new wr _
      have hk1000 : k < 1000 := by omega
      obtain ⟨a0, a1, a2, a3, a4, a5, a6, a7, a8, a9, a10, a11⟩ := twelveR RW.out
      go_upto_block 2 with fail
      clear y0 y1 y2 y3 y4 y5 y6 y7 y8 y9 y10 y11 hab hW HW HI
      rcases k1 : (xk.toList == [114, 101, 102, 117, 115, 101]) with _ | _
      rotate_left
      · -- refuse
        by_cases hdl : 0 ≤ xdl ∧ xdl < 6
        · obtain ⟨d, rfl⟩ : ∃ d : Nat, xdl = d := ⟨xdl.toNat, by omega⟩
          have hd : d < 6 := by omega
          have hn6 : n ≤ 1000000 := by have := HIW.out.hn; omega
          clear hdl
          go_wp2_with (go_at_call 9; (with_reducible refine (srefuse_ok d HIW.out.sp.jp.jr HIW.out.sp.sr hd hn6).mono ?_); rintro e v1 ⟨rfl, hr1, hk1, -⟩; have HI1 := hid (HIW.out.refuse hr1 hk1); clear hr1 hk1)
          go_roundw
          case rel => exact ⟨k + 1, s, j, mb, n + 1, _, over, B, l, P, V, by omega, rfl, by go_num, HI1.out⟩
          case measure => simp [intOf]; omega
        · have HEW := hid (HE.out.later HIW.out.bel)
          go_wp2_with (go_at_call 9; (with_reducible refine (srefuse_bad (A := A) xdl HIW.out.sp.sr HEW.out hdl).mono ?_); rintro e v1 ⟨rfl, hb1⟩; have HI1 := hid ((HIW.out.later hb1).mono (Nat.le_succ k)); clear hb1)
          go_roundw
          case rel => exact ⟨k + 1, s, j, mb, n, R, over, B, l, P, V, by omega, rfl, by go_num, HI1.out⟩
          case measure => simp [intOf]; omega
      rcases k2 : (xk.toList == [99, 117, 116]) with _ | _
      rotate_left
      · -- cut
        go_wp2_with (go_at_call 10; (with_reducible refine (scut_jp xn HIW.out.sp.jp HE.out hc9).mono ?_); rintro e v1 ⟨rfl, hj1, hk1⟩; have HI1 := hid (HIW.out.turn (HIW.out.sp.turn hj1 hk1) hk1 ((HIW.out.well.cut xn).mono (Nat.le_succ k)) (Nat.le_succ k) (fun _ _ => Nat.le_refl _)); clear hj1 hk1)
        go_roundw
        case rel => exact ⟨k + 1, s, j, mb, n, R, over, B, _, P, V, by omega, rfl, by go_num, HI1.out⟩
        case measure => simp [intOf]; omega
      rcases k3 : (xk.toList == [98, 111, 111, 116]) with _ | _
      rotate_left
      · -- boot
        go_wp2_with (first | (go_at_call 11; (with_reducible refine (jon_jp HIW.out.sp.jp).mono ?_); rintro e v1 ⟨rfl, hj1, hk1⟩; have HJ1 := hid hj1; have HI1 := hid (HIW.out.turn (HIW.out.sp.turn hj1 hk1) hk1 (HIW.out.well.on.mono (Nat.le_succ k)) (Nat.le_succ k) (fun _ _ => Nat.le_refl _)); clear hj1 hk1))
        refine (sboot_sp (id := ((0 : Nat) : Int)) HJ1.out HE.out (by decide) (by decide)).mono ?_
        rintro e v2 ⟨s', j', mb', rfl, hs2, hb2, h1, h2, h3⟩
        have HI2 := hid (HI1.out.boot hs2 hb2 h1 h2 h3)
        clear hs2 hb2 h1 h2 h3
        go_wp2_with fail
        go_roundw
        case rel => exact ⟨k + 1, s', j', mb', 0, _, false, B, -1, P, V, by omega, rfl, by go_num, HI2.out⟩
        case measure => simp [intOf]; omega
      · -- hear
        by_cases hf : frOk xf 0 xd xkk xa xph xpr xpa
        · obtain ⟨f, rfl⟩ : ∃ f : Nat, xf = f := ⟨xf.toNat, by have := hf.1; omega⟩
          obtain ⟨d, rfl⟩ : ∃ f : Nat, xd = f := ⟨xd.toNat, by have := hf.2.2.1; omega⟩
          obtain ⟨kk, rfl⟩ : ∃ f : Nat, xkk = f := ⟨xkk.toNat, by have := hf.2.2.2.1; omega⟩
          obtain ⟨a, rfl⟩ : ∃ f : Nat, xa = f := ⟨xa.toNat, by have := hf.2.2.2.2.1; omega⟩
          obtain ⟨ph, rfl⟩ : ∃ f : Nat, xph = f := ⟨xph.toNat, by have := hf.2.2.2.2.2.1; omega⟩
          obtain ⟨pr, rfl⟩ : ∃ f : Nat, xpr = f := ⟨xpr.toNat, by have := hf.2.2.2.2.2.2.1; omega⟩
          obtain ⟨pa, rfl⟩ : ∃ f : Nat, xpa = f := ⟨xpa.toNat, by have := hf.2.2.2.2.2.2.2; omega⟩
          have hd : d < 6 := by have := hf.2.2.1; omega
          have hdi : (d : Int) < 6 := by omega
          obtain ⟨⟨⟨th, tp, ta⟩, gk, gy⟩, HG⟩ : ∃ g, Hid (hearL (dealL B.data.toList d).2 (R d) kk a ph = g) := ⟨_, rfl⟩
          obtain ⟨⟨oc, oe, oo, ob, ol⟩, HO⟩ : ∃ o, Hid (pOut (dealL B.data.toList) over B l d th tp ta = o) := ⟨_, rfl⟩
          have HRS := hid (hear_keeps HIW.out.sp.jp.s6 HIW.out.well hk1000 hd (by have := hf.2.2.2.2.1; omega) (by have := hf.2.2.2.2.2.1; omega) HG.out HO.out)
          have HKd : Hid (gk = 0 ∨ gk = 2 ∨ gk = 4 ∨ gk = 6) := by have := hear_kinds (dealL B.data.toList d).2 (R d) kk a ph; rw [HG.out] at this; exact this
          have HF := hid hf
          have HLE := hid (HIW.out.le d hd)
          clear hf
          go_wp2_with fail
          refine (shear_in A w _ s j mb p q n 0 f d kk a ph pr pa xy R (dealL B.data.toList) over B l ⟨⟨th, tp, ta⟩, gk, gy⟩ ⟨oc, oe, oo, ob, ol⟩ (HIW.out.sp.later ((Below.refl _ _).alloc (Nat.le_refl _) _)) HE.out (fun d _ => deal_lt _ d) HF.out HG.out HO.out).mono ?_
          rintro e v2 ⟨v, rfl, hv, hs2, hk2⟩
          simp only at hv hs2
          have he : oe = dealL ob.data.toList := HRS.out.1
          rw [he] at hs2
          have HI2 := hid ((HIW.out.later ((Below.refl _ _).alloc (Nat.le_refl _) _)).turn hs2 hk2 HRS.out.2.1 (Nat.le_succ k) HRS.out.2.2.1)
          have HFR : Hid (v2.heap[W.heap.size]? = some (.cells #[.int .i64 f, .int .i64 0, .int .i64 d, .int .i64 kk, .int .i64 a, .bool xy, .int .i64 ph, .int .i64 pr, .int .i64 pa] 36 (0, 0))) := hk2.row (heap_alloc_new W _) (fun g => by obtain ⟨_, _, e1, e2, e3⟩ := HIW.out.sp.lts; unfold In3 at g; omega)
          clear hs2 hk2 he
          unfold AnsV at hv
          simp only at hv
          cases oc with
          | succ c =>
            rw [if_neg (fun h => by cases h.1)] at hv
            subst hv
            unfold ev
            go_wp2_with fail
            go_roundw
            case rel => exact ⟨k + 1, s, j, mb, n, R, oo, ob, ol, P, V, by omega, rfl, by go_num, HI2.out⟩
            case measure => simp [intOf]; omega
          | zero =>
            unfold ev
            have HT2 : Hid ((dealL ob.data.toList d).2 = ⟨th, tp, ta⟩) := HRS.out.2.2.2.1 rfl
            have HK4 : Hid (gk = 4 → gy = true → (dealL B.data.toList d).2.pr < a ∧ tp = a) := HRS.out.2.2.2.2.1
            have HK6 : Hid (gk = 6 → gy = true → (dealL B.data.toList d).2.pr ≤ a ∧ tp = a) := HRS.out.2.2.2.2.2.1
            have HK2 : Hid (gk = 2 → gy = false → th = 3) := HRS.out.2.2.2.2.2.2
            clear HRS HG HO HF
            rcases HKd.out with rfl | rfl | rfl | rfl
            · rw [if_neg (fun h => h.2 rfl)] at hv
              subst hv
              go_wp2_with fail
              go_roundw
              case rel => exact ⟨k + 1, s, j, mb, n, R, oo, ob, ol, P, V, by omega, rfl, by go_num, HI2.out⟩
              case measure => simp [intOf]; omega
            · rw [if_pos ⟨rfl, by decide⟩] at hv
              obtain ⟨gb, cp, rfl, hr⟩ := hv
              have HR2 : Hid (v2.heap[gb]? = some (.cells #[.int .i64 0, .int .i64 f, .int .i64 d, .int .i64 2, .int .i64 a, .bool gy, .int .i64 th, .int .i64 tp, .int .i64 ta] 36 (0, 0))) := hr
              clear hr
              obtain ⟨t0, t1, t2, t3, t4, t5, t6, t7, t8⟩ := nine HR2.out
              have hgb := row_ltJ HR2.out
              have hfb := row_ltJ HFR.out
              have u2 := (nine HFR.out).2.2.1
              obtain ⟨X, HXX⟩ : ∃ X, Hid (v2.alloc (.cells #[.int .i64 0, .int .i64 f, .int .i64 d, .int .i64 2, .int .i64 a, .bool gy, .int .i64 th, .int .i64 tp, .int .i64 ta] 36) = X) := ⟨_, rfl⟩
              have RT : Hid (X.heap[v2.heap.size]? = some (.cells #[.int .i64 0, .int .i64 f, .int .i64 d, .int .i64 2, .int .i64 a, .bool gy, .int .i64 th, .int .i64 tp, .int .i64 ta] 36 (0, 0))) := by rw [← HXX.out]; exact heap_alloc_new v2 _
              have HBX : Hid (Below v2.heap.size v2 X) := by rw [← HXX.out]; exact (Below.refl _ _).alloc (Nat.le_refl _) _
              have HI3 := hid (HI2.out.later HBX.out)
              have RF := hid ((HBX.out.block _ hfb).trans HFR.out)
              obtain ⟨p0', p1', p2', p3', p4', p5', p6', p7', p8'⟩ := nine RT.out
              have u4 := (nine RF.out).2.2.2.2.1
              have i0 := HI3.out.ir.at_ hd
              have i1 := HI3.out.ir.fz d
              have v0' := HI3.out.vr.at_ hd
              have v1' := HI3.out.vr.fz d
              have npt : v2.heap.size ≠ pb := by have := HI2.out.ir.lt; omega
              have hXX := HXX.out
              obtain ⟨vd, HVd⟩ : ∃ x, Hid (V d = x) := ⟨_, rfl⟩
              rw [HVd.out] at v0'
              cases gy with
              | true =>
                cases vd with
                | true =>
                  go_wp2_with fail
                  go_roundw
                  case rel => exact ⟨k + 1, s, j, mb, n, R, oo, ob, ol, P, _, by omega, rfl, by go_num, HI3.out.setV hd true⟩
                  case measure => simp [intOf]; omega
                | false =>
                  go_wp2_with fail
                  go_roundw
                  case rel => exact ⟨k + 1, s, j, mb, n, R, oo, ob, ol, P, _, by omega, rfl, by go_num, HI3.out.setV hd true⟩
                  case measure => simp [intOf]; omega
              | false =>
                have e3 : ((th : Int) != 3) = false := by rw [HK2.out rfl rfl]; rfl
                cases vd with
                | true =>
                  go_wp2_with fail
                  go_roundw
                  case rel => exact ⟨k + 1, s, j, mb, n, R, oo, ob, ol, P, _, by omega, rfl, by go_num, HI3.out.setV hd true⟩
                  case measure => simp [intOf]; omega
                | false =>
                  go_wp2_with fail
                  go_roundw
                  case rel => exact ⟨k + 1, s, j, mb, n, R, oo, ob, ol, P, _, by omega, rfl, by go_num, HI3.out.setV hd false⟩
                  case measure => simp [intOf]; omega
            · rw [if_pos ⟨rfl, by decide⟩] at hv
              obtain ⟨gb, cp, rfl, hr⟩ := hv
              have HR2 : Hid (v2.heap[gb]? = some (.cells #[.int .i64 0, .int .i64 f, .int .i64 d, .int .i64 4, .int .i64 a, .bool gy, .int .i64 th, .int .i64 tp, .int .i64 ta] 36 (0, 0))) := hr
              clear hr
              obtain ⟨t0, t1, t2, t3, t4, t5, t6, t7, t8⟩ := nine HR2.out
              have hgb := row_ltJ HR2.out
              have hfb := row_ltJ HFR.out
              have u2 := (nine HFR.out).2.2.1
              obtain ⟨X, HXX⟩ : ∃ X, Hid (v2.alloc (.cells #[.int .i64 0, .int .i64 f, .int .i64 d, .int .i64 4, .int .i64 a, .bool gy, .int .i64 th, .int .i64 tp, .int .i64 ta] 36) = X) := ⟨_, rfl⟩
              have RT : Hid (X.heap[v2.heap.size]? = some (.cells #[.int .i64 0, .int .i64 f, .int .i64 d, .int .i64 4, .int .i64 a, .bool gy, .int .i64 th, .int .i64 tp, .int .i64 ta] 36 (0, 0))) := by rw [← HXX.out]; exact heap_alloc_new v2 _
              have HBX : Hid (Below v2.heap.size v2 X) := by rw [← HXX.out]; exact (Below.refl _ _).alloc (Nat.le_refl _) _
              have HI3 := hid (HI2.out.later HBX.out)
              have RF := hid ((HBX.out.block _ hfb).trans HFR.out)
              obtain ⟨p0', p1', p2', p3', p4', p5', p6', p7', p8'⟩ := nine RT.out
              have u4 := (nine RF.out).2.2.2.2.1
              have i0 := HI3.out.ir.at_ hd
              have i1 := HI3.out.ir.fz d
              have v0' := HI3.out.vr.at_ hd
              have v1' := HI3.out.vr.fz d
              have npt : v2.heap.size ≠ pb := by have := HI2.out.ir.lt; omega
              have hXX := HXX.out
              cases gy with
              | false =>
                go_wp2_with fail
                go_roundw
                case rel => exact ⟨k + 1, s, j, mb, n, R, oo, ob, ol, P, V, by omega, rfl, by go_num, HI3.out⟩
                case measure => simp [intOf]; omega
              | true =>
                obtain ⟨q1, q2⟩ := HK4.out rfl rfl
                have hle := HLE.out
                have g1 : ¬ (a : Int) ≤ (P d : Int) := by omega
                have g2 : ¬ a ≤ P d := by omega
                have HQ : Hid (a ≤ (dealL ob.data.toList d).2.pr) := by rw [HT2.out]; exact Nat.le_of_eq q2.symm
                clear q1 q2 hle
                go_wp2_with fail
                go_region
                all_goals go_wp2_with fail
                all_goals go_roundw
                case rel => exact ⟨k + 1, s, j, mb, n, R, oo, ob, ol, _, V, by omega, rfl, by go_num, (HI3.out.setP hd a HQ.out).drew⟩
                case measure => simp [intOf]; omega
            · rw [if_pos ⟨rfl, by decide⟩] at hv
              obtain ⟨gb, cp, rfl, hr⟩ := hv
              have HR2 : Hid (v2.heap[gb]? = some (.cells #[.int .i64 0, .int .i64 f, .int .i64 d, .int .i64 6, .int .i64 a, .bool gy, .int .i64 th, .int .i64 tp, .int .i64 ta] 36 (0, 0))) := hr
              clear hr
              obtain ⟨t0, t1, t2, t3, t4, t5, t6, t7, t8⟩ := nine HR2.out
              have hgb := row_ltJ HR2.out
              have hfb := row_ltJ HFR.out
              have u2 := (nine HFR.out).2.2.1
              obtain ⟨X, HXX⟩ : ∃ X, Hid (v2.alloc (.cells #[.int .i64 0, .int .i64 f, .int .i64 d, .int .i64 6, .int .i64 a, .bool gy, .int .i64 th, .int .i64 tp, .int .i64 ta] 36) = X) := ⟨_, rfl⟩
              have RT : Hid (X.heap[v2.heap.size]? = some (.cells #[.int .i64 0, .int .i64 f, .int .i64 d, .int .i64 6, .int .i64 a, .bool gy, .int .i64 th, .int .i64 tp, .int .i64 ta] 36 (0, 0))) := by rw [← HXX.out]; exact heap_alloc_new v2 _
              have HBX : Hid (Below v2.heap.size v2 X) := by rw [← HXX.out]; exact (Below.refl _ _).alloc (Nat.le_refl _) _
              have HI3 := hid (HI2.out.later HBX.out)
              have RF := hid ((HBX.out.block _ hfb).trans HFR.out)
              obtain ⟨p0', p1', p2', p3', p4', p5', p6', p7', p8'⟩ := nine RT.out
              have u4 := (nine RF.out).2.2.2.2.1
              have i0 := HI3.out.ir.at_ hd
              have i1 := HI3.out.ir.fz d
              have v0' := HI3.out.vr.at_ hd
              have v1' := HI3.out.vr.fz d
              have npt : v2.heap.size ≠ pb := by have := HI2.out.ir.lt; omega
              have hXX := HXX.out
              cases gy with
              | false =>
                go_wp2_with fail
                go_roundw
                case rel => exact ⟨k + 1, s, j, mb, n, R, oo, ob, ol, P, V, by omega, rfl, by go_num, HI3.out⟩
                case measure => simp [intOf]; omega
              | true =>
                obtain ⟨q1, q2⟩ := HK6.out rfl rfl
                have hle := HLE.out
                have g1 : ¬ (a : Int) < (P d : Int) := by omega
                have g2 : ¬ a < P d := by omega
                have HQ : Hid (a ≤ (dealL ob.data.toList d).2.pr) := by rw [HT2.out]; exact Nat.le_of_eq q2.symm
                clear q1 q2 hle
                go_wp2_with fail
                go_region
                all_goals go_wp2_with fail
                all_goals go_roundw
                case rel => exact ⟨k + 1, s, j, mb, n, R, oo, ob, ol, _, V, by omega, rfl, by go_num, (HI3.out.setP hd a HQ.out).drew⟩
                case measure => simp [intOf]; omega
        · go_wp2_with (go_at_call 12; (with_reducible refine (shear_bad A _ xf 0 xd xkk xa xy xph xpr xpa _ (HE.out.later (HIW.out.later ((Below.refl _ _).alloc (Nat.le_refl _) _)).bel) hf).mono ?_); rintro e v2 ⟨rfl, hb2⟩; unfold ev; have HI2 := hid (((HIW.out.later ((Below.refl _ _).alloc (Nat.le_refl _) _)).later hb2).mono (Nat.le_succ k)); clear hb2)
          go_roundw
          case rel => exact ⟨k + 1, s, j, mb, n, R, over, B, l, P, V, by omega, rfl, by go_num, HI2.out⟩
          case measure => simp [intOf]; omega
    · obtain rfl : k = xs.length := by omega
      have HBl := hid HI.out.bel
      go_wp2_with fail
      go_ret
      exact ⟨rfl, HBl.out⟩
end Go.Proofs.YtnnknplmjiahhabDoor
namespace Go.Proofs.YtnnknplmjiahhabDoor
open Go.ChangeShapes Go.WideShapes Go.RowKit

theorem own : ownKnob Tryd.prog.godebug = none := by kernel_rfl
theorem laidOut : laidOutB Tryd.prog = true := by kernel_rfl
theorem star : "*" ++ "errors.errorString" = "*errors.errorString" := by decide
theorem rowErrS (u : TypeId) (h : Tryd.prog.typeName? 3 u = some "*errors.errorString") : u = 157 :=
  typeName_ptr_named (nm := "errors.errorString") (by rw [star]; kernel_rfl) (by kernel_rfl) (by decide) u (by rw [star]; exact h)
theorem cellsErrS : Tryd.prog.cellsOf 177 = 1 := by kernel_rfl
theorem cellsString : Tryd.prog.cellsOf 9 = 1 := by kernel_rfl

/-- An error of errors.New, read through. -/
def errD (text : List UInt8) : DataW Unit := .iface "*errors.errorString" (.ptr (.agg [.lit (.string text)]))

/-- What a listed error variable (number g) and its address a have. -/
structure Sent (W : World) (g : Nat) (a : Addr) : Prop where
  var : W.cell? ⟨g, 0, none⟩ = some (.iface 157 (.pointer (some a)))
  str : ∃ s, W.cell? a = some (.string s)
  row : ∃ c t, W.heap[a.block]? = some (.cells c t (0, 0))

set_option maxRecDepth 100000 in
theorem sents {W : World} : ∀ (l : List (String × DataW Unit)) (gs : List Nat) (texts : List (List UInt8)),
    l.map (fun x => Tryd.prog.globalNamed x.1) = gs.map some → (∀ g ∈ gs, (Tryd.prog.globals[g]?).map (·.type) = some 26) → l.map (·.2) = texts.map errD →
    ∀ ps, DataW.LaidVars Tryd.prog W l ps → ps.Nodup →
    (∀ b off, MemPlace.cell b off ∈ ps → (∃ c t, W.heap[b]? = some (.cells c t (0, 0))) ∧ ∀ u v, W.cell? ⟨b, off, none⟩ = some (.iface u v) → Value.okWide Tryd.prog W .any 0 u v) →
    ∃ ads : List Addr, ads.length = gs.length ∧ ads.Nodup ∧ (∀ a ∈ ads, MemPlace.cell a.block a.off ∈ ps ∧ a.spot = none) ∧ ∀ (i g : Nat) (a : Addr), gs[i]? = some g → ads[i]? = some a → Sent W g a
  | [], [], _, _, _, _, _, _, _, _ => ⟨[], rfl, List.nodup_nil, (fun a h => by cases h), fun i g a h => by simp at h⟩
  | [], _ :: _, _, h, _, _, _, _, _, _ => by simp at h
  | _ :: _, [], _, h, _, _, _, _, _, _ => by simp at h
  | _ :: _, _ :: _, [], _, _, h, _, _, _, _ => by simp at h
  | (n, d) :: l, g :: gs, text :: texts, hg, ht, hd, ps, hl, hnd, hrows => by
    simp only [List.map_cons, List.cons.injEq] at hg hd
    obtain ⟨hg0, hg⟩ := hg
    obtain ⟨hd0, hd⟩ := hd
    obtain ⟨g', t, cs, fuel, p, q, e1, e2, e3, e4, e5, rfl⟩ := hl
    obtain rfl := Option.some.inj (hg0.symm.trans e1)
    obtain rfl := Option.some.inj ((ht g (List.mem_cons_self)).symm.trans e2)
    subst hd0
    obtain ⟨l0⟩ := cs
    have hvc : ∀ v, l0 = [v] → W.cell? ⟨g, 0, none⟩ = some v := fun v e => by subst e; simpa using World.var?_cell hg0 e3 0
    have ok0 : ∀ u v, l0 = [.iface u v] → Value.okWide Tryd.prog W .any 0 u v := fun u v e => (hrows g 0 (by subst e; simp [MemPlace.row])).2 u v (hvc _ e)
    obtain ⟨a0, s0, rfl, hc0, hs0, hz0, rfl⟩ := errorString_of_trod Tryd.underlying26 rowErrS Tryd.underlying157 Tryd.underlying177 rfl rfl Tryd.underlying9 cellsErrS cellsString e4 ok0
    have hr0 := (hrows a0.block a0.off (by simp [MemPlace.row])).1
    obtain ⟨ads, h1, h2, h3, h4⟩ := sents l gs texts hg (fun g' hm => ht g' (List.mem_cons_of_mem _ hm)) hd q e5 (hnd.sublist (List.sublist_append_right _ _)) (fun b off hm => hrows b off (List.mem_append_right _ hm))
    have hsp : a0.spot = none := by
      cases hq : a0.spot with
      | none => rfl
      | some k => unfold World.cell? at hc0; rw [hq] at hc0; revert hc0; split <;> simp
    refine ⟨a0 :: ads, by simp [h1], ?_, ?_, ?_⟩
    · refine List.nodup_cons.2 ⟨fun hm => ?_, h2⟩
      have hq := (h3 a0 hm).1
      rw [List.append_assoc] at hnd
      have h5 := (List.nodup_append.1 (List.nodup_append.1 hnd).2.1).2.2 (MemPlace.cell a0.block a0.off) (by simp [MemPlace.row]) _ hq
      exact h5 rfl
    · intro a hm
      rcases List.mem_cons.1 hm with rfl | hm
      · exact ⟨by simp [MemPlace.row], hsp⟩
      · exact ⟨List.mem_append_right _ (h3 a hm).1, (h3 a hm).2⟩
    · intro i g' a hgi hai
      cases i with
      | zero =>
        simp at hgi hai
        subst hgi; subst hai
        exact ⟨hvc _ rfl, ⟨s0, hc0⟩, hr0⟩
      | succ i => exact h4 i g' a (by simpa using hgi) (by simpa using hai)
def textOf : DataW Unit → List UInt8
  | .iface _ (.ptr (.agg [.lit (.string t)])) => t
  | _ => []
end Go.Proofs.YtnnknplmjiahhabDoor
namespace Go.Proofs.YtnnknplmjiahhabDoor
open Go.ChangeShapes Go.WideShapes Go.RowKit

theorem door_met4 (os : Os) (args : Array Value) : laidMetH Tryd.prog Rows.siteRisesRow.laid ((World.doorLaid Tryd.prog 187 os).forCall (fun _ _ => 0) ⟨#[], args, []⟩).memory :=
  laidMetH_of_parts3 (fuel := 8) (laidMet_of_run' 8 (by kernel_rfl) (by kernel_rfl)) (by kernel_rfl) (by kernel_rfl)
theorem types4 : ([0, 2, 3, 1].all fun g => ((Tryd.prog.globals[g]?).map (·.type)) == some 26) = true := by kernel_rfl
theorem held4_of_laid {W : World} (h : laidMetH Tryd.prog Rows.siteRisesRow.laid W) : ∃ A, HeldE W A := by
  rw [MakeChecks.laidMetH_plain _ _ _ (by kernel_rfl)] at h
  obtain ⟨ps, h1, h2, h3⟩ := h
  obtain ⟨ads, hl, -, -, hs⟩ := sents Rows.siteRisesRow.laid [0, 2, 3, 1] (Rows.siteRisesRow.laid.map fun x => textOf x.2) (by kernel_rfl)
    (fun g hg => by simpa using List.all_eq_true.1 types4 g hg) (by kernel_rfl) ps h1 h2 h3
  match ads, hl with
  | [a1, a2, a3, a4], _ =>
    exact ⟨fun i => if i = 1 then a1 else if i = 2 then a2 else if i = 4 then a3 else a4, (hs 0 0 a1 rfl rfl).var, (hs 1 2 a2 rfl rfl).var, (hs 2 3 a3 rfl rfl).var, (hs 3 1 a4 rfl rfl).var⟩
end Go.Proofs.YtnnknplmjiahhabDoor
