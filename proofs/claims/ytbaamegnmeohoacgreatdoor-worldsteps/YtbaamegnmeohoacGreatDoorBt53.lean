/-
  On the way to WStepsProof: X0.
-/
import Derived.Test.YtbaamegnmeohoacGreatDoorBt51
namespace Go.Proofs.YtbaamegnmeohoacGreatDoor
open Go.RowKit
theorem errW_le9 (zs : List Int) : errW zs ≤ 9 := by
  unfold errW
  repeat' split
  all_goals omega
theorem rErrN (v : Value) (zs : List Int) (n : Nat) (w : World) (hv : IsSl w v zs) (hn : errW zs = n) :
    Calls Tryz.prog 12 #[v] w fun e w' => e = .returned (.int .i64 (n : Int)) ∧ w' = w := by
  subst hn; exact rErr_any v zs w hv
section
variable {w0 v0 w w1 w' : World} {C D : Nat → Nat} {X : XB} {Y : YB} {aw : Option Addr} {cap m : Nat} {zs : List Int} {V : PX} {A : Nat → Addr}
theorem RW.rebase (h : RW v0 w D Y aw cap zs V m) (hb : Below w0.heap.size w0 w) (hs : w0.heap.size ≤ v0.heap.size) (hsl : IsSl w0 (.slice aw zs.length cap) zs) : RW w0 w D Y aw cap zs V m := by
  obtain ⟨L, b1, b2, b3⟩ := h.brk
  exact ⟨hb, h.row, hsl, h.ns, h.nds, ⟨L, own_base b1 hs, b2, b3⟩, own_base h.fly hs, own_base h.evs hs, h.cx, h.cn, h.cb, h.cf, h.ce, h.lt, fun x hx => Nat.le_trans hs (h.low x hx), h.inv⟩
theorem two_new (h : WD w0 w C X zs V m) (k : RW w w' D Y aw cap zs V m) (hsl : IsSl w0 (.slice aw zs.length cap) zs) : Two w0 w' C X D Y aw cap zs V V m m := by
  have hb := k.bel
  refine ⟨h.later hb, k.rebase (h.bel.trans (hb.mono h.bel.size)) h.bel.size hsl, fun x hx => ?_⟩
  have h1 := h.lt x hx
  rcases Nat.lt_or_ge (D x) 2000 with q | q
  · have := k.low x q; omega
  · exact q
def NewOk : Prop := ∀ (w : World) (aw : Option Addr) (cap : Nat) (zs : List Int), IsSl w (.slice aw zs.length cap) zs → errW zs = 0 →
    Calls Tryz.prog 14 #[.slice aw zs.length cap] w fun e w' => ∃ C Y, e = .returned (.pointer (some ⟨Y.xb, 0, none⟩)) ∧ RW w w' C Y aw cap zs newX 0
end
set_option maxHeartbeats 8000000 in
set_option maxRecDepth 100000 in
theorem wsteps_any (hNew : NewOk) (A : Nat → Addr) (v : Value) (zs : List Int) (ad : Option Addr) (cap : Nat) (xs : List Step4) (w : World) (hE : Held9 w A) (hv : IsSl w v zs) (hx : SIn w ad xs) (hm : xs.length ≤ maxLen) :
    Calls Tryz.prog 3 #[v, .slice ad xs.length cap] w fun e w' => e = .returned (.bool true) ∧ Below w.heap.size w w' := by
  unfold maxLen at hm
  have HE := hid hE
  have HV := hid hv
  have HX := hid hx
  have HNw := hid hNew
  obtain ⟨av, capv, rfl, hzm, -, -⟩ := hv
  unfold maxLen at hzm
  obtain ⟨n, HN⟩ : ∃ n, Hid (zs.length = n) := ⟨_, rfl⟩
  obtain ⟨l, HL⟩ : ∃ l, Hid (xs.length = l) := ⟨_, rfl⟩
  rw [HL.out] at hm ⊢
  rw [HN.out] at hzm ⊢
  clear hE hx hNew
  by_cases h30 : 30 < n
  · have e1 : (30 : Int) < (n : Int) := by omega
    go_enter Tryz.func3, Tryz.ntmps3
    go_wp2_with fail
    refine (born_any A w HE.out).mono ?_
    rintro e w1 ⟨rfl, hb⟩
    have HB1 := hid hb
    clear hb
    go_wp2_with fail
    go_ret
    exact ⟨rfl, HB1.out⟩
  · have e1 : ¬ (30 : Int) < (n : Int) := by omega
    by_cases h150 : 150 < l
    · have e2 : (150 : Int) < (l : Int) := by omega
      go_enter Tryz.func3, Tryz.ntmps3
      go_wp2_with fail
      refine (born_any A w HE.out).mono ?_
      rintro e w1 ⟨rfl, hb⟩
      have HB1 := hid hb
      clear hb
      go_wp2_with fail
      go_ret
      exact ⟨rfl, HB1.out⟩
    · have e2 : ¬ (150 : Int) < (l : Int) := by omega
      go_enter Tryz.func3, Tryz.ntmps3
      go_wp2_with fail
      refine (born_any A w HE.out).mono ?_
      rintro e w1 ⟨rfl, hb⟩
      have HB1 := hid hb
      have HOwn := hid (ownInts_any _ zs w1 (HV.out.later hb) (by rw [HN.out]; omega))
      rw [HN.out] at HOwn
      clear hb
      go_wp2_with fail
      refine HOwn.out.mono ?_
      rintro e w2 ⟨v2, rfl, hv2, hb2⟩
      have HV2 := hid hv2
      have HB2 := hid (below_trans HB1.out hb2)
      clear hv2 hb2
      by_cases he : errW zs = 0
      · obtain ⟨n1, n7, -, -⟩ := errW_zero he
        rw [HN.out] at n1 n7
        have HEr := hid he
        have HNewW := hid (wnew_ok v2 HV2.out (HE.out.later HB2.out) he)
        clear he
        go_wp2_with fail
        refine HNewW.out.mono ?_
        rintro e w3 ⟨C, X, rfl, h3⟩
        have H3 := hid h3
        have HB3 := hid (below_trans HB2.out h3.bel)
        have HErr := hid (rErrN (.slice av zs.length capv) zs 0 w3 (HV.out.later HB3.out) HEr.out)
        rw [HN.out] at HErr
        clear h3
        go_wp2_with fail
        refine HErr.out.mono ?_
        rintro e w4 ⟨rfl, hx4⟩
        subst w4
        have HMod := hid (HNw.out w3 av capv zs (HV.out.later HB3.out) HEr.out)
        rw [HN.out] at HMod
        go_wp2_with fail
        refine HMod.out.mono ?_
        rintro e w4 ⟨D, Y, rfl, h4⟩
        have HT := hid (two_new H3.out h4 (HV.out.later HB2.out))
        clear h4
        go_wp2_with fail
        go_loopw [10] (fun v wr => ∃ (k : Nat) (V : PX) (C' : Nat → Nat) (X' : XB) (D' : Nat → Nat) (Y' : YB), k ≤ l ∧ v = .int .i64 (k : Int) ∧ Hid (Two w2 wr C' X' D' Y' av capv zs V V (42 * k) (42 * k) ∧ X'.xb = X.xb ∧ Y'.xb = Y.xb)) (fun v _ => l - (intOf v).toNat)
        case atStart => exact ⟨0, newX, C, X, D, Y, Nat.zero_le _, rfl, HT.out, rfl, rfl⟩
        case round =>
          obtain ⟨k, V, C1, X1, D1, Y1, hk, rfl, HI⟩ := hrel
          rename_i wr
          have HBr := hid (below_trans HB2.out HI.out.1.wd.bel)
          by_cases hlt : k < l
          · have hkl : k < xs.length := by rw [HL.out]; exact hlt
            obtain ⟨hn9, b, o, rfl, y0, y1, y2, y3⟩ := (HX.out.later HBr.out) k hkl
            obtain ⟨⟨xk, xS, xD, xN⟩, HS⟩ : ∃ e, Hid (xs[k]'hkl = e) := ⟨_, rfl⟩
            rw [HS.out] at y0 y1 y2 y3 hn9
            have HStep := hid (step_any xk xS xD xN HI.out.1 (HE.out.later HB2.out) (by omega) hn9)
            rw [HI.out.2.1, HI.out.2.2] at HStep
            have hkI : (k : Int) < (l : Int) := by omega
            have htm : (k : Int).tmod 10 = (k : Int) % 10 := rem_is (by omega)
            go_wp2_with fail
            refine HStep.out.mono ?_
            rintro e w5 ⟨rfl, V5, C5, X5, D5, Y5, t5, k5, k6⟩
            have HT5 : Hid (Two w2 w5 C5 X5 D5 Y5 av capv zs V5 V5 (42 * (k + 1)) (42 * (k + 1)) ∧ X5.xb = X.xb ∧ Y5.xb = Y.xb) := by
              refine ⟨?_, (key_xb k5).trans HI.out.2.1, (rkey_xb k6).trans HI.out.2.2⟩
              rw [show 42 * (k + 1) = 42 * k + 42 by omega]; exact t5
            clear t5 k5 k6 y0 y1 y2 y3
            by_cases h10 : (k : Int) % 10 = 0
            · have h11 : ((k : Int) % 10 == 0) = true := by simpa using h10
              have HAs := hid (asWorld_any HT5.out.1.wd HT5.out.1.rw (HE.out.later HB2.out) (by omega))
              rw [HT5.out.2.1, HT5.out.2.2] at HAs
              clear h10
              go_wp2_with fail
              refine HAs.out.mono ?_
              rintro e w6 ⟨rfl, hb6⟩
              have HT6 := hid (HT5.out.1.later hb6)
              clear hb6
              go_wp2_with fail
              go_roundw
              case rel => exact ⟨k + 1, V5, C5, X5, D5, Y5, by omega, by go_num, HT6.out, HT5.out.2.1, HT5.out.2.2⟩
              case measure => simp [intOf]; omega
            · have h11 : ((k : Int) % 10 == 0) = false := by simpa using h10
              clear h10
              go_wp2_with fail
              go_roundw
              case rel => exact ⟨k + 1, V5, C5, X5, D5, Y5, by omega, by go_num, HT5.out⟩
              case measure => simp [intOf]; omega
          · obtain rfl : k = l := by omega
            have HAs := hid (asWorld_any HI.out.1.wd HI.out.1.rw (HE.out.later HB2.out) (by omega))
            rw [HI.out.2.1, HI.out.2.2] at HAs
            go_wp2_with fail
            refine HAs.out.mono ?_
            rintro e w6 ⟨rfl, hb6⟩
            have HB6 := hid (below_trans HBr.out hb6)
            clear hb6
            go_wp2_with fail
            go_ret
            exact ⟨rfl, HB6.out⟩
      · obtain ⟨c, hc⟩ : ∃ c, errW zs = c + 1 := ⟨errW zs - 1, by omega⟩
        have hc9 : c + 1 ≤ 9 := by rw [← hc]; exact errW_le9 zs
        have HNewW := hid (wnew_err v2 c HV2.out (HE.out.later HB2.out) hc)
        have HErr := hid (rErrN (.slice av zs.length capv) zs (c + 1) w2 (HV.out.later HB2.out) hc)
        rw [HN.out] at HErr
        have HCo := hid (coded_ev A (c + 1) w2 (HE.out.later HB2.out) hc9)
        have hcp : (0 : Int) < ((c + 1 : Nat) : Int) := by omega
        obtain ⟨c1, HC1⟩ : ∃ c1 : Nat, Hid (c + 1 = c1) := ⟨_, rfl⟩
        have HCo2 : Hid (Calls Tryz.prog 13 #[.iface 342 (.pointer (some (A c))), .int .i64 ((c + 1 : Nat) : Int)] w2 fun e w' => e = .returned (.bool true) ∧ Below w2.heap.size w2 w') := HCo.out
        rw [HC1.out] at HErr HCo2 hcp
        clear he hc hc9
        go_wp2_with fail
        refine HNewW.out.mono ?_
        rintro e w3 ⟨rfl, hx3⟩
        subst w3
        go_wp2_with fail
        refine HErr.out.mono ?_
        rintro e w3 ⟨rfl, hx3⟩
        subst w3
        go_wp2_with fail
        refine HCo2.out.mono ?_
        rintro e w3 ⟨rfl, hb3⟩
        have HB3 := hid (below_trans HB2.out hb3)
        clear hb3
        go_wp2_with fail
        go_ret
        exact ⟨rfl, HB3.out⟩
end Go.Proofs.YtbaamegnmeohoacGreatDoor
