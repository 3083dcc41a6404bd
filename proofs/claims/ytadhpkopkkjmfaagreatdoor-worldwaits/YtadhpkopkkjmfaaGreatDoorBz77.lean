/-
  On the way to WWaitsProof: GF.
-/
import Derived.Test.YtadhpkopkkjmfaaGreatDoorBz75
set_option maxHeartbeats 8000000
set_option maxRecDepth 100000
namespace Go.Proofs.YtadhpkopkkjmfaaGreatDoor
open Go.RowKit
def AtJ (w0 wr : World) (zs : List Int) (xb : Nat) (k : Nat) : Prop := ∃ V C X, WD w0 wr C X zs V (42 * k) ∧ X.xb = xb ∧ pot zs V ≤ 210 * k ∧ V.fly.length ≤ 84 * k
theorem atj_step {w0 wr w' : World} {zs : List Int} {xb k : Nat} {V : PX} {C : Nat → Nat} {X : XB} (h : WD w0 wr C X zs V (42 * k) ∧ X.xb = xb ∧ pot zs V ≤ 210 * k ∧ V.fly.length ≤ 84 * k) (ho : StpOut w0 wr w' C X zs V (42 * k)) : AtJ w0 w' zs xb (k + 1) := by
  obtain ⟨h1, h2, h3, h4⟩ := h
  obtain ⟨V', hs, C', X', g1, g2, -, -⟩ := ho
  refine ⟨V', C', X', g1.mono (by omega), (key_xb g2).trans h2, ?_, ?_⟩
  · have := hs.pot h1.inv
    omega
  · have := hs.len h1.inv
    omega
def DrI (w0 wr : World) (zs : List Int) (xb : Nat) (i : Nat) : Prop := ∃ V C X, WD w0 wr C X zs V 8400 ∧ X.xb = xb ∧ pot zs V ≤ 42000 ∧ V.fly.length + i ≤ 16800
theorem pot_take {zs : List Int} {V : PX} (k : Nat) : pot zs (takeX V k) ≤ pot zs V := by
  unfold pot
  refine Nat.add_le_add_right ?_ _
  show wtL (V.fly.eraseIdx k) ≤ wtL V.fly
  cases h : V.fly[k]? with
  | none => rw [List.eraseIdx_of_length_le (List.getElem?_eq_none_iff.1 h)]; exact Nat.le_refl _
  | some f => have := wtL_erase V.fly k f h; omega
def boolC (D : Nat → Bool) : List Value := (List.range 6).map fun j => .bool (D j)
def setB (D : Nat → Bool) (q : Nat) : Nat → Bool := fun j => if j = q then true else D j
theorem boolC_get (D : Nat → Bool) {q : Nat} (h : q < 6) : (boolC D)[q]? = some (.bool (D q)) := by
  unfold boolC
  rw [List.getElem?_map, List.getElem?_range h]
  rfl
theorem boolC_set (D : Nat → Bool) {q : Nat} (h : q < 6) : (boolC D).set q (.bool true) = boolC (setB D q) := by
  rcases six h with rfl | rfl | rfl | rfl | rfl | rfl <;> rfl
theorem mkBools (w : World) : (Instr.makeSlice 67 (.int .i64 6) (.int .i64 6)).run Tryz.prog w = .ok (.slice (some ⟨w.heap.size, 0, none⟩) 6 6) (w.alloc (.cells (boolC (fun _ => false)).toArray 4)) := by kernel_rfl
theorem new_far2 {w0 w1 : World} {zs : List Int} {C1 : Nat → Nat} {X1 : XB} {V1 : PX} {m1 : Nat} (h : WD w0 w1 C1 X1 zs V1 m1) : 2000 ≤ C1 w1.heap.size := by
  rcases Nat.lt_or_ge (C1 w1.heap.size) 2000 with q | q
  · have := h.lt _ q; omega
  · exact q
def DcI (w0 wr : World) (C : Nat → Nat) (X : XB) (zs : List Int) (V : PX) (a g : Nat) (D : Nat → Bool) : Prop := WD w0 wr C X zs V (8400 + 9 * a + 0) ∧ wr.heap[g]? = some (.cells (boolC D).toArray 4 (0, 0))
section
variable {w0 w w' : World} {C : Nat → Nat} {X : XB} {zs : List Int} {V : PX} {a g d s : Nat} {D : Nat → Bool} {set : Int}
theorem DcI.later (h : DcI w0 w C X zs V a g D) (hb : Below w.heap.size w w') : DcI w0 w' C X zs V a g D := ⟨h.1.later hb, (hb.block _ (row_ltJ h.2)).trans h.2⟩
theorem DcI.store (h : DcI w0 w C X zs V a g D) (hd : d < 6) (h0 : w0.heap.size ≤ g) (hc : 2000 ≤ C g) : DcI w0 (w.setCell ⟨g, d, none⟩ (.bool true)) C X zs V a g (setB D d) ∧ Kept (In1 g) w (w.setCell ⟨g, d, none⟩ (.bool true)) := by
  have hk : Kept (In1 g) w (w.setCell ⟨g, d, none⟩ (.bool true)) := (Kept.refl _ w).set1 d _
  refine ⟨⟨h.1.far hk (fun x hx => by rw [show x = g from hx]; exact hc) (fun x hx => by rw [show x = g from hx]; exact h0), ?_⟩, hk⟩
  rw [heap_setCell_same w g d _ _ _ h.2, ← boolC_set D hd]
  congr 2
  simp
def DoneI (_zs : List Int) (set : Int) (V : PX) (D : Nat → Bool) (a d s : Nat) : Prop := ∀ e i, (e < d ∧ i < a) ∨ (e = d ∧ i < s) → D e = false → bit set i = true → finB (stN (V.nd i) e).ph = false
theorem DoneI.skip (h : DoneI zs set V D a d s) (hn : ¬ (bit set s = true ∧ finB (stN (V.nd s) d).ph = true)) : DoneI zs set V D a d (s + 1) := by
  intro e i hx hD hb
  by_cases c : e = d ∧ i = s
  · obtain ⟨rfl, rfl⟩ := c
    cases hf : finB (stN (V.nd i) e).ph with
    | false => rfl
    | true => exact absurd ⟨hb, hf⟩ hn
  · exact h e i (by omega) hD hb
theorem DoneI.mark (h : DoneI zs set V D a d s) : DoneI zs set V (setB D d) a d (s + 1) := by
  intro e i hx hD hb
  by_cases c : e = d
  · unfold setB at hD
    rw [if_pos c] at hD
    cases hD
  · unfold setB at hD
    rw [if_neg c] at hD
    exact h e i (by omega) hD hb
theorem DoneI.next (h : DoneI zs set V D a d s) (hs : s = a) : DoneI zs set V D a (d + 1) 0 := by
  intro e i hx hD hb
  exact h e i (by omega) hD hb
end
theorem wwaits_any (A : Nat → Addr) (v : Value) (zs : List Int) (ad : Option Addr) (cap : Nat) (xs : List Step4) (set : Int) (w : World) (hE : Held9 w A) (hv : IsSl w v zs) (hx : SIn w ad xs) (hm : xs.length ≤ maxLen) :
    Calls Tryz.prog 6 #[v, .slice ad xs.length cap, .int .i64 set] w fun e w' => e = .returned (.bool true) ∧ Below w.heap.size w w' := by
  unfold maxLen at hm
  have HE := hid hE
  have HV := hid hv
  have HX := hid hx
  obtain ⟨av, capv, rfl, hzm, -, hcell⟩ := hv
  unfold maxLen at hzm
  obtain ⟨n, HN⟩ : ∃ n, Hid (zs.length = n) := ⟨_, rfl⟩
  clear hE hx
  by_cases he : errS zs set = 0
  · obtain ⟨hW, s0, s1⟩ := errS_zero he
    obtain ⟨n1, n7, hok, -⟩ := errW_zero hW
    have hp7 := (pow_le7 n7).1
    have s2 : set < 128 := by omega
    obtain ⟨vb, vo, rfl, hcs⟩ := hcell (by omega)
    have HO := hid hok
    have HCs := hid hcs
    have HSz : Hid (((errS zs set : Nat) : Int) = 0) := by rw [he]; rfl
    clear hok hcs he
    cases hen : enoughB zs set with
    | true =>
      rw [HN.out] at n1 n7 hzm
      rw [HN.out] at HV ⊢
      go_enter Tryz.func6, Tryz.ntmps6
      go_wp2_with fail
      refine (born_any A w HE.out).mono ?_
      rintro e w1 ⟨rfl, hb⟩
      have HB1 := hid hb
      have HSe := hid (rSetErr_i _ zs set 0 w1 (HV.out.later hb) HSz.out)
      have HEn := hid (rEnough_is vb vo capv zs set true w1 (by rw [HN.out]; omega) HO.out s0 (by omega) (fun i hi => cell_later hb (HCs.out i hi)) hen)
      rw [HN.out] at HEn
      clear hb
      go_wp2_with fail
      refine HSe.out.mono ?_
      rintro e w2 ⟨rfl, hx⟩
      subst w2
      go_wp2_with fail
      refine HEn.out.mono ?_
      rintro e w2 ⟨rfl, hx⟩
      subst w2
      go_wp2_with fail
      go_ret
      exact ⟨rfl, HB1.out⟩
    | false =>
      have HEnT := hid hen
      by_cases h200 : 200 < xs.length
      · have e2 : (200 : Int) < (xs.length : Int) := by omega
        rw [HN.out] at n1 n7 hzm
        rw [HN.out] at HV ⊢
        go_enter Tryz.func6, Tryz.ntmps6
        go_wp2_with fail
        refine (born_any A w HE.out).mono ?_
        rintro e w1 ⟨rfl, hb⟩
        have HB1 := hid hb
        have HSe := hid (rSetErr_i _ zs set 0 w1 (HV.out.later hb) HSz.out)
        have HEn := hid (rEnough_is vb vo capv zs set false w1 (by rw [HN.out]; omega) HO.out s0 (by omega) (fun i hi => cell_later hb (HCs.out i hi)) hen)
        rw [HN.out] at HEn
        clear hb hen
        go_wp2_with fail
        refine HSe.out.mono ?_
        rintro e w2 ⟨rfl, hx⟩
        subst w2
        go_wp2_with fail
        refine HEn.out.mono ?_
        rintro e w2 ⟨rfl, hx⟩
        subst w2
        go_wp2_with fail
        go_ret
        exact ⟨rfl, HB1.out⟩
      · have e2 : ¬ (200 : Int) < (xs.length : Int) := by omega
        rw [HN.out] at n1 n7 hzm
        rw [HN.out] at HV ⊢
        go_enter Tryz.func6, Tryz.ntmps6
        go_wp2_with fail
        refine (born_any A w HE.out).mono ?_
        rintro e w1 ⟨rfl, hb⟩
        have HB1 := hid hb
        have HSe := hid (rSetErr_i _ zs set 0 w1 (HV.out.later hb) HSz.out)
        have HEn := hid (rEnough_is vb vo capv zs set false w1 (by rw [HN.out]; omega) HO.out s0 (by omega) (fun i hi => cell_later hb (HCs.out i hi)) hen)
        rw [HN.out] at HEn
        have HOwn := hid (ownInts_any _ zs w1 (HV.out.later hb) (by rw [HN.out]; omega))
        clear hb hen
        go_wp2_with fail
        refine HSe.out.mono ?_
        rintro e w2 ⟨rfl, hx⟩
        subst w2
        go_wp2_with fail
        refine HEn.out.mono ?_
        rintro e w2 ⟨rfl, hx⟩
        subst w2
        go_wp2_with fail
        refine HOwn.out.mono ?_
        rintro e w2 ⟨v2, rfl, hv2, hb2⟩
        have HV2 := hid hv2
        have HB2 := hid (below_trans HB1.out hb2)
        have HNew := hid (wnew_ok v2 HV2.out (HE.out.later HB2.out) hW)
        clear hv2 hb2
        go_wp2_with fail
        refine HNew.out.mono ?_
        rintro e w3 ⟨C, X, rfl, h3⟩
        have HI0 : Hid (AtJ w2 w3 zs X.xb 0) := ⟨newX, C, X, h3, rfl, pot_new zs, Nat.le_refl _⟩
        clear h3
        go_wp2_with fail
        go_loopw [10] (fun v wr => ∃ k : Nat, k ≤ xs.length ∧ v = .int .i64 (k : Int) ∧ Hid (AtJ w2 wr zs X.xb k)) (fun v _ => xs.length - (intOf v).toNat)
        case atStart => exact ⟨0, Nat.zero_le _, rfl, HI0.out⟩
        case round =>
          obtain ⟨k, hk, rfl, HI⟩ := hrel
          by_cases hlt : k < xs.length
          · obtain ⟨V, C1, X1, HT⟩ : ∃ V C1 X1, Hid (WD w2 wr C1 X1 zs V (42 * k) ∧ X1.xb = X.xb ∧ pot zs V ≤ 210 * k ∧ V.fly.length ≤ 84 * k) := HI.out
            obtain ⟨hn9, b, o, rfl, y0, y1, y2, y3⟩ := ((HX.out.later HB2.out).later HT.out.1.bel) k hlt
            obtain ⟨⟨xk, xS, xD, xN⟩, HS⟩ : ∃ e, Hid (xs[k]'hlt = e) := ⟨_, rfl⟩
            rw [HS.out] at y0 y1 y2 y3 hn9
            have HAct := hid (act_any xk xS xD xN HT.out.1 (HE.out.later HB2.out) (by omega) hn9)
            rw [HT.out.2.1] at HAct
            go_wp2_with fail
            refine HAct.out.mono ?_
            rintro e w5 ⟨rfl, ho⟩
            have HI2 := hid (atj_step HT.out ho)
            clear ho y0 y1 y2 y3 HAct
            go_wp2_with fail
            go_roundw
            case rel => exact ⟨k + 1, by omega, by go_num, HI2.out⟩
            case measure => simp [intOf]; omega
          · have hlt' : ¬ ((k : Int) < (xs.length : Int)) := by omega
            obtain ⟨Va, C1, X1, HT⟩ : ∃ V C1 X1, Hid (WD w2 wr C1 X1 zs V (42 * k) ∧ X1.xb = X.xb ∧ pot zs V ≤ 210 * k ∧ V.fly.length ≤ 84 * k) := HI.out
            have HD0 : Hid (DrI w2 wr zs X.xb 0) := ⟨Va, C1, X1, HT.out.1.mono (by omega), HT.out.2.1, by have := HT.out.2.2.1; omega, by have := HT.out.2.2.2; omega⟩
            go_wp2_with fail
            go_loopw [11] (fun v wr => ∃ i : Nat, i ≤ 16800 ∧ v = .int .i64 (i : Int) ∧ Hid (DrI w2 wr zs X.xb i)) (fun v _ => 16801 - (intOf v).toNat)
            case atStart => exact ⟨0, Nat.zero_le _, rfl, HD0.out⟩
            case round =>
              obtain ⟨i, hi, rfl, HD⟩ := hrel
              have hi2 : (i : Int) < 20000 := by omega
              obtain ⟨V0, C3, X3, HZ⟩ : ∃ V C X', Hid (WD w2 wr C X' zs V 8400 ∧ X'.xb = X.xb ∧ pot zs V ≤ 42000 ∧ V.fly.length + i ≤ 16800) := HD.out
              cases hfl : V0.fly with
              | cons f0 rest =>
                have h0l : 0 < V0.fly.length := by rw [hfl]; simp
                have HDr := hid (drop_ok 0 HZ.out.1 h0l (by decide))
                rw [HZ.out.2.1, show ((0 : Nat) : Int) = 0 from rfl] at HDr
                have HNx : Hid (∀ w', WOut w2 wr w' C3 X3 zs (takeX V0 0) 8400 → DrI w2 w' zs X.xb (i + 1)) := by
                  intro w' ho
                  obtain ⟨C', X', g1, g2, -, -⟩ := ho
                  have hl : (takeX V0 0).fly.length + 1 = V0.fly.length := by show (V0.fly.eraseIdx 0).length + 1 = _; rw [List.length_eraseIdx_of_lt h0l]; omega
                  refine ⟨_, C', X', g1, (key_xb g2).trans HZ.out.2.1, Nat.le_trans (pot_take 0) HZ.out.2.2.1, ?_⟩
                  have := HZ.out.2.2.2
                  omega
                have hi3 : i + 1 ≤ 16800 := by have := HZ.out.2.2.2; omega
                clear h0l hfl
                go_wp2_with fail
                refine HDr.out.mono ?_
                rintro e w5 ⟨rfl, ho⟩
                have HN5 := hid (HNx.out w5 ho)
                clear ho
                go_wp2_with fail
                go_roundw
                case rel => exact ⟨i + 1, hi3, by go_num, HN5.out⟩
                case measure => simp [intOf]; omega
              | nil =>
                have HFe := hid hfl
                have HDr := hid (drop_no (0 : Int) HZ.out.1 (HE.out.later HB2.out) (by rw [hfl]; simp))
                rw [HZ.out.2.1] at HDr
                have HFl := hid (flying_any HZ.out.1 (by decide))
                rw [hfl, HZ.out.2.1] at HFl
                clear hfl
                unfold ev at HDr
                go_wp2_with fail
                refine HDr.out.mono ?_
                rintro e w5 ⟨rfl, hx⟩
                subst w5
                go_wp2_with fail
                refine HFl.out.mono ?_
                rintro e w5 ⟨vf, rfl, hof, hb5⟩
                obtain ⟨adf, capf, hvf⟩ : ∃ ad cp, vf = Value.slice ad 0 cp := by
                  rcases hof.2 with ⟨e, h0⟩ | ⟨g', cap', cur', e, -⟩
                  · exact ⟨none, 0, e⟩
                  · exact ⟨_, _, e⟩
                subst hvf
                have HL0 : Hid (LkI w2 w5 zs set X.xb V0 0 0) := ⟨V0, C3, X3, HZ.out.1.later hb5, HZ.out.2.1, Bare.start V0⟩
                clear hof hb5
                go_wp2_with fail
                go_loopw [12] (fun v wr => ∃ a : Nat, a ≤ n ∧ v = .int .i64 (a : Int) ∧ Hid (LkI w2 wr zs set X.xb V0 a 0)) (fun v _ => n - (intOf v).toNat)
                case atStart => exact ⟨0, Nat.zero_le _, rfl, HL0.out⟩
                case round =>
                  obtain ⟨a, han, rfl, HLa⟩ := hrel
                  by_cases hal : a < n
                  · have hal' : (a : Int) < (n : Int) := by omega
                    go_wp2_with fail
                    go_loopw [13] (fun v wr => ∃ b : Nat, b ≤ n ∧ v = .int .i64 (b : Int) ∧ Hid (LkI w2 wr zs set X.xb V0 a b)) (fun v _ => n - (intOf v).toNat)
                    case atStart => exact ⟨0, Nat.zero_le _, rfl, HLa.out⟩
                    case round =>
                      obtain ⟨b, hbn, rfl, HLb⟩ := hrel
                      obtain ⟨V, C2, X2, HW⟩ : ∃ V C X', Hid (WD w2 wr C X' zs V (8400 + 9 * a + b) ∧ X'.xb = X.xb ∧ Bare zs set V0 V a b) := HLb.out
                      by_cases hbl : b < n
                      · have hbl' : (b : Int) < (n : Int) := by omega
                        have HLk : ∀ x : Bool, (bit set a && bit set b) = x → Hid (Calls Tryz.prog 33 #[.pointer (some ⟨X.xb, 0, none⟩), .int .i64 (a : Int), .int .i64 (b : Int), .bool x] wr fun e w' => e = .returned .nilIface ∧ LkI w2 w' zs set X.xb V0 a (b + 1)) := fun x hxb => by
                          have h1 := link_ok a b x HW.out.1 (by rw [HN.out]; omega) (by rw [HN.out]; omega) (by omega)
                          rw [HW.out.2.1] at h1
                          refine h1.mono ?_
                          rintro e w' ⟨rfl, C', X', g1, g2, -, -⟩
                          refine ⟨rfl, linkX V a b x, C', X', g1.mono (by omega), (key_xb g2).trans HW.out.2.1, ?_⟩
                          rw [← hxb]
                          exact HW.out.2.2.link
                        cases hba : bit set a with
                        | false =>
                          have HHa := hid (rHas_is set a false wr (by omega) s0 (by omega) hba)
                          have HL := HLk false (by rw [hba]; rfl)
                          clear HLk
                          go_wp2_with fail
                          refine HHa.out.mono ?_
                          rintro e w6 ⟨rfl, hx⟩
                          subst w6
                          go_wp2_with fail
                          refine HL.out.mono ?_
                          rintro e w6 ⟨rfl, ho⟩
                          have HLn := hid ho
                          clear ho
                          go_wp2_with fail
                          go_roundw
                          case rel => exact ⟨b + 1, by omega, by go_num, HLn.out⟩
                          case measure => simp [intOf]; omega
                        | true =>
                          have HHa := hid (rHas_is set a true wr (by omega) s0 (by omega) hba)
                          obtain ⟨x, HXb⟩ : ∃ x, Hid (bit set b = x) := ⟨_, rfl⟩
                          have HHb := hid (rHas_is set b x wr (by omega) s0 (by omega) HXb.out)
                          have HL := HLk x (by rw [hba, HXb.out]; rfl)
                          clear HLk
                          go_wp2_with fail
                          refine HHa.out.mono ?_
                          rintro e w6 ⟨rfl, hx⟩
                          subst w6
                          go_wp2_with fail
                          refine HHb.out.mono ?_
                          rintro e w6 ⟨rfl, hx⟩
                          subst w6
                          go_wp2_with fail
                          refine HL.out.mono ?_
                          rintro e w6 ⟨rfl, ho⟩
                          have HLn := hid ho
                          clear ho
                          go_wp2_with fail
                          go_roundw
                          case rel => exact ⟨b + 1, by omega, by go_num, HLn.out⟩
                          case measure => simp [intOf]; omega
                      · obtain rfl : b = n := by omega
                        have hbl' : ¬ (b : Int) < (b : Int) := by omega
                        have HBn : Hid (Bare zs set V0 V a zs.length) := by rw [HN.out]; exact HW.out.2.2
                        cases hba : bit set a with
                        | false =>
                          have HHa := hid (rHas_is set a false wr (by omega) s0 (by omega) hba)
                          have HLn : Hid (LkI w2 wr zs set X.xb V0 (a + 1) 0) := ⟨V, C2, X2, HW.out.1.mono (by omega), HW.out.2.1, HBn.out.row hba⟩
                          go_wp2_with fail
                          refine HHa.out.mono ?_
                          rintro e w6 ⟨rfl, hx⟩
                          subst w6
                          go_wp2_with fail
                          go_roundw
                          case rel => exact ⟨a + 1, by omega, by go_num, HLn.out⟩
                          case measure => simp [intOf]; omega
                        | true =>
                          have HHa := hid (rHas_is set a true wr (by omega) s0 (by omega) hba)
                          have HDn := hid (down_bare (xb := X.xb) HW.out.1 (HE.out.later HB2.out) (by rw [HN.out]; omega) HW.out.2.1 HBn.out)
                          go_wp2_with fail
                          refine HHa.out.mono ?_
                          rintro e w6 ⟨rfl, hx⟩
                          subst w6
                          go_wp2_with fail
                          refine HDn.out.mono ?_
                          rintro e w6 ⟨⟨u, rfl⟩, V3, C3, X3, g1, g2, g3, g4, g5⟩
                          have HUp : Hid (Calls Tryz.prog 35 #[.pointer (some ⟨X.xb, 0, none⟩), .int .i64 (a : Int)] w6 fun e w' => e = .returned .nilIface ∧ LkI w2 w' zs set X.xb V0 (a + 1) 0) := by
                            have h1 := wake_any (a : Int) 0 g1 (HE.out.later HB2.out) (by
                              unfold cWake
                              rw [if_pos (by rw [HN.out]; omega), Int.toNat_natCast, g4]
                              rfl)
                            rw [g2] at h1
                            refine h1.mono ?_
                            rintro e w' ⟨rfl, C', X', q1, q2, -, -⟩
                            rw [if_pos rfl, Int.toNat_natCast] at q1
                            exact ⟨rfl, _, C', X', q1.mono (by omega), (key_xb q2).trans g2, g3.wake g5⟩
                          clear g1 g2 g3 g4 g5
                          go_wp2_with fail
                          refine HUp.out.mono ?_
                          rintro e w7 ⟨rfl, ho⟩
                          have HLn := hid ho
                          clear ho
                          go_wp2_with fail
                          go_roundw
                          case rel => exact ⟨a + 1, by omega, by go_num, HLn.out⟩
                          case measure => simp [intOf]; omega
                  · obtain rfl : a = n := by omega
                    have hal' : ¬ (a : Int) < (a : Int) := by omega
                    obtain ⟨w7, rfl⟩ : ∃ w7, w7 = wr := ⟨wr, rfl⟩
                    obtain ⟨V, C2, X2, HW⟩ : ∃ V C X', Hid (WD w2 w7 C X' zs V (8400 + 9 * a + 0) ∧ X'.xb = X.xb ∧ Bare zs set V0 V a 0) := HLa.out
                    have HBare : Hid (Bare zs set V0 V zs.length 0) := by rw [HN.out]; exact HW.out.2.2
                    have hmk := mkBools w7
                    obtain ⟨W8, HW8⟩ : ∃ W8, Hid (w7.alloc (.cells (boolC (fun _ => false)).toArray 4) = W8) := ⟨_, rfl⟩
                    rw [HW8.out] at hmk
                    have HC7 : Hid (2000 ≤ C2 w7.heap.size) := new_far2 HW.out.1
                    have HD8 : Hid (DcI w2 W8 C2 X2 zs V a w7.heap.size (fun _ => false)) := by
                      have hb8 : Below w7.heap.size w7 W8 := by rw [← HW8.out]; exact (Below.refl _ _).alloc (Nat.le_refl _) _
                      exact ⟨HW.out.1.later hb8, by rw [← HW8.out]; exact heap_alloc_new w7 _⟩
                    have h7s := HW.out.1.bel.size
                    go_wp2_with fail
                    clear hmk
                    go_loopw [15] (fun v wr => ∃ (d : Nat) (D : Nat → Bool), d ≤ 6 ∧ v = .int .i64 (d : Int) ∧ Hid (DcI w2 wr C2 X2 zs V a w7.heap.size D ∧ DoneI zs set V D a d 0)) (fun v _ => 6 - (intOf v).toNat)
                    case atStart => exact ⟨0, fun _ => false, Nat.zero_le _, rfl, HD8.out, fun e i h _ _ => by omega⟩
                    case round =>
                      obtain ⟨d, D, hd6, rfl, HI2⟩ := hrel
                      by_cases hdl : d < 6
                      · have hd' : (d : Int) < 6 := by omega
                        have HStt := hid (states_any d a HI2.out.1.1 (HE.out.later HB2.out) hdl HN.out)
                        rw [HW.out.2.1] at HStt
                        go_wp2_with fail
                        refine HStt.out.mono ?_
                        rintro e w8 ⟨adS, capS, rfl, hsl, hb8, hlow8⟩
                        have HI8 := hid (HI2.out.1.later hb8)
                        have HSL := hid hsl
                        have HNe : Hid (∀ p, adS = some p → ¬ In1 w7.heap.size p.block) := fun p hp e => by have h1 := hlow8 p hp; have h2 := row_ltJ HI2.out.1.2; have h3 : p.block = w7.heap.size := e; omega
                        have HDn := hid HI2.out.2
                        clear hsl hb8 HStt HI2 hlow8
                        go_wp2_with fail
                        go_loopw [18] (fun t wr => ∃ (s : Nat) (D : Nat → Bool), s ≤ a ∧ t = .int .i64 (s : Int) ∧ Hid (DcI w2 wr C2 X2 zs V a w7.heap.size D ∧ SL wr adS (stsL V d a) ∧ DoneI zs set V D a d s)) (fun t _ => a - (intOf t).toNat)
                        case atStart => exact ⟨0, D, Nat.zero_le _, rfl, HI8.out, HSL.out, HDn.out⟩
                        case round =>
                          obtain ⟨s, D2, hsa, rfl, HIs⟩ := hrel
                          by_cases hsl : s < a
                          · have hsl' : (s : Int) < (a : Int) := by omega
                            cases hbs : bit set s with
                            | false =>
                              have HHs := hid (rHas_is set s false wr (by omega) s0 (by omega) hbs)
                              have HNx := hid (HIs.out.2.2.skip (fun h => by rw [hbs] at h; cases h.1))
                              go_wp2_with fail
                              refine HHs.out.mono ?_
                              rintro e w9 ⟨rfl, hx⟩
                              subst w9
                              go_wp2_with fail
                              go_roundw
                              case rel => exact ⟨s + 1, D2, by omega, by go_num, HIs.out.1, HIs.out.2.1, HNx.out⟩
                              case measure => simp [intOf]; omega
                            | true =>
                              have HHs := hid (rHas_is set s true wr (by omega) s0 (by omega) hbs)
                              obtain ⟨bS, oS, hadS, z0, -, -⟩ := HIs.out.2.1 s (by rw [stsL_length]; exact hsl)
                              rw [stsL_get] at z0
                              subst hadS
                              obtain ⟨ph, HPh⟩ : ∃ ph, Hid ((stN (V.nd s) d).ph = ph) := ⟨_, rfl⟩
                              rw [HPh.out] at z0
                              cases hfb : finB ph with
                              | false =>
                                have HFin := hid (rfinal_is ph false wr hfb)
                                have HNx := hid (HIs.out.2.2.skip (fun h => by rw [HPh.out, hfb] at h; cases h.2))
                                go_wp2_with fail
                                refine HHs.out.mono ?_
                                rintro e w9 ⟨rfl, hx⟩
                                subst w9
                                go_wp2_with fail
                                refine HFin.out.mono ?_
                                rintro e w9 ⟨rfl, hx⟩
                                subst w9
                                go_wp2_with fail
                                go_roundw
                                case rel => exact ⟨s + 1, D2, by omega, by go_num, HIs.out.1, HIs.out.2.1, HNx.out⟩
                                case measure => simp [intOf]; omega
                              | true =>
                                have HFin := hid (rfinal_is ph true wr hfb)
                                have HNx := hid (HIs.out.2.2.mark)
                                have hd7 : d < 6 := hdl
                                have f0 : (wr.cell? ⟨w7.heap.size, d, none⟩) = some (.bool (D2 d)) := by rw [cell_of_row _ _ _ _ _ _ HIs.out.1.2, List.getElem?_toArray]; exact boolC_get D2 hdl
                                have z1 := frozen_of_row _ _ d _ _ HIs.out.1.2
                                have HSt := hid (HIs.out.1.store hdl h7s HC7.out)
                                have HSLn : Hid (SL (wr.setCell ⟨w7.heap.size, d, none⟩ (.bool true)) (some ⟨bS, oS, none⟩) (stsL V d a)) := HIs.out.2.1.kept HSt.out.2 HNe.out
                                go_wp2_with fail
                                refine HHs.out.mono ?_
                                rintro e w9 ⟨rfl, hx⟩
                                subst w9
                                go_wp2_with fail
                                refine HFin.out.mono ?_
                                rintro e w9 ⟨rfl, hx⟩
                                subst w9
                                go_wp2_with fail
                                go_roundw
                                case rel => exact ⟨s + 1, setB D2 d, by omega, by go_num, HSt.out.1, HSLn.out, HNx.out⟩
                                case measure => simp [intOf]; omega
                          · have hsl' : ¬ (s : Int) < (a : Int) := by omega
                            have HNx := hid (HIs.out.2.2.next (by omega))
                            go_wp2_with fail
                            go_roundw
                            case rel => exact ⟨d + 1, D2, by omega, by go_num, HIs.out.1, HNx.out⟩
                            case measure => simp [intOf]; omega
                      · have hd' : ¬ (d : Int) < 6 := by omega
                        obtain rfl : d = 6 := by omega
                        have hpt : pot zs V ≤ 42000 := by have h1 := HW.out.2.2.pot; have h2 := HZ.out.2.2.1; omega
                        have HRo := hid (rounds_any 3 HI2.out.1.1 (HE.out.later HB2.out) s0 (by omega) (by decide) (by omega))
                        rw [HW.out.2.1, show ((3 : Nat) : Int) = 3 from rfl] at HRo
                        have HWait : Hid (∀ d, d < 6 → D d = false → ∀ i, i < a → bit set i = true → finB (stN ((roundsX zs set 3 V).nd i) d).ph = false) := by
                          intro d hd hD i hi2 hb
                          obtain ⟨q1, q2⟩ := WaI.start (d := d) HBare.out.end.1 (fun i hi hb => HBare.out.end.2 i d hi hb) (HBare.out.fly.trans HFe.out) (fun i hi hb => HI2.out.2 d i (.inl ⟨hd, by rw [HN.out] at hi; exact hi⟩) hD hb)
                          exact (waits_all HEnT.out 3 V _ HW.out.1.inv q1 q2 (by omega)).st i (by rw [HN.out]; exact hi2) hb
                        go_wp2_with fail
                        refine HRo.out.mono ?_
                        rintro e w10 ⟨cnt, rfl, -, C4, X4, g1, g2, g3, g4⟩
                        have HRow : Hid (w10.heap[w7.heap.size]? = some (.cells (boolC D).toArray 4 (0, 0))) := g3.row HI2.out.1.2 (fun e => by have h1 := HC7.out; have h2 : C2 w7.heap.size < 2000 := e; omega)
                        have HG := hid (And.intro g1 ((key_xb g2).trans HW.out.2.1))
                        clear g1 g2 g3 g4
                        go_wp2_with fail
                        go_loopw [19] (fun v wr => ∃ d : Nat, d ≤ 6 ∧ v = .int .i64 (d : Int) ∧ Hid (Below w10.heap.size w10 wr)) (fun v _ => 6 - (intOf v).toNat)
                        case atStart => exact ⟨0, Nat.zero_le _, rfl, Below.refl _ _⟩
                        case round =>
                          obtain ⟨d, hd6, rfl, HBi⟩ := hrel
                          have HGi := hid (HG.out.1.later HBi.out)
                          by_cases hdl : d < 6
                          · have hd' : (d : Int) < 6 := by omega
                            have HStt := hid (states_any d a HGi.out (HE.out.later HB2.out) hdl HN.out)
                            rw [HG.out.2] at HStt
                            go_wp2_with fail
                            refine HStt.out.mono ?_
                            rintro ee w12 ⟨adS, capS, rfl, hsl, hb12, -⟩
                            have HSL := hid hsl
                            have HB12 := hid (below_trans HBi.out hb12)
                            have HR12 := hid ((HB12.out.block _ (row_ltJ HRow.out)).trans HRow.out)
                            clear hsl hb12 HStt
                            go_wp2_with fail
                            go_loopw [22] (fun t wr => ∃ s : Nat, s ≤ a ∧ t = .int .i64 (s : Int) ∧ wr = w12) (fun t _ => a - (intOf t).toNat)
                            case atStart => exact ⟨0, Nat.zero_le _, rfl, rfl⟩
                            case round =>
                              obtain ⟨s, hsa, rfl, hwr⟩ := hrel
                              subst hwr
                              by_cases hsl : s < a
                              · have hsl' : (s : Int) < (a : Int) := by omega
                                cases hbs : bit set s with
                                | false =>
                                  have HHs := hid (rHas_is set s false wr (by omega) s0 (by omega) hbs)
                                  go_wp2_with fail
                                  refine HHs.out.mono ?_
                                  rintro ee w14 ⟨rfl, hx⟩
                                  subst w14
                                  go_wp2_with fail
                                  go_roundw
                                  case rel => exact ⟨s + 1, by omega, by go_num, by trivial⟩
                                  case measure => simp [intOf]; omega
                                | true =>
                                  have HHs := hid (rHas_is set s true wr (by omega) s0 (by omega) hbs)
                                  obtain ⟨bS, oS, hadS, z0, -, -⟩ := HSL.out s (by rw [stsL_length]; exact hsl)
                                  rw [stsL_get] at z0
                                  subst hadS
                                  obtain ⟨ph, HPh⟩ : ∃ ph, Hid ((stN ((roundsX zs set 3 V).nd s) d).ph = ph) := ⟨_, rfl⟩
                                  rw [HPh.out] at z0
                                  cases hfb : finB ph with
                                  | false =>
                                    have HFin := hid (rfinal_is ph false wr hfb)
                                    go_wp2_with fail
                                    refine HHs.out.mono ?_
                                    rintro ee w14 ⟨rfl, hx⟩
                                    subst w14
                                    go_wp2_with fail
                                    refine HFin.out.mono ?_
                                    rintro ee w14 ⟨rfl, hx⟩
                                    subst w14
                                    go_wp2_with fail
                                    go_roundw
                                    case rel => exact ⟨s + 1, by omega, by go_num, by trivial⟩
                                    case measure => simp [intOf]; omega
                                  | true =>
                                    have HFin := hid (rfinal_is ph true wr hfb)
                                    have hDt : D d = true := by
                                      cases hD : D d with
                                      | true => rfl
                                      | false =>
                                        have := HWait.out d hdl hD s hsl hbs
                                        rw [HPh.out, hfb] at this
                                        cases this
                                    have f0 : (wr.cell? ⟨w7.heap.size, d, none⟩) = some (.bool true) := by rw [cell_of_row _ _ _ _ _ _ HR12.out, List.getElem?_toArray, boolC_get D hdl, hDt]
                                    go_wp2_with fail
                                    refine HHs.out.mono ?_
                                    rintro ee w14 ⟨rfl, hx⟩
                                    subst w14
                                    go_wp2_with fail
                                    refine HFin.out.mono ?_
                                    rintro ee w14 ⟨rfl, hx⟩
                                    subst w14
                                    go_wp2_with fail
                                    go_roundw
                                    case rel => exact ⟨s + 1, by omega, by go_num, by trivial⟩
                                    case measure => simp [intOf]; omega
                              · have hsl' : ¬ (s : Int) < (a : Int) := by omega
                                go_wp2_with fail
                                go_roundw
                                case rel => exact ⟨d + 1, by omega, by go_num, HB12.out⟩
                                case measure => simp [intOf]; omega
                          · have hd' : ¬ (d : Int) < 6 := by omega
                            have HBz := hid (below_trans HB2.out HGi.out.bel)
                            go_wp2_with fail
                            go_ret
                            exact ⟨rfl, HBz.out⟩
  · have hp : 0 < (errS zs set : Int) := by omega
    obtain ⟨c, HC⟩ : ∃ c : Int, Hid ((errS zs set : Int) = c) := ⟨_, rfl⟩
    rw [HC.out] at hp
    rw [HN.out] at HV hzm ⊢
    go_enter Tryz.func6, Tryz.ntmps6
    go_wp2_with fail
    refine (born_any A w HE.out).mono ?_
    rintro e w1 ⟨rfl, hb⟩
    have HB1 := hid hb
    have HSe := hid (rSetErr_i _ zs set c w1 (HV.out.later hb) HC.out)
    clear hb
    go_wp2_with fail
    refine HSe.out.mono ?_
    rintro e w2 ⟨rfl, hx⟩
    subst w2
    go_wp2_with fail
    go_ret
    exact ⟨rfl, HB1.out⟩
end Go.Proofs.YtadhpkopkkjmfaaGreatDoor
