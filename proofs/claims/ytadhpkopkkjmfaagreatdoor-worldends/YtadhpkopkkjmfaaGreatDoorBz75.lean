/-
  On the way to WEndsProof, WWaitsProof: GE.
-/
import Derived.Test.YtadhpkopkkjmfaaGreatDoorBz70
import Derived.Test.YtadhpkopkkjmfaaGreatDoorBz65
import Derived.Test.YtadhpkopkkjmfaaGreatDoorBz15
set_option maxHeartbeats 8000000
set_option maxRecDepth 100000
namespace Go.Proofs.YtadhpkopkkjmfaaGreatDoor
open Go.RowKit
theorem rSetErr_i (v : Value) (zs : List Int) (s n : Int) (w : World) (hv : IsSl w v zs) (hn : (errS zs s : Int) = n) : Calls Tryz.prog 31 #[v, .int .i64 s] w fun e w' => e = .returned (.int .i64 n) ∧ w' = w := by
  subst hn; exact rSetErr_any v zs s w hv
theorem FB.new (zs : List Int) : FB zs newX 0 :=
  ⟨fun i d _ hd => by rw [stN_new i d hd]; exact Nat.le_refl _, fun i d x _ _ hx => (by cases hx), fun f hf => (by cases hf)⟩
theorem pot_new (zs : List Int) : pot zs newX ≤ 0 := by
  unfold pot
  have h : ∀ n k, sumN (fun i => potN n (newX.nd i)) k = 0 := by
    intro n k
    induction k with
    | zero => rfl
    | succ k ih => unfold sumN; rw [ih]; rfl
  rw [h]
  exact Nat.le_refl _
def AtI (w0 wr : World) (zs : List Int) (xb : Nat) (k : Nat) : Prop := ∃ V C X, WD w0 wr C X zs V (42 * k) ∧ X.xb = xb ∧ AX zs V ∧ FB zs V (42 * k) ∧ pot zs V ≤ 210 * k
theorem at_step {w0 wr w' : World} {zs : List Int} {xb k : Nat} {V : PX} {C : Nat → Nat} {X : XB} (h : WD w0 wr C X zs V (42 * k) ∧ X.xb = xb ∧ AX zs V ∧ FB zs V (42 * k) ∧ pot zs V ≤ 210 * k) (hk : k < 1000) (ho : StpOut w0 wr w' C X zs V (42 * k)) : AtI w0 w' zs xb (k + 1) := by
  obtain ⟨h1, h2, h3, h4, h5⟩ := h
  obtain ⟨V', hs, C', X', g1, g2, -, -⟩ := ho
  refine ⟨V', C', X', g1.mono (by omega), (key_xb g2).trans h2, (hs.ax h3 h1.inv (by omega)).1, (hs.fb h4 h1.inv (by omega)).mono (by omega), ?_⟩
  have := hs.pot h1.inv
  omega
def LkI (w0 wr : World) (zs : List Int) (set : Int) (xb : Nat) (V0 : PX) (a b : Nat) : Prop := ∃ V C X, WD w0 wr C X zs V (8400 + 9 * a + b) ∧ X.xb = xb ∧ Bare zs set V0 V a b
theorem down_bare {w0 w : World} {C : Nat → Nat} {X : XB} {zs : List Int} {V V0 : PX} {m a xb : Nat} {set : Int} {A : Nat → Addr} (h : WD w0 w C X zs V m) (hE : Held9 w0 A) (ha : a < zs.length) (hx : X.xb = xb) (hB : Bare zs set V0 V a zs.length) :
    Calls Tryz.prog 34 #[.pointer (some ⟨xb, 0, none⟩), .int .i64 (a : Int)] w fun e w' => (∃ u, e = .returned u) ∧ ∃ V' C' X', WD w0 w' C' X' zs V' (m + 1) ∧ X'.xb = xb ∧ Bare zs set V0 V' a zs.length ∧ upN (V'.nd a) = false ∧ ∀ d, (V'.nd a).ld d = none := by
  cases hu : upN (V.nd a) with
  | true =>
    have h1 := down_any (a : Int) 0 h hE (by unfold cUp; rw [if_pos (by omega), Int.toNat_natCast, hu]; rfl)
    rw [hx] at h1
    refine h1.mono ?_
    rintro e w' ⟨rfl, C', X', g1, g2, -, -⟩
    rw [if_pos rfl, Int.toNat_natCast] at g1
    exact ⟨⟨_, rfl⟩, _, C', X', g1, (key_xb g2).trans hx, hB.down.1, by unfold downX; rw [nd_at]; rfl, hB.down.2⟩
  | false =>
    have h1 := down_any (a : Int) 6 h hE (by unfold cUp; rw [if_pos (by omega), Int.toNat_natCast, hu]; rfl)
    rw [hx] at h1
    refine h1.mono ?_
    rintro e w' ⟨rfl, C', X', g1, g2, -, -⟩
    rw [if_neg (by decide)] at g1
    refine ⟨⟨_, rfl⟩, _, C', X', g1, (key_xb g2).trans hx, hB, hu, fun d => ?_⟩
    cases hl : (V.nd a).ld d with
    | none => rfl
    | some x =>
      have h2 := ((h.inv.nd a ha).ld d x hl).1
      unfold upN at hu
      simp at hu
      exact absurd hu h2
def KnI (w7 wr : World) (n : Nat) (set : Int) (V : PX) (v : Value) (L : List Int) : Prop := wr.ownsRow w7.heap.size 3 1 v L.length (L.map (Value.int .i64)) ∧ Below w7.heap.size w7 wr ∧ ∀ x, x ∈ L → ∃ e : Nat, e < 6 ∧ x = (e : Int) ∧ ∃ i, i < n ∧ bit set i = true ∧ stN (V.nd i) e ≠ St.zero
theorem KnI.later {w7 wr w' : World} {n : Nat} {set : Int} {V : PX} {v : Value} {L : List Int} (h : KnI w7 wr n set V v L) (hb : Below wr.heap.size wr w') : KnI w7 w' n set V v L :=
  ⟨own_later h.1 hb (Nat.le_refl _), below_trans h.2.1 hb, h.2.2⟩
theorem st_none (w : World) : (binOp .neq 43 (.agg #[.int .i64 0, .int .i64 0, .int .i64 0]) (.agg #[.int .i64 0, .int .i64 0, .int .i64 0])).run Tryz.prog w = .ok (.bool false) w := by
  go_simp
theorem st_isnt (h1 h2 h3 : Nat) (h : ¬ (h1 = 0 ∧ h2 = 0 ∧ h3 = 0)) (w : World) : (binOp .neq 43 (.agg #[.int .i64 (h1 : Int), .int .i64 (h2 : Int), .int .i64 (h3 : Int)]) (.agg #[.int .i64 0, .int .i64 0, .int .i64 0])).run Tryz.prog w = .ok (.bool true) w := by
  by_cases a1 : h1 = 0
  · by_cases a2 : h2 = 0
    · have a3 : ¬ ((h3 : Int) = 0) := by omega
      subst a1 a2
      go_simp
      omega
    · have a3 : ¬ ((h2 : Int) = 0) := by omega
      go_simp
  · have a3 : ¬ ((h1 : Int) = 0) := by omega
    go_simp
theorem wends_any (A : Nat → Addr) (v : Value) (zs : List Int) (ad : Option Addr) (cap : Nat) (xs : List Step4) (set : Int) (w : World) (hE : Held9 w A) (hv : IsSl w v zs) (hx : SIn w ad xs) (hm : xs.length ≤ maxLen) :
    Calls Tryz.prog 5 #[v, .slice ad xs.length cap, .int .i64 set] w fun e w' => e = .returned (.bool true) ∧ Below w.heap.size w w' := by
  unfold maxLen at hm
  have HE := hid hE
  have HV := hid hv
  have HX := hid hx
  obtain ⟨av, capv, rfl, hzm, -, hcell⟩ := hv
  unfold maxLen at hzm
  obtain ⟨n, HN⟩ : ∃ n, Hid (zs.length = n) := ⟨_, rfl⟩
  clear hE hx
  by_cases he : errS zs set = 0
  · obtain ⟨hW, s0, s1⟩ := errS_zero he
    obtain ⟨n1, n7, hok, -⟩ := errW_zero hW
    have hp7 := (pow_le7 n7).1
    have s2 : set < 128 := by omega
    obtain ⟨vb, vo, rfl, hcs⟩ := hcell (by omega)
    have HO := hid hok
    have HCs := hid hcs
    have HSz : Hid (((errS zs set : Nat) : Int) = 0) := by rw [he]; rfl
    clear hok hcs he
    cases hen : enoughB zs set with
    | false =>
      rw [HN.out] at n1 n7 hzm
      have HV2 := HV
      rw [HN.out] at HV ⊢
      go_enter Tryz.func5, Tryz.ntmps5
      go_wp2_with fail
      refine (born_any A w HE.out).mono ?_
      rintro e w1 ⟨rfl, hb⟩
      have HB1 := hid hb
      have HSe := hid (rSetErr_i _ zs set 0 w1 (HV.out.later hb) HSz.out)
      have HEn := hid (rEnough_is vb vo capv zs set false w1 (by rw [HN.out]; omega) HO.out s0 (by omega) (fun i hi => cell_later hb (HCs.out i hi)) hen)
      rw [HN.out] at HEn
      clear hb
      go_wp2_with fail
      refine HSe.out.mono ?_
      rintro e w2 ⟨rfl, hx⟩
      subst w2
      go_wp2_with fail
      refine HEn.out.mono ?_
      rintro e w2 ⟨rfl, hx⟩
      subst w2
      go_wp2_with fail
      go_ret
      exact ⟨rfl, HB1.out⟩
    | true =>
      have HEnT := hid hen
      by_cases h200 : 200 < xs.length
      · have e2 : (200 : Int) < (xs.length : Int) := by omega
        rw [HN.out] at n1 n7 hzm
        rw [HN.out] at HV ⊢
        go_enter Tryz.func5, Tryz.ntmps5
        go_wp2_with fail
        refine (born_any A w HE.out).mono ?_
        rintro e w1 ⟨rfl, hb⟩
        have HB1 := hid hb
        have HSe := hid (rSetErr_i _ zs set 0 w1 (HV.out.later hb) HSz.out)
        have HEn := hid (rEnough_is vb vo capv zs set true w1 (by rw [HN.out]; omega) HO.out s0 (by omega) (fun i hi => cell_later hb (HCs.out i hi)) hen)
        rw [HN.out] at HEn
        clear hb hen
        go_wp2_with fail
        refine HSe.out.mono ?_
        rintro e w2 ⟨rfl, hx⟩
        subst w2
        go_wp2_with fail
        refine HEn.out.mono ?_
        rintro e w2 ⟨rfl, hx⟩
        subst w2
        go_wp2_with fail
        go_ret
        exact ⟨rfl, HB1.out⟩
      · have e2 : ¬ (200 : Int) < (xs.length : Int) := by omega
        rw [HN.out] at n1 n7 hzm
        rw [HN.out] at HV ⊢
        go_enter Tryz.func5, Tryz.ntmps5
        go_wp2_with fail
        refine (born_any A w HE.out).mono ?_
        rintro e w1 ⟨rfl, hb⟩
        have HB1 := hid hb
        have HSe := hid (rSetErr_i _ zs set 0 w1 (HV.out.later hb) HSz.out)
        have HEn := hid (rEnough_is vb vo capv zs set true w1 (by rw [HN.out]; omega) HO.out s0 (by omega) (fun i hi => cell_later hb (HCs.out i hi)) hen)
        rw [HN.out] at HEn
        have HOwn := hid (ownInts_any _ zs w1 (HV.out.later hb) (by rw [HN.out]; omega))
        clear hb hen
        go_wp2_with fail
        refine HSe.out.mono ?_
        rintro e w2 ⟨rfl, hx⟩
        subst w2
        go_wp2_with fail
        refine HEn.out.mono ?_
        rintro e w2 ⟨rfl, hx⟩
        subst w2
        go_wp2_with fail
        refine HOwn.out.mono ?_
        rintro e w2 ⟨v2, rfl, hv2, hb2⟩
        have HV2 := hid hv2
        have HB2 := hid (below_trans HB1.out hb2)
        have HNew := hid (wnew_ok v2 HV2.out (HE.out.later HB2.out) hW)
        clear hv2 hb2
        go_wp2_with fail
        refine HNew.out.mono ?_
        rintro e w3 ⟨C, X, rfl, h3⟩
        have HI0 : Hid (AtI w2 w3 zs X.xb 0) := ⟨newX, C, X, h3, rfl, AX.new, FB.new zs, pot_new zs⟩
        clear h3
        go_wp2_with fail
        go_loopw [10] (fun v wr => ∃ k : Nat, k ≤ xs.length ∧ v = .int .i64 (k : Int) ∧ Hid (AtI w2 wr zs X.xb k)) (fun v _ => xs.length - (intOf v).toNat)
        case atStart => exact ⟨0, Nat.zero_le _, rfl, HI0.out⟩
        case round =>
          obtain ⟨k, hk, rfl, HI⟩ := hrel
          by_cases hlt : k < xs.length
          · obtain ⟨V, C1, X1, HT⟩ : ∃ V C1 X1, Hid (WD w2 wr C1 X1 zs V (42 * k) ∧ X1.xb = X.xb ∧ AX zs V ∧ FB zs V (42 * k) ∧ pot zs V ≤ 210 * k) := HI.out
            obtain ⟨hn9, b, o, rfl, y0, y1, y2, y3⟩ := ((HX.out.later HB2.out).later HT.out.1.bel) k hlt
            obtain ⟨⟨xk, xS, xD, xN⟩, HS⟩ : ∃ e, Hid (xs[k]'hlt = e) := ⟨_, rfl⟩
            rw [HS.out] at y0 y1 y2 y3 hn9
            have HAct := hid (act_any xk xS xD xN HT.out.1 (HE.out.later HB2.out) (by omega) hn9)
            rw [HT.out.2.1] at HAct
            go_wp2_with fail
            refine HAct.out.mono ?_
            rintro e w5 ⟨rfl, ho⟩
            have HI2 := hid (at_step HT.out (by omega) ho)
            clear ho y0 y1 y2 y3 HAct
            go_wp2_with fail
            go_roundw
            case rel => exact ⟨k + 1, by omega, by go_num, HI2.out⟩
            case measure => simp [intOf]; omega
          · have hlt' : ¬ ((k : Int) < (xs.length : Int)) := by omega
            obtain ⟨V0, C1, X1, HT⟩ : ∃ V C1 X1, Hid (WD w2 wr C1 X1 zs V (42 * k) ∧ X1.xb = X.xb ∧ AX zs V ∧ FB zs V (42 * k) ∧ pot zs V ≤ 210 * k) := HI.out
            have HL0 : Hid (LkI w2 wr zs set X.xb V0 0 0) := ⟨V0, C1, X1, HT.out.1.mono (by omega), HT.out.2.1, Bare.start V0⟩
            go_wp2_with fail
            go_loopw [11] (fun v wr => ∃ a : Nat, a ≤ n ∧ v = .int .i64 (a : Int) ∧ Hid (LkI w2 wr zs set X.xb V0 a 0)) (fun v _ => n - (intOf v).toNat)
            case atStart => exact ⟨0, Nat.zero_le _, rfl, HL0.out⟩
            case round =>
              obtain ⟨a, han, rfl, HLa⟩ := hrel
              by_cases hal : a < n
              · have hal' : (a : Int) < (n : Int) := by omega
                go_wp2_with fail
                go_loopw [12] (fun v wr => ∃ b : Nat, b ≤ n ∧ v = .int .i64 (b : Int) ∧ Hid (LkI w2 wr zs set X.xb V0 a b)) (fun v _ => n - (intOf v).toNat)
                case atStart => exact ⟨0, Nat.zero_le _, rfl, HLa.out⟩
                case round =>
                  obtain ⟨b, hbn, rfl, HLb⟩ := hrel
                  obtain ⟨V, C2, X2, HW⟩ : ∃ V C X', Hid (WD w2 wr C X' zs V (8400 + 9 * a + b) ∧ X'.xb = X.xb ∧ Bare zs set V0 V a b) := HLb.out
                  by_cases hbl : b < n
                  · have hbl' : (b : Int) < (n : Int) := by omega
                    have HLk : ∀ x : Bool, (bit set a && bit set b) = x → Hid (Calls Tryz.prog 33 #[.pointer (some ⟨X.xb, 0, none⟩), .int .i64 (a : Int), .int .i64 (b : Int), .bool x] wr fun e w' => e = .returned .nilIface ∧ LkI w2 w' zs set X.xb V0 a (b + 1)) := fun x hxb => by
                      have h1 := link_ok a b x HW.out.1 (by rw [HN.out]; omega) (by rw [HN.out]; omega) (by omega)
                      rw [HW.out.2.1] at h1
                      refine h1.mono ?_
                      rintro e w' ⟨rfl, C', X', g1, g2, -, -⟩
                      refine ⟨rfl, linkX V a b x, C', X', g1.mono (by omega), (key_xb g2).trans HW.out.2.1, ?_⟩
                      rw [← hxb]
                      exact HW.out.2.2.link
                    cases hba : bit set a with
                    | false =>
                      have HHa := hid (rHas_is set a false wr (by omega) s0 (by omega) hba)
                      have HL := HLk false (by rw [hba]; rfl)
                      clear HLk
                      go_wp2_with fail
                      refine HHa.out.mono ?_
                      rintro e w6 ⟨rfl, hx⟩
                      subst w6
                      go_wp2_with fail
                      refine HL.out.mono ?_
                      rintro e w6 ⟨rfl, ho⟩
                      have HLn := hid ho
                      clear ho
                      go_wp2_with fail
                      go_roundw
                      case rel => exact ⟨b + 1, by omega, by go_num, HLn.out⟩
                      case measure => simp [intOf]; omega
                    | true =>
                      have HHa := hid (rHas_is set a true wr (by omega) s0 (by omega) hba)
                      obtain ⟨x, HXb⟩ : ∃ x, Hid (bit set b = x) := ⟨_, rfl⟩
                      have HHb := hid (rHas_is set b x wr (by omega) s0 (by omega) HXb.out)
                      have HL := HLk x (by rw [hba, HXb.out]; rfl)
                      clear HLk
                      go_wp2_with fail
                      refine HHa.out.mono ?_
                      rintro e w6 ⟨rfl, hx⟩
                      subst w6
                      go_wp2_with fail
                      refine HHb.out.mono ?_
                      rintro e w6 ⟨rfl, hx⟩
                      subst w6
                      go_wp2_with fail
                      refine HL.out.mono ?_
                      rintro e w6 ⟨rfl, ho⟩
                      have HLn := hid ho
                      clear ho
                      go_wp2_with fail
                      go_roundw
                      case rel => exact ⟨b + 1, by omega, by go_num, HLn.out⟩
                      case measure => simp [intOf]; omega
                  · obtain rfl : b = n := by omega
                    have hbl' : ¬ (b : Int) < (b : Int) := by omega
                    have HBn : Hid (Bare zs set V0 V a zs.length) := by rw [HN.out]; exact HW.out.2.2
                    cases hba : bit set a with
                    | false =>
                      have HHa := hid (rHas_is set a false wr (by omega) s0 (by omega) hba)
                      have HLn : Hid (LkI w2 wr zs set X.xb V0 (a + 1) 0) := ⟨V, C2, X2, HW.out.1.mono (by omega), HW.out.2.1, HBn.out.row hba⟩
                      go_wp2_with fail
                      refine HHa.out.mono ?_
                      rintro e w6 ⟨rfl, hx⟩
                      subst w6
                      go_wp2_with fail
                      go_roundw
                      case rel => exact ⟨a + 1, by omega, by go_num, HLn.out⟩
                      case measure => simp [intOf]; omega
                    | true =>
                      have HHa := hid (rHas_is set a true wr (by omega) s0 (by omega) hba)
                      have HDn := hid (down_bare (xb := X.xb) HW.out.1 (HE.out.later HB2.out) (by rw [HN.out]; omega) HW.out.2.1 HBn.out)
                      go_wp2_with fail
                      refine HHa.out.mono ?_
                      rintro e w6 ⟨rfl, hx⟩
                      subst w6
                      go_wp2_with fail
                      refine HDn.out.mono ?_
                      rintro e w6 ⟨⟨u, rfl⟩, V3, C3, X3, g1, g2, g3, g4, g5⟩
                      have HUp : Hid (Calls Tryz.prog 35 #[.pointer (some ⟨X.xb, 0, none⟩), .int .i64 (a : Int)] w6 fun e w' => e = .returned .nilIface ∧ LkI w2 w' zs set X.xb V0 (a + 1) 0) := by
                        have h1 := wake_any (a : Int) 0 g1 (HE.out.later HB2.out) (by
                          unfold cWake
                          rw [if_pos (by rw [HN.out]; omega), Int.toNat_natCast, g4]
                          rfl)
                        rw [g2] at h1
                        refine h1.mono ?_
                        rintro e w' ⟨rfl, C', X', q1, q2, -, -⟩
                        rw [if_pos rfl, Int.toNat_natCast] at q1
                        exact ⟨rfl, _, C', X', q1.mono (by omega), (key_xb q2).trans g2, g3.wake g5⟩
                      clear g1 g2 g3 g4 g5
                      go_wp2_with fail
                      refine HUp.out.mono ?_
                      rintro e w7 ⟨rfl, ho⟩
                      have HLn := hid ho
                      clear ho
                      go_wp2_with fail
                      go_roundw
                      case rel => exact ⟨a + 1, by omega, by go_num, HLn.out⟩
                      case measure => simp [intOf]; omega
              · obtain rfl : a = n := by omega
                have hal' : ¬ (a : Int) < (a : Int) := by omega
                obtain ⟨w7, rfl⟩ : ∃ w7, w7 = wr := ⟨wr, rfl⟩
                obtain ⟨V, C2, X2, HW⟩ : ∃ V C X', Hid (WD w2 w7 C X' zs V (8400 + 9 * a + 0) ∧ X'.xb = X.xb ∧ Bare zs set V0 V a 0) := HLa.out
                have HK0 : Hid (KnI w7 w7 a set V (.slice none 0 0) []) := ⟨World.ownsRow_nil _ _ _ _, Below.refl _ _, fun x hx => by cases hx⟩
                obtain ⟨i0, hi, hz0, hz1, hz2⟩ := info_parts Tryz.infoInt
                go_wp2_with fail
                go_loopw [13, 14] (fun v i wr => ∃ (d : Nat) (L : List Int), d ≤ 6 ∧ i = .int .i64 (d : Int) ∧ L.length ≤ d ∧ Hid (KnI w7 wr a set V v L)) (fun _ i _ => 6 - (intOf i).toNat)
                case atStart => exact ⟨0, [], Nat.zero_le _, rfl, Nat.zero_le _, HK0.out⟩
                case round =>
                  obtain ⟨d, L, hd6, rfl, hLd, HK⟩ := hrel
                  by_cases hdl : d < 6
                  · have hd' : (d : Int) < 6 := by omega
                    have HStt := hid (states_any d a (HW.out.1.later HK.out.2.1) (HE.out.later HB2.out) hdl HN.out)
                    rw [HW.out.2.1] at HStt
                    go_wp2_with fail
                    refine HStt.out.mono ?_
                    rintro e w8 ⟨adS, capS, rfl, hsl, hb8, -⟩
                    have HK8 := hid (HK.out.later hb8)
                    have HSL := hid hsl
                    clear hsl hb8 HStt HK
                    go_wp2_with fail
                    go_loopw [13, 17] (fun v t wr => ∃ s : Nat, s ≤ a ∧ v = u13 ∧ t = .int .i64 (s : Int) ∧ wr = w8) (fun _ t _ => a - (intOf t).toNat)
                    case atStart => exact ⟨0, Nat.zero_le _, rfl, rfl, rfl⟩
                    case round =>
                      obtain ⟨s, hsa, hv13, rfl, hwr⟩ := hrel
                      subst hv13
                      subst hwr
                      by_cases hsl : s < a
                      · have hsl' : (s : Int) < (a : Int) := by omega
                        cases hbs : bit set s with
                        | false =>
                          have HHs := hid (rHas_is set s false wr (by omega) s0 (by omega) hbs)
                          go_wp2_with fail
                          refine HHs.out.mono ?_
                          rintro e w9 ⟨rfl, hx⟩
                          subst w9
                          go_wp2_with fail
                          go_roundw
                          case rel => exact ⟨s + 1, by omega, by trivial, by go_num, by trivial⟩
                          case measure => simp [intOf]; omega
                        | true =>
                          have HHs := hid (rHas_is set s true wr (by omega) s0 (by omega) hbs)
                          obtain ⟨bS, oS, hadS, z0, z1, z2⟩ := HSL.out s (by rw [stsL_length]; exact hsl)
                          rw [stsL_get] at z0 z1 z2
                          subst hadS
                          obtain ⟨⟨h1, h2, h3⟩, HSt⟩ : ∃ x, Hid (stN (V.nd s) d = x) := ⟨_, rfl⟩
                          rw [HSt.out] at z0 z1 z2
                          simp only at z0 z1 z2
                          by_cases hz : h1 = 0 ∧ h2 = 0 ∧ h3 = 0
                          · obtain ⟨rfl, rfl, rfl⟩ := hz
                            rw [show ((0 : Nat) : Int) = 0 from rfl] at z0 z1 z2
                            have hne := st_none wr
                            go_wp2_with fail
                            refine HHs.out.mono ?_
                            rintro e w9 ⟨rfl, hx⟩
                            subst w9
                            go_wp2_with fail
                            go_roundw
                            case rel => exact ⟨s + 1, by omega, by trivial, by go_num, by trivial⟩
                            case measure => simp [intOf]; omega
                          · have hne := st_isnt h1 h2 h3 hz wr
                            have HNz : Hid (stN (V.nd s) d ≠ St.zero) := by
                              rw [HSt.out]
                              intro e
                              cases e
                              exact hz ⟨rfl, rfl, rfl⟩
                            have hbz := HK8.out.2.1.size
                            go_wp2_with fail
                            refine HHs.out.mono ?_
                            rintro e w9 ⟨rfl, hx⟩
                            subst w9
                            obtain ⟨W9, HW9⟩ : ∃ W9, Hid (wr.alloc (.cells #[.int .i64 (d : Int)] 3) = W9) := ⟨_, rfl⟩
                            have hW9 := HW9.out
                            have HB9 : Hid (Below wr.heap.size wr W9) := by rw [← HW9.out]; exact (Below.refl _ _).alloc (Nat.le_refl _) _
                            have HO9 : Hid (W9.ownsRow w7.heap.size 3 1 u13 L.length (L.map (Value.int .i64))) := own_later HK8.out.1 HB9.out (Nat.le_refl _)
                            have HLit : Hid (∀ j u, [Value.int .i64 (d : Int)][j]? = some u → W9.cell? ((⟨wr.heap.size, 0, none⟩ : Addr).add j) = some u) := by rw [← HW9.out]; exact lit_cellsM wr 3 [.int .i64 (d : Int)]
                            have hbs9 : w7.heap.size ≤ W9.heap.size := Nat.le_trans HK8.out.2.1.size HB9.out.size
                            have hk60 : L.length ≤ 1000000000000 := by omega
                            have HBo : Hid (∀ w', W9.grownBy w' u13.ownBlock → Below w7.heap.size w7 w') := fun w' hg => Below.grown (below_trans HK8.out.2.1 HB9.out) hg hbs9 (fun q hq => (HO9.out.lt q hq).1)
                            have HKf : Hid (∀ (v' : Value) (w' : World), w'.ownsRow w7.heap.size 3 1 v' (L.length + 1) (L.map (Value.int .i64) ++ [.int .i64 (d : Int)]) → Below w7.heap.size w7 w' → KnI w7 w' a set V v' (L ++ [(d : Int)])) := fun v' w' q1 q2 => by
                              refine ⟨by rw [List.length_append, List.map_append]; exact q1, q2, fun x hx => ?_⟩
                              rcases List.mem_append.1 hx with y | y
                              · exact HK8.out.2.2 x y
                              · rw [List.mem_singleton] at y
                                exact ⟨d, hdl, y, s, hsl, hbs, HNz.out⟩
                            go_wp2_with (at_builtin; refine wpList_append_e1 rfl _ _ rfl w7.heap.size L.length u13 (L.map (Value.int .i64)) ⟨wr.heap.size, 0, none⟩ 1 (d : Int) rfl rfl HO9.out HLit.out hk60 hbs9 ?_; intro ad' cap' w' hown hg _; have HS2 := hid (HKf.out _ w' hown (HBo.out w' hg)); clear hown hg)
                            all_goals refine ⟨⟨d + 1, L ++ [(d : Int)], by omega, by go_num, by rw [List.length_append]; simp; omega, HS2.out⟩, ?_⟩
                            all_goals simp [intOf]
                            all_goals omega
                      · have hsl' : ¬ (s : Int) < (a : Int) := by omega
                        go_wp2_with fail
                        go_roundw
                        case rel => exact ⟨d + 1, L, by omega, by go_num, by omega, HK8.out⟩
                        case measure => simp [intOf]; omega
                  · have hd' : ¬ (d : Int) < 6 := by omega
                    have hk200 : k ≤ 200 := by omega
                    have hpt : pot zs V ≤ 42000 := by have h1 := HW.out.2.2.pot; have h2 := HT.out.2.2.2.2; omega
                    have HBare : Hid (Bare zs set V0 V zs.length 0) := by rw [HN.out]; exact HW.out.2.2
                    have HEnd := hid (ends_all HW.out.1.inv (HBare.out.ax HT.out.2.2.1) (HBare.out.fb HT.out.2.2.2.1) (by omega) HBare.out.end.1 HBare.out.end.2 HEnT.out (by omega))
                    have HRo := hid (rounds_any 2 (HW.out.1.later HK.out.2.1) (HE.out.later HB2.out) s0 (by omega) (by decide) (by omega))
                    rw [HW.out.2.1, show ((2 : Nat) : Int) = 2 from rfl] at HRo
                    obtain ⟨adk, capk, hu13⟩ : ∃ ad cp, u13 = Value.slice ad L.length cp := by
                      rcases HK.out.1.2 with ⟨e, h0⟩ | ⟨g', cap', cur', e, -⟩
                      · exact ⟨none, 0, by rw [e, h0]⟩
                      · exact ⟨_, _, e⟩
                    subst hu13
                    go_wp2_with fail
                    refine HRo.out.mono ?_
                    rintro e w10 ⟨cnt, rfl, -, C4, X4, g1, g2, g3, g4⟩
                    have HKn : Hid (w10.ownsRow w7.heap.size 3 1 (.slice adk L.length capk) L.length (L.map (Value.int .i64))) := own_kept HK.out.1 g3 (fun g hg e => by
                      have h1 := (HK.out.1.lt g hg).1
                      have h2 : C2 g < 2000 := e
                      have := HW.out.1.lt g h2
                      omega)
                    have HG := hid (And.intro g1 ((key_xb g2).trans HW.out.2.1))
                    have HFl := hid (flying_any g1 (by omega))
                    rw [HEnd.out.2.1, key_xb g2, HW.out.2.1] at HFl
                    clear g1 g2 g3 g4
                    go_wp2_with fail
                    refine HFl.out.mono ?_
                    rintro e w11 ⟨vf, rfl, hof, hb11⟩
                    obtain ⟨adf, capf, hvf⟩ : ∃ ad cp, vf = Value.slice ad 0 cp := by
                      rcases hof.2 with ⟨e, h0⟩ | ⟨g', cap', cur', e, -⟩
                      · exact ⟨none, 0, e⟩
                      · exact ⟨_, _, e⟩
                    subst hvf
                    have HG11 := hid (HG.out.1.later hb11)
                    have HKn11 := hid (own_later HKn.out hb11 (Nat.le_refl _))
                    obtain ⟨nl, HNl⟩ : ∃ nl, Hid (L.length = nl) := ⟨_, rfl⟩
                    have hnl : nl ≤ 6 := by rw [← HNl.out]; omega
                    rw [HNl.out] at HKn11
                    rw [HNl.out]
                    clear hof hb11
                    go_wp2_with fail
                    go_loopw [18] (fun v wr => ∃ i : Nat, i ≤ nl ∧ v = .int .i64 (i : Int) ∧ Hid (Below w11.heap.size w11 wr)) (fun v _ => nl - (intOf v).toNat)
                    case atStart => exact ⟨0, Nat.zero_le _, rfl, Below.refl _ _⟩
                    case round =>
                      obtain ⟨i, hin, rfl, HBi⟩ := hrel
                      have HGi := hid (HG11.out.later HBi.out)
                      by_cases hil : i < nl
                      · have hil' : (i : Int) < (nl : Int) := by omega
                        have HOi := hid (own_later HKn11.out HBi.out (Nat.le_refl _))
                        obtain ⟨gk, hgk⟩ : ∃ g, adk = some ⟨g, 0, none⟩ := by
                          rcases HOi.out.2 with ⟨e, h0⟩ | ⟨g', cap', cur', e, -⟩
                          · omega
                          · injection e with e1; exact ⟨g', e1⟩
                        subst hgk
                        have c0 := own_ints_e HOi.out hil
                        obtain ⟨e, he6, hxe, j, hj1, hj2, hj3⟩ := HK.out.2.2 (L.getD i 0) (by rw [List.getD, List.getElem?_eq_getElem (by rw [HNl.out]; exact hil)]; exact List.getElem_mem _)
                        rw [hxe] at c0
                        have HAll := hid (HEnd.out.2.2 e he6 ⟨j, by rw [HN.out]; exact hj1, hj2, hj3⟩)
                        have HStt := hid (states_any e a HGi.out (HE.out.later HB2.out) he6 HN.out)
                        rw [HG.out.2] at HStt
                        clear hj1 hj2 hj3 hxe
                        go_wp2_with fail
                        refine HStt.out.mono ?_
                        rintro ee w12 ⟨adS, capS, rfl, hsl, hb12, -⟩
                        have HG12 := hid (HGi.out.later hb12)
                        have HSL := hid hsl
                        have HLen := hid (stsL_length (roundsX zs set 2 V) e a)
                        have HAg : Hid (AgF (stsL (roundsX zs set 2 V) e a) 0 a) := by have := ax_agree HEnd.out.1 he6; rw [HN.out] at this; exact this
                        have HJA := hid (jagree_any A adS capS (stsL (roundsX zs set 2 V) e a) 0 a w12 (HG12.out.held (HE.out.later HB2.out)) hsl (by rw [HLen.out]; omega) HAg.out)
                        rw [HLen.out] at HJA
                        have HB12 := hid (below_trans HBi.out hb12)
                        clear hsl hb12 HStt c0
                        go_wp2_with fail
                        refine HJA.out.mono ?_
                        rintro ee w13 ⟨v13, rfl, hv13, hb13⟩
                        obtain rfl := hv13.nil
                        have HSL13 := hid (HSL.out.later hb13)
                        have HB13 := hid (below_trans HB12.out hb13)
                        clear hv13 hb13 HJA
                        go_wp2_with fail
                        go_loopw [21] (fun t wr => ∃ s : Nat, s ≤ a ∧ t = .int .i64 (s : Int) ∧ wr = w13) (fun t _ => a - (intOf t).toNat)
                        case atStart => exact ⟨0, Nat.zero_le _, rfl, rfl⟩
                        case round =>
                          obtain ⟨s, hsa, rfl, hwr⟩ := hrel
                          subst hwr
                          by_cases hsl : s < a
                          · have hsl' : (s : Int) < (a : Int) := by omega
                            cases hbs : bit set s with
                            | false =>
                              have HHs := hid (rHas_is set s false wr (by omega) s0 (by omega) hbs)
                              go_wp2_with fail
                              refine HHs.out.mono ?_
                              rintro ee w14 ⟨rfl, hx⟩
                              subst w14
                              go_wp2_with fail
                              go_roundw
                              case rel => exact ⟨s + 1, by omega, by go_num, by trivial⟩
                              case measure => simp [intOf]; omega
                            | true =>
                              have HHs := hid (rHas_is set s true wr (by omega) s0 (by omega) hbs)
                              obtain ⟨bS, oS, hadS, z0, -, -⟩ := HSL13.out s (by rw [stsL_length]; exact hsl)
                              rw [stsL_get] at z0
                              subst hadS
                              obtain ⟨ph, HPh⟩ : ∃ ph, Hid ((stN ((roundsX zs set 2 V).nd s) e).ph = ph) := ⟨_, rfl⟩
                              rw [HPh.out] at z0
                              have HFin := hid (rfinal_is ph true wr (by rw [← HPh.out]; exact HAll.out s (by rw [HN.out]; exact hsl) hbs))
                              go_wp2_with fail
                              refine HHs.out.mono ?_
                              rintro ee w14 ⟨rfl, hx⟩
                              subst w14
                              go_wp2_with fail
                              refine HFin.out.mono ?_
                              rintro ee w14 ⟨rfl, hx⟩
                              subst w14
                              go_wp2_with fail
                              go_roundw
                              case rel => exact ⟨s + 1, by omega, by go_num, by trivial⟩
                              case measure => simp [intOf]; omega
                          · have hsl' : ¬ (s : Int) < (a : Int) := by omega
                            go_wp2_with fail
                            go_roundw
                            case rel => exact ⟨i + 1, by omega, by go_num, HB13.out⟩
                            case measure => simp [intOf]; omega
                      · have hil' : ¬ (i : Int) < (nl : Int) := by omega
                        have HBz := hid (below_trans HB2.out HGi.out.bel)
                        go_wp2_with fail
                        go_ret
                        exact ⟨rfl, HBz.out⟩
  · have hp : 0 < (errS zs set : Int) := by omega
    obtain ⟨c, HC⟩ : ∃ c : Int, Hid ((errS zs set : Int) = c) := ⟨_, rfl⟩
    rw [HC.out] at hp
    rw [HN.out] at HV hzm ⊢
    go_enter Tryz.func5, Tryz.ntmps5
    go_wp2_with fail
    refine (born_any A w HE.out).mono ?_
    rintro e w1 ⟨rfl, hb⟩
    have HB1 := hid hb
    have HSe := hid (rSetErr_i _ zs set c w1 (HV.out.later hb) HC.out)
    clear hb
    go_wp2_with fail
    refine HSe.out.mono ?_
    rintro e w2 ⟨rfl, hx⟩
    subst w2
    go_wp2_with fail
    go_ret
    exact ⟨rfl, HB1.out⟩
end Go.Proofs.YtadhpkopkkjmfaaGreatDoor
