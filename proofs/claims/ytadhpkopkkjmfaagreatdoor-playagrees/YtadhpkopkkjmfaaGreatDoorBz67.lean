/-
  On the way to JTampersProof, PAgreesProof, PAgainProof: GS.
-/
import Derived.Test.YtadhpkopkkjmfaaGreatDoorBz60
import Derived.Test.YtadhpkopkkjmfaaGreatDoorBz56
set_option maxHeartbeats 8000000
set_option maxRecDepth 100000
namespace Go.Proofs.YtadhpkopkkjmfaaGreatDoor
open Go.RowKit
theorem own_new {w0 w3 w4 : World} {C : Nat → Nat} {X : XB} {zs : List Int} {V : PX} {m n : Nat} {v : Value} {ys : List Value} (h : WD w0 w3 C X zs V m) (ho : w4.ownsRow w3.heap.size 3 1 v n ys) : ∀ g, v.ownBlock = some g → 2000 ≤ C g := fun g hg => by
  have h1 := (ho.lt g hg).1
  rcases Nat.lt_or_ge (C g) 2000 with q | q
  · have := h.lt _ q; omega
  · exact q
theorem pagrees_any (A : Nat → Addr) (v u : Value) (zs vs : List Int) (w : World) (hE : Held9 w A) (hv : IsSl w v zs) (hu : IsSl w u vs) (hr : ∀ x, x ∈ vs → x ≤ 9223372036854775807) :
    Calls Tryz.prog 9 #[v, u] w fun e w' => e = .returned (.bool true) ∧ Below w.heap.size w w' := by
  have HE := hid hE
  have HV := hid hv
  have HU := hid hu
  have HR := hid hr
  obtain ⟨av, capv, rfl, hzm, -, -⟩ := hv
  obtain ⟨au, capu, rfl, hum, -, -⟩ := hu
  unfold maxLen at hzm hum
  obtain ⟨n, HN⟩ : ∃ n, Hid (zs.length = n) := ⟨_, rfl⟩
  obtain ⟨l, HL⟩ : ∃ l, Hid (vs.length = l) := ⟨_, rfl⟩
  rw [HN.out] at HV hzm ⊢
  rw [HL.out] at HU hum ⊢
  clear hE hr
  by_cases h30 : 30 < n
  · have e1 : (30 : Int) < (n : Int) := by omega
    go_enter Tryz.func9, Tryz.ntmps9
    go_wp2_with fail
    refine (born_any A w HE.out).mono ?_
    rintro e w1 ⟨rfl, hb⟩
    have HB1 := hid hb
    clear hb
    go_wp2_with fail
    go_ret
    exact ⟨rfl, HB1.out⟩
  · have e1 : ¬ (30 : Int) < (n : Int) := by omega
    by_cases h400 : 400 < l
    · have e2 : (400 : Int) < (l : Int) := by omega
      go_enter Tryz.func9, Tryz.ntmps9
      go_wp2_with fail
      refine (born_any A w HE.out).mono ?_
      rintro e w1 ⟨rfl, hb⟩
      have HB1 := hid hb
      clear hb
      go_wp2_with fail
      go_ret
      exact ⟨rfl, HB1.out⟩
    · have e2 : ¬ (400 : Int) < (l : Int) := by omega
      go_enter Tryz.func9, Tryz.ntmps9
      go_wp2_with fail
      refine (born_any A w HE.out).mono ?_
      rintro e w1 ⟨rfl, hb⟩
      have HB1 := hid hb
      have HOwn := hid (ownInts_any _ zs w1 (HV.out.later hb) (by rw [HN.out]; omega))
      clear hb
      go_wp2_with fail
      refine HOwn.out.mono ?_
      rintro e w2 ⟨v2, rfl, hv2, hb2⟩
      have HV2 := hid hv2
      have HB2 := hid (below_trans HB1.out hb2)
      clear hv2 hb2
      by_cases he : errW zs = 0
      · obtain ⟨n1, n7, -, -⟩ := errW_zero he
        rw [HN.out] at n1 n7
        have HNew := hid (wnew_ok v2 HV2.out (HE.out.later HB2.out) he)
        go_wp2_with fail
        refine HNew.out.mono ?_
        rintro e w3 ⟨C, X, rfl, h3⟩
        have H3 := hid h3
        have HB3 := hid (below_trans HB2.out h3.bel)
        have HOw2 := hid (ownInts_long _ vs w3 (HU.out.later HB3.out) (by rw [HL.out]; omega))
        clear h3
        go_wp2_with fail
        refine HOw2.out.mono ?_
        rintro e w4 ⟨v4, rfl, ho4, hb4⟩
        have HRun := hid (run_any v4 w3.heap.size (H3.out.later hb4) (HE.out.later HB2.out) ho4 (by rw [HL.out]; omega) HR.out (by rw [HL.out]; omega) (own_new H3.out ho4))
        clear ho4 hb4
        go_wp2_with fail
        refine HRun.out.mono ?_
        rintro e w5 ⟨u5, C5, X5, rfl, h5⟩
        have H5 := hid h5
        have HAx := hid (h5.alng (fun _ U => AX zs U) (fun _ _ _ _ hs hX hm h => (hs.ax h hX hm).1) AX.new)
        have HEf := hid (ax_events HAx.out)
        rw [HN.out] at HEf
        obtain ⟨V, HVx⟩ : ∃ V, Hid (runX zs (vs.take vs.length) newX = V) := ⟨_, rfl⟩
        have HWD := hid h5.wd
        rw [HVx.out] at HWD HEf
        have hev := HWD.out.inv.ev
        obtain ⟨ne, HNe⟩ : ∃ ne, Hid (V.evs.length = ne) := ⟨_, rfl⟩
        rw [HNe.out] at hev
        have HEv := hid (events_any HWD.out)
        rw [key_xb h5.ky] at HEv
        clear h5
        go_wp2_with fail
        refine HEv.out.mono ?_
        rintro e w6 ⟨v6, rfl, ho6, hb6⟩
        obtain ⟨ad6, cap6, rfl, -, -, hel6⟩ := own_el ho6
        have HWD6 := hid (HWD.out.later hb6)
        have HCk := hid (jcheck_ok A ad6 cap6 V.evs (n : Int) 0 V.evs.length w6 (HWD6.out.held (HE.out.later HB2.out)) (by omega) (by omega) hel6 (by rw [HNe.out]; omega) HEf.out)
        clear ho6 hb6 hel6
        go_wp2_with fail
        refine HCk.out.mono ?_
        rintro e w7 ⟨v7, rfl, hv7, hb7⟩
        obtain rfl := hv7.nil
        have HB7 := hid (below_trans HB2.out (below_trans HWD6.out.bel hb7))
        clear hv7 hb7
        go_wp2_with fail
        go_ret
        exact ⟨rfl, HB7.out⟩
      · obtain ⟨c, hc⟩ : ∃ c, errW zs = c + 1 := ⟨errW zs - 1, by omega⟩
        have HNew := hid (wnew_err v2 c HV2.out (HE.out.later HB2.out) hc)
        go_wp2_with fail
        refine HNew.out.mono ?_
        rintro e w3 ⟨rfl, hx⟩
        subst w3
        go_wp2_with fail
        go_ret
        exact ⟨rfl, HB2.out⟩
end Go.Proofs.YtadhpkopkkjmfaaGreatDoor
