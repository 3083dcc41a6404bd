/-
  On the way to WStepsProof: XT XP VV VW.
-/
import Derived.Test.YtbaamegnmeohoacGreatDoorBs30
import Derived.Test.YtbaamegnmeohoacGreatDoorBs29
import Derived.Test.YtbaamegnmeohoacGreatDoorBs20
import Derived.Test.YtbaamegnmeohoacGreatDoorBs15
import Derived.Test.YtbaamegnmeohoacGreatDoorBs12
import Derived.Test.YtbaamegnmeohoacGreatDoorBs21
namespace Go.Proofs.YtbaamegnmeohoacGreatDoor
open Go.RowKit
section
variable {w0 w w1 w' : World} {C C' : Nat → Nat} {K : RB} {Y : YB} {aw : Option Addr} {i n cap m m' : Nat} {zs : List Int} {N : PN} {V V' : PX}
theorem hearX_0 {V : PX} {i d : Nat} {F : F9} (hd : F.d.toNat = d) : hearX V i F = { setNd V i (hearN (V.nd i) F) with evs := noteE V.evs i d (stN (V.nd i) d).ph (stN (hearN (V.nd i) F) d).ph } := by unfold hearX; rw [hd]
theorem noteE_same (E : List E3) (i d a : Nat) : noteE E i d a a = E := by unfold noteE; rw [if_neg (fun h => h.1 rfl)]
theorem XI.noteE {V : PX} {d a b : Nat} (h : XI zs V m) : XI zs { V with evs := noteE V.evs i d a b } m :=
  ⟨h.he, h.nd, h.fr, h.fl, by
    show (Go.Proofs.YtbaamegnmeohoacGreatDoor.noteE V.evs i d a b).length ≤ 500
    have := h.ev
    unfold Go.Proofs.YtbaamegnmeohoacGreatDoor.noteE
    split
    · rename_i q; rw [List.length_append]; simp only [List.length_cons, List.length_nil]; omega
    · exact this⟩
set_option maxHeartbeats 2000000 in
set_option maxRecDepth 100000 in
theorem rwhear_any (f d k a ph pr pa : Nat) (y : Bool) (F : F9) (hF : F = frN f i d k a y ph pr pa) (h : RW w0 w C Y aw cap zs V m) (hi : i < zs.length) (hu : upN (V.nd i) = true) (hf : FI zs.length F) (hm : m < 100000000) :
    Calls Tryz.prog 105 #[.pointer (some ⟨Y.xb, 0, none⟩), .int .i64 (i : Int), frV (f : Int) (i : Int) (d : Int) (k : Int) (a : Int) y (ph : Int) (pr : Int) (pa : Int)] w fun e w' => ∃ v, e = .returned (.tuple #[v, .bool (upN (hearN (V.nd i) F))]) ∧ ROutF w0 w w' C Y aw cap zs (hearX V i F) (m + 1) v (ansN i (V.nd i) F) := by
  have hd : d < 6 := by have := hf.ok.2.2.1; rw [hF] at this; have : (0 : Int) ≤ d ∧ (d : Int) ≤ 5 := this; omega
  have hl2 : (V.nd i).l ≠ -2 := by unfold upN at hu; simpa using hu
  obtain ⟨W, HW⟩ : ∃ W, Hid (w.alloc (.cells #[.int .i64 (f : Int), .int .i64 (i : Int), .int .i64 (d : Int), .int .i64 (k : Int), .int .i64 (a : Int), .bool y, .int .i64 (ph : Int), .int .i64 (pr : Int), .int .i64 (pa : Int)] 130) = W) := ⟨_, rfl⟩
  have HB : Hid (Below w.heap.size w W) := by rw [← HW.out]; exact (Below.refl _ _).alloc (Nat.le_refl _) _
  have HR : Hid (W.heap[w.heap.size]? = some (.cells #[.int .i64 (f : Int), .int .i64 (i : Int), .int .i64 (d : Int), .int .i64 (k : Int), .int .i64 (a : Int), .bool y, .int .i64 (ph : Int), .int .i64 (pr : Int), .int .i64 (pa : Int)] 130 (0, 0))) := by rw [← HW.out]; exact heap_alloc_new w _
  obtain ⟨b0, b1, b2, b3, b4, b5, b6, b7, b8⟩ := nine HR.out
  have H0 := hid h
  have H1 := hid (h.later HB.out)
  have HI := hid hi
  have HU := hid hu
  have HFI := hid hf
  have HF := hid hF
  obtain ⟨-, c1, -, -, -⟩ := H1.out.cells
  have c2 := H1.out.ns i hi
  have hN := H1.out.nds i hi
  obtain ⟨d0, -, -, -⟩ := hN.cells
  unfold rsV at d0
  rw [hu, if_pos rfl] at d0
  have n7 := h.n7
  have HH := hid (hearN_hf (h.inv.nd i hi) hl2 hf (by omega))
  have HL6 := hid (oHN_off (h.inv.nd i hi) hl2 hf (by omega))
  obtain ⟨n, hn7⟩ : ∃ n, Hid (zs.length = n) := ⟨_, rfl⟩
  rw [hn7.out] at c1 hi n7
  have hFd : F.d.toNat = d := by rw [hF]; exact Int.toNat_natCast d
  obtain ⟨g, HG⟩ : ∃ g, Hid (gHN (V.nd i) F = g) := ⟨_, rfl⟩
  obtain ⟨o, HO⟩ : ∃ o, Hid (oHN (V.nd i) F = o) := ⟨_, rfl⟩
  have HG2 : Hid (hearL (dlN (V.nd i) d).2 ((V.nd i).R d) k a ph = g) := by rw [← HG.out, hF]; rfl
  have HO2 : Hid (pOut (dlN (V.nd i)) (V.nd i).over (V.nd i).B (V.nd i).l d g.st.ph g.st.pr g.st.at_ = o) := by rw [← HO.out, ← HG.out, hF]; rfl
  have HFO : Hid (frOk f i d k a ph pr pa) := by have := hf.ok; rw [hF] at this; exact this
  have HNM : Hid (∀ e, e < 6 → ((dlN (V.nd i)) e).1 < 4294967296) := fun e he => by have := (h.inv.nd i HI.out).nm e he; omega
  have HNS : Hid (∀ x, w.heap.size ≤ x → ¬ In4 (Y.K i).m (Y.K i).gn (Y.K i).gs (Y.K i).r x) := fun x hx e => by
    obtain ⟨e1, e2, e3, e4⟩ := ((h.nds i HI.out).up hu).1.lts
    unfold In4 at e; omega
  have HNC : Hid (C (Y.K i).nd = 100 * i + 1 ∧ C (Y.K i).t = 100 * i + 2 ∧ ∀ x, In4 (Y.K i).m (Y.K i).gn (Y.K i).gs (Y.K i).r x → C x = 100 * i + 3 ∨ C x = 100 * i + 4 ∨ C x = 100 * i + 5 ∨ C x = 100 * i + 7) := by
    obtain ⟨c1, c2, c3, c4, c5⟩ := (h.nds i HI.out).cu hu
    have e2 := (h.nds i HI.out).cr
    refine ⟨(h.nds i HI.out).cn, c1, fun x hx => ?_⟩
    rcases hx with rfl | rfl | rfl | rfl <;> omega
  have HND : Hid (¬ In4 (Y.K i).m (Y.K i).gn (Y.K i).gs (Y.K i).r (Y.K i).nd) := fun e => by have := HNC.out.2.2 _ e; have := HNC.out.1; omega
  have HNT : Hid (¬ In4 (Y.K i).m (Y.K i).gn (Y.K i).gs (Y.K i).r (Y.K i).t) := fun e => by have := HNC.out.2.2 _ e; have := HNC.out.2.1; omega
  have hW := HW.out
  clear h hu hf hF hN hl2
  go_enter Tryz.func105, Tryz.ntmps105
  go_wp2_with fail
  go_region_held3 (fun V => V.cell? ⟨(Y.K i).nd, 0, none⟩ = some (.pointer (some ⟨(Y.K i).t, 0, none⟩)) ∧ V.cell? ⟨w.heap.size, 0, none⟩ = some (.int .i64 (f : Int)) ∧ V.cell? ⟨w.heap.size, 1, none⟩ = some (.int .i64 (i : Int)) ∧ V.cell? ⟨w.heap.size, 2, none⟩ = some (.int .i64 (d : Int)) ∧ V.cell? ⟨w.heap.size, 3, none⟩ = some (.int .i64 (k : Int)) ∧ V.cell? ⟨w.heap.size, 4, none⟩ = some (.int .i64 (a : Int)) ∧ V.cell? ⟨w.heap.size, 5, none⟩ = some (.bool y) ∧ V.cell? ⟨w.heap.size, 6, none⟩ = some (.int .i64 (ph : Int)) ∧ V.cell? ⟨w.heap.size, 7, none⟩ = some (.int .i64 (pr : Int)) ∧ V.cell? ⟨w.heap.size, 8, none⟩ = some (.int .i64 (pa : Int))) (go_keep) (first | (go_at_call 158; (with_reducible refine (rhear_fr (Y.K i).t (Y.K i).m (Y.K i).gb (Y.K i).gn (Y.K i).gs (Y.K i).r i f d k a ph pr pa y (V.nd i).R (dlN (V.nd i)) (V.nd i).over (V.nd i).B (V.nd i).l _ g o ((H1.out.drew.nds i HI.out).up HU.out).2 ((H1.out.drew.nds i HI.out).up HU.out).1 HNM.out HFO.out HG2.out HO2.out HNT.out).mono ?_); rintro e w4 ⟨v, rfl, ha4, hj4, hk4, hf4⟩; have q0 := keptCell hk4 d0 HND.out; have q1 := keptCell hk4 b0 (HNS.out _ (Nat.le_refl _)); have q2 := keptCell hk4 b1 (HNS.out _ (Nat.le_refl _)); have q3 := keptCell hk4 b2 (HNS.out _ (Nat.le_refl _)); have q4 := keptCell hk4 b3 (HNS.out _ (Nat.le_refl _)); have q5 := keptCell hk4 b4 (HNS.out _ (Nat.le_refl _)); have q6 := keptCell hk4 b5 (HNS.out _ (Nat.le_refl _)); have q7 := keptCell hk4 b6 (HNS.out _ (Nat.le_refl _)); have q8 := keptCell hk4 b7 (HNS.out _ (Nat.le_refl _)); have q9 := keptCell hk4 b8 (HNS.out _ (Nat.le_refl _)); have HA4 := hid (And.intro ha4 (And.intro hj4 (And.intro hk4 hf4))); clear ha4 hj4 hk4 hf4))
  clear q0 q1 q2 q3 q4 q5 q6 q7 q8 q9 b0 b1 b2 b3 b4 b5 b6 b7 b8 c1 c2 d0
  have HOE : Hid (o.e = dealL o.b.data.toList) := by have := HH.out.e; rw [HO.out] at this; rw [this]; unfold dlN; rw [hearN_B, HO.out]; exact rfl
  have HJ4 : Hid (RK w4 (Y.K i).m (Y.K i).gn (Y.K i).gs (Y.K i).r (dealL o.b.data.toList) o.over o.b o.l) := by have := HA4.out.2.1; rw [HOE.out] at this; exact this
  have HK4 : Hid (Kept (In4 (Y.K i).m (Y.K i).gn (Y.K i).gs (Y.K i).r) w w4) := (Kept.of_below HB.out).trans ((Kept.refl _ W).drew.trans HA4.out.2.2.1)
  have HFr4 : Hid (FrF w4 C w.heap.size v (ansN i (V.nd i) F)) := by
    have := AnsV.frf (w := w4) (C := C) (id := i) (f := F) (g := g) (c := o.c) (base := w.heap.size) (v := v) (by rw [HF.out]; exact HA4.out.1) (fun a cp e => Nat.le_trans HB.out.size (HA4.out.2.2.2 a cp e)) (fun x hx => by rcases Nat.lt_or_ge (C x) 2000 with q | q; (have := H0.out.lt x q; omega); exact q)
    unfold ansN
    rw [HG.out, HO.out]
    exact this
  have HBD : Hid (∀ e, stN (hearN (V.nd i) F) e = (dealL o.b.data.toList e).2) := fun e => by unfold stN dlN; rw [hearN_B, HO.out]
  have hupc := HH.out.up
  rw [HO.out] at hupc
  rcases HH.out.c with hc | hc
  · have hN0 := hearN_0 hc
    rw [HO.out] at hc hN0
    have hci : (o.c : Int) = 0 := by omega
    have hut : upN (hearN (V.nd i) F) = true := by rw [hupc, hc]; rfl
    rw [hci]
    have HUT := hid hut
    have hlo : o.l ≠ -2 := by rw [hN0] at hut; unfold upN at hut; simpa using hut
    have HLO := hid hlo
    have HN0 := hid hN0
    have HYS := hid (HH.out.yes (by rw [HO.out]; exact hc))
    clear hupc hut hlo hN0 HA4
    go_wp2_with fail
    refine (rnote_any (H0.out.nt HI.out HU.out HK4.out HJ4.out) (by rw [hn7.out]; exact hi) (Nat.le_trans H0.out.bel.size HK4.out.size)).mono ?_
    rintro e w5 ⟨rfl, hn5⟩
    have HN5 := hid hn5
    clear hn5
    go_wp2_with fail
    go_ret2
    refine ⟨v, by rw [HUT.out]; rfl, ?_⟩
    have hgg : ∀ e, e < 6 → (finB (stN (V.nd i) e).ph = true → finB (dealL o.b.data.toList e).2.ph = true) := fun e he hfe => by
      rw [← HBD.out e]
      by_cases g : e = d
      · have q1 := HH.out.may
        have q2 := HYS.out
        rw [hFd] at q1 q2
        rw [g] at hfe ⊢
        rw [q2, fin_stays q1 hfe]
        exact hfe
      · have := HH.out.other e (by rw [hFd]; exact g)
        unfold stN
        rw [this]
        exact hfe
    have hev : noteL V.evs i (fun d => finB (stN (V.nd i) d).ph) (fun d => (dealL o.b.data.toList d).2.ph) 6 = noteE V.evs i d (stN (V.nd i) d).ph (stN (hearN (V.nd i) F) d).ph := by
      rw [HBD.out d]
      refine noteL_one hd (fun e he hne => ?_) rfl (fun hfe => ?_)
      · show finB (stN (V.nd i) e).ph = finB (dealL o.b.data.toList e).2.ph
        rw [← HBD.out e]
        have := HH.out.other e (by rw [hFd]; exact hne)
        unfold stN
        rw [this]
      · show (dealL o.b.data.toList d).2.ph = _
        rw [← HBD.out d]
        have q1 := HH.out.may
        have q2 := HYS.out
        rw [hFd] at q1 q2
        rw [q2]
        exact fin_stays q1 hfe
    have hn6 := HN5.out
    rw [hev] at hn6
    have hX : XI zs { setNd V i (hearN (V.nd i) F) with evs := noteE V.evs i d (stN (V.nd i) d).ph (stN (hearN (V.nd i) F) d).ph } (m + 1) := (H0.out.inv.node HH.out.ni (Nat.le_succ _)).noteE
    have hout := H0.out.heardOut (m' := m + 1) HI.out HU.out HLO.out HK4.out HJ4.out hn6 (fun e he => noteG_six he (hgg e he)) (Nat.le_succ _) (by rw [← HN0.out]; exact hX)
    rw [← HN0.out, ← hearX_0 hFd] at hout
    obtain ⟨C', Y', x1, x2, x3, x4, x5⟩ := hout
    exact ⟨C', Y', x1, x2, x3, fun x hx => x4 x (Nat.lt_of_lt_of_le hx HK4.out.size), HFr4.out.kept x5 x4⟩
  · have hN6 := hearN_6 hc
    have hl6 := HL6.out hc
    rw [HO.out] at hc hN6 hl6
    have hci : (o.c : Int) = 6 := by omega
    have huf : upN (hearN (V.nd i) F) = false := by rw [hupc, hc]; rfl
    rw [hci]
    have HUF := hid huf
    have HSame : Hid (∀ e, e < 6 → finB (dealL o.b.data.toList e).2.ph = finB (stN (V.nd i) e).ph) := fun e he => by
      rw [← HBD.out e]
      by_cases g : e = d
      · have := HH.out.no (by rw [HO.out]; exact hc)
        rw [hFd] at this
        rw [g]
        unfold stN
        rw [this]
      · have := HH.out.other e (by rw [hFd]; exact g)
        unfold stN
        rw [this]
    have HS6 : Hid (stN (hearN (V.nd i) F) d = stN (V.nd i) d) := by
      have := HH.out.no (by rw [HO.out]; exact hc)
      rw [hFd] at this
      show stN _ _ = _
      unfold stN
      rw [this]
    have HRow := hid (HK4.out.row (H0.out.nds i HI.out).row HND.out)
    have HN6 := hid hN6
    have HL := hid hl6
    have HC6 := hid hc
    clear hupc huf hN6 HA4 hl6
    go_wp2_with fail
    refine (rfall_any HRow.out).mono ?_
    rintro e w5 ⟨rfl, rfl⟩
    go_wp2_with fail
    go_ret2
    refine ⟨.slice none 0 0, by rw [HUF.out]; rfl, ?_⟩
    have hRP := HJ4.out.rp
    rw [HL.out] at hRP
    have hni := HH.out.ni
    have e6 : hearN (V.nd i) F = fallN { V.nd i with B := o.b, over := o.over } := HN6.out
    have hout := H0.out.fell (m' := m + 1) (ov := o.over) HI.out HK4.out (fun x hx => by have := HNC.out.2.2 x hx; omega) hRP HSame.out (Nat.le_succ _) (by rw [← e6]; exact hni)
    rw [← e6] at hout
    have hx : hearX V i F = setNd V i (hearN (V.nd i) F) := by rw [hearX_0 hFd, HS6.out, noteE_same]; rfl
    rw [hx]
    obtain ⟨C', Y', x1, x2, x3, x4⟩ := hout
    refine ⟨C', Y', x1, x2, x3, x4, ?_⟩
    have : ansN i (V.nd i) F = [] := by unfold ansN; rw [HO.out, if_neg (fun q => by have := HC6.out; omega)]
    rw [this]
    exact FrF.nil _ _ _
end
section
variable {w0 w w1 w' : World} {C C' : Nat → Nat} {K : RB} {Y : YB} {aw : Option Addr} {i n cap m m' : Nat} {zs : List Int} {N : PN} {V V' : PX}
theorem rcUp_zero {n : Nat} {s : Int} (h : cUp n V s = 0) : ∃ k : Nat, s = k ∧ k < n ∧ upN (V.nd k) = true := by
  unfold cUp at h
  by_cases hs : 0 ≤ s ∧ s < n
  · rw [if_pos hs] at h
    refine ⟨s.toNat, by omega, by omega, ?_⟩
    by_cases hu : upN (V.nd s.toNat) = true
    · exact hu
    · rw [if_neg hu] at h; omega
  · rw [if_neg hs] at h; omega
theorem setNd_fall (V : PX) (i : Nat) : setNd V i (fallN { V.nd i with B := (V.nd i).B, over := (V.nd i).over }) = downX V i := rfl
set_option maxRecDepth 100000 in
theorem rdown_any (s : Int) (c : Nat) (h : RW w0 w C Y aw cap zs V m) (hc : cUp zs.length V s = c) :
    Calls Tryz.prog 48 #[.pointer (some ⟨Y.xb, 0, none⟩), .int .i64 s] w fun e w' => e = .returned (.int .i64 (c : Int)) ∧ ROut w0 w w' C Y aw cap zs (if c = 0 then downX V s.toNat else V) (m + 1) := by
  have H := hid h
  have HU := hid (rup_is s c h hc)
  by_cases c0 : c = 0
  · subst c0
    obtain ⟨k, rfl, hk, hup⟩ := rcUp_zero hc
    obtain ⟨-, c1, -, -, -⟩ := h.cells
    have cn := h.ns k hk
    have hN := h.nds k hk
    obtain ⟨-, d1, -, -⟩ := hN.cells
    obtain ⟨off, l', cuts, p1, p2⟩ := hN.pl
    have q1 := p1.c1
    have q2 := p1.fz 1
    have e1 := hN.cn; have e2 := hN.cr
    have k1 : Kept (In1 (Y.K k).r) w (w.setCell ⟨(Y.K k).r, 1, none⟩ (.bool true)) := (Kept.refl _ w).set1 1 _
    have hx : Y.xb ≠ (Y.K k).r := fun e => by have := h.cx; rw [e] at this; have := h.n7.2; omega
    have hnb : Y.nb ≠ (Y.K k).r := fun e => by have := h.cn; rw [e] at this; have := h.n7.2; omega
    have hnd : (Y.K k).nd ≠ (Y.K k).r := fun e => by rw [e] at e1; omega
    have c1' := keptC k1 c1 hx
    have cn' := keptC k1 cn hnb
    have HR := hid (k1.row hN.row hnd)
    have HK := hid hk
    have HP := hid (p1.s1 true)
    have HN := hid hN
    have HK1 := hid k1
    obtain ⟨n, HNn⟩ : ∃ n, zs.length = n := ⟨_, rfl⟩
    rw [HNn] at c1 c1' hk
    clear h hc hN hup HNn p1 p2 k1
    go_enter Tryz.func48, Tryz.ntmps48
    go_wp2_with fail
    refine HU.out.mono ?_
    rintro e w1 ⟨rfl, rfl⟩
    go_wp2_with fail
    refine (rfall_any HR.out).mono ?_
    rintro e w2 ⟨rfl, rfl⟩
    go_wp2_with fail
    go_ret
    refine ⟨rfl, ?_⟩
    rw [← setNd_fall]
    exact H.out.fell HK.out HK1.out (fun x hx => by rw [show x = _ from hx]; have := HN.out.cr; omega) ⟨_, _, _, HP.out, .inl ⟨rfl, rfl⟩⟩ (fun _ _ => rfl) (Nat.le_succ _) ((H.out.inv.nd k HK.out).fall.mono (Nat.le_succ _))
  · have c9 : ¬ ((c : Int) = 0) := by omega
    rw [if_neg c0]
    clear h hc
    go_enter Tryz.func48, Tryz.ntmps48
    go_wp2_with fail
    refine HU.out.mono ?_
    rintro e w1 ⟨rfl, rfl⟩
    go_wp2_with fail
    go_ret
    exact ⟨rfl, H.out.out (Below.refl _ _) (Nat.le_succ _)⟩
theorem RN.cut {l : Int} (h : RN w C K i n cap aw N) (hu : upN N = true) (hl : l ≠ -2) (hk : Kept (In1 K.r) w w') (hp : ∃ off l' cuts, RP w' K.r N.B off l' cuts ∧ Lk l off l' cuts) : RN w' C K i n cap aw { N with l := l } := by
  obtain ⟨c1, c2, c3, c4, c5⟩ := h.cu hu
  have e1 := h.cn; have e2 := h.cr; have e3 := h.cl; have e4 := h.cd
  have no : ∀ x, C x ≠ 100 * i + 7 → ¬ In1 K.r x := fun x g hx => g (by rw [show x = K.r from hx]; exact e2)
  obtain ⟨u1, u2⟩ := h.up hu
  have hru : upN { N with l := l } = upN N := by rw [hu]; unfold upN; simpa using hl
  have hrc : rndC K { N with l := l } = rndC K N := by unfold rndC rsV; rw [hru]
  refine ⟨by rw [hrc]; exact hk.row h.row (no _ (by omega)), hp, fun _ => ⟨⟨u1.rj.kept hk (no _ (by omega)) (no _ (by omega)) (no _ (by omega)), hp, u1.rm, u1.rn, u1.rs, u1.sz, u1.s6⟩, u2.kept hk (no _ (by omega)) (no _ (by omega))⟩, hk.row h.lrow (no _ (by omega)), hk.row h.drow (no _ (by omega)), fun d hd x hx => ?_, h.cn, h.cr, h.cl, h.cd, fun _ => ⟨c1, c2, c3, c4, c5⟩, h.ce⟩
  obtain ⟨L, r1, r2⟩ := h.lds d hd x hx
  obtain ⟨b1, b2⟩ := h.ce d hd x hx
  exact ⟨L, r1, r2.kept hk (no _ (by omega)) (fun g hg => no g (by have := b2 g hg; omega))⟩
theorem setNd_self (V : PX) (i : Nat) : setNd V i (V.nd i) = V := by
  unfold setNd
  have : (fun k => if k = i then V.nd i else V.nd k) = V.nd := funext fun k => by
    by_cases g : k = i
    · rw [if_pos g, g]
    · rw [if_neg g]
  rw [this]
theorem cutX_neg (V : PX) (s : Nat) (x : Int) (h : cL (V.nd s).l x = (V.nd s).l) : cutX V s x = V := by
  unfold cutX
  rw [h]
  exact setNd_self V s
set_option maxRecDepth 100000 in
theorem rcut_any (s x : Int) (c : Nat) (h : RW w0 w C Y aw cap zs V m) (hx : x ≤ 9223372036854775807) (hc : cCut zs.length V s x = c) :
    Calls Tryz.prog 58 #[.pointer (some ⟨Y.xb, 0, none⟩), .int .i64 s, .int .i64 x] w fun e w' => e = .returned (.int .i64 (c : Int)) ∧ ROut w0 w w' C Y aw cap zs (if 0 ≤ s ∧ s < zs.length then cutX V s.toNat x else V) (m + 1) := by
  have H := hid h
  by_cases hx0 : x < 0
  · have hc2 : c = 2 := by
      rw [← hc]; unfold cCut cC
      rw [if_pos hx0]
      split <;> rfl
    have hV : (if 0 ≤ s ∧ s < zs.length then cutX V s.toNat x else V) = V := by
      split
      · exact cutX_neg _ _ _ (by unfold cL; rw [if_pos hx0])
      · rfl
    rw [hV]
    subst hc2
    clear h hc hV hx
    go_enter Tryz.func58, Tryz.ntmps58
    go_wp2_with fail
    go_ret
    exact ⟨rfl, H.out.out (Below.refl _ _) (Nat.le_succ _)⟩
  · obtain ⟨u, hu⟩ : ∃ u, cUp zs.length V s = u := ⟨_, rfl⟩
    have HU := hid (rup_is s u h hu)
    by_cases u0 : u = 0
    · subst u0
      obtain ⟨k, rfl, hk, hup⟩ := rcUp_zero hu
      have hl : (V.nd k).l ≠ -2 := by unfold upN at hup; simpa using hup
      have hs : (0 : Int) ≤ (k : Int) ∧ (k : Int) < zs.length := ⟨by omega, by omega⟩
      rw [if_pos hs, Int.toNat_natCast]
      have hcc : cC (V.nd k).l x = c := by rw [← hc]; unfold cCut; rw [if_pos hs, Int.toNat_natCast]
      obtain ⟨-, c1, -, -, -⟩ := h.cells
      have cn := h.ns k hk
      have hN := h.nds k hk
      obtain ⟨-, d1, -, -⟩ := hN.cells
      obtain ⟨off, l', cuts, p1, p2⟩ := hN.pl
      have HC := hid (cut_rp (Y.K k).r (V.nd k).B (V.nd k).l x l' off cuts w p1 p2 hx)
      have hcl : cL (V.nd k).l x = x := by unfold cL; rw [if_neg hx0, if_neg hl]
      have HCL := hid hcl
      have HK := hid hk
      have HUP := hid hup
      have HCC := hid hcc
      have HX := hid hx
      obtain ⟨n, HNn⟩ : ∃ n, zs.length = n := ⟨_, rfl⟩
      rw [HNn] at c1 hk
      clear h hc hN hup HNn p1 p2 hs hu hl hcc hcl hx
      go_enter Tryz.func58, Tryz.ntmps58
      go_wp2_with fail
      refine HU.out.mono ?_
      rintro e w1 ⟨rfl, rfl⟩
      go_wp2_with fail
      refine HC.out.mono ?_
      rintro e w2 ⟨rfl, hp, hk2⟩
      rw [HCC.out]
      have HP := hid hp
      have HK2 := hid hk2
      clear hp hk2
      go_wp2_with fail
      go_ret
      refine ⟨rfl, ?_⟩
      exact H.out.nodeOut HK.out HK2.out (fun x hx => by rw [show x = _ from hx]; have := (H.out.nds k HK.out).cr; omega) ((H.out.nds k HK.out).cut HUP.out (by rw [HCL.out]; omega) HK2.out HP.out) rfl (Nat.le_succ _) (((H.out.inv.nd k HK.out).cut HX.out).mono (Nat.le_succ _))
    · have u9 : ¬ ((u : Int) = 0) := by omega
      have u8 : ¬ ((u : Int) ≤ 0) := by omega
      have hcu : c = u := by
        rw [← hc, ← hu]; unfold cCut cUp cC
        by_cases hs : 0 ≤ s ∧ s < zs.length
        · rw [if_pos hs, if_pos hs, if_neg hx0]
          by_cases hl : (V.nd s.toNat).l = -2
          · rw [if_pos hl, if_neg (by unfold upN; simp [hl])]
          · exfalso
            apply u0
            rw [← hu]; unfold cUp
            rw [if_pos hs, if_pos (by unfold upN; simpa using hl)]
        · rw [if_neg hs, if_neg hs]
      have hV : (if 0 ≤ s ∧ s < zs.length then cutX V s.toNat x else V) = V := by
        by_cases hs : 0 ≤ s ∧ s < zs.length
        · rw [if_pos hs]
          refine cutX_neg _ _ _ ?_
          by_cases hl : (V.nd s.toNat).l = -2
          · unfold cL; rw [if_neg hx0, if_pos hl]
          · exfalso
            apply u0
            rw [← hu]; unfold cUp
            rw [if_pos hs, if_pos (by unfold upN; simpa using hl)]
        · rw [if_neg hs]
      rw [hV, hcu]
      clear h hc hV hx hu hcu
      go_enter Tryz.func58, Tryz.ntmps58
      go_wp2_with fail
      refine HU.out.mono ?_
      rintro e w1 ⟨rfl, rfl⟩
      go_wp2_with fail
      go_ret
      exact ⟨rfl, H.out.out (Below.refl _ _) (Nat.le_succ _)⟩
end
theorem own_form {w : World} {base n : Nat} {v : Value} {L : List F9} (h : w.ownsRow base 130 9 v L.length (frCells L)) (hn : L.length = n) (h0 : 0 < n) : ∃ g cap cur, v = .slice (some ⟨g, 0, none⟩) n cap ∧ base ≤ g ∧ w.heap[g]? = some (.cells cur 130 (0, 0)) ∧ n ≤ cap ∧ cap ≤ maxLen ∧ cur.size = cap * 9 ∧ cur.toList.take (n * 9) = frCells L := by
  subst hn
  rcases h.2 with ⟨-, h0'⟩ | ⟨g, cap, cur, h1, h2, h3, h4, h5, h6, h7⟩
  · omega
  · exact ⟨g, cap, cur, h1, h2, h3, h4, h5, h6, h7⟩
theorem del_frs1 (base g cap k n : Nat) (cur : Array Value) (L : List F9) (w : World) (hg : w.heap[g]? = some (.cells cur 130 (0, 0))) (hb : base ≤ g) (hn : L.length = n) (h1 : n ≤ cap) (h2 : cap ≤ maxLen) (hs : cur.size = cap * 9) (ht : cur.toList.take (n * 9) = frCells L) (hk : k < n) :
    Calls Tryz.prog 141 #[.slice (some ⟨g, 0, none⟩) n cap, .int .i64 (k : Int), .int .i64 ((k : Int) + 1)] w fun e w' => e = .returned (.slice (some ⟨g, 0, none⟩) (n - 1) cap) ∧ w'.ownsRow base 130 9 (.slice (some ⟨g, 0, none⟩) (n - 1) cap) (n - 1) (frCells (L.eraseIdx k)) ∧ Kept (In1 g) w w' := by
  have h := del_frs base g cap k (k + 1) n cur L w hg hb hn h1 h2 hs ht hk rfl
  rw [show ((k + 1 : Nat) : Int) = (k : Int) + 1 by omega] at h
  exact h
theorem wrap7 {k : Nat} (h : k < 7) : IntKind.i64.wrap ((k : Int) + 1) = (k : Int) + 1 := by
  have : k = 0 ∨ k = 1 ∨ k = 2 ∨ k = 3 ∨ k = 4 ∨ k = 5 ∨ k = 6 := by omega
  rcases this with rfl | rfl | rfl | rfl | rfl | rfl | rfl <;> decide
def electsL (s : Nat) (d a : Int) (n : Nat) : List F9 := (toL s d 3 a 0 n).eraseIdx s
set_option maxHeartbeats 1000000 in
set_option maxRecDepth 100000 in
theorem ldStart1_any {w : World} {lb b cap id : Nat} {deal att : Int} {zs : List Int} {P : PL} (hn : zs.length ≤ 7) (hi : id < zs.length) (ha : att ≠ 0) (h : LD w lb b cap id deal att zs P) :
    Calls Tryz.prog 86 #[.pointer (some ⟨lb, 0, none⟩)] w fun e w' => ∃ v, e = .returned v ∧ FrB w.heap.size w' v (electsL id deal att zs.length) ∧ Below w.heap.size w w' := by
  obtain ⟨c0, c1, c2, -⟩ := h.cells
  have H := hid h
  have hlb := row_ltJ h.row
  have ha' : (att == 0) = false := beq_eq_false_iff_ne.2 ha
  obtain ⟨L, HL⟩ : ∃ L, Hid (toL id deal 3 att 0 zs.length = L) := ⟨_, rfl⟩
  obtain ⟨n, hnn⟩ : ∃ n, Hid (zs.length = n) := ⟨_, rfl⟩
  have HLen : Hid (L.length = n) := by rw [← HL.out, ← hnn.out]; exact toL_length id deal 3 att 0 zs.length
  have HEl : Hid (electsL id deal att zs.length = L.eraseIdx id) := by rw [← HL.out]; exact rfl
  rw [HEl.out]
  rw [hnn.out] at hi
  have HWr := hid (wrap7 (show id < 7 by have := hnn.out; omega))
  have HTA : Hid (∀ w : World, LD w lb b cap id deal att zs P → Calls Tryz.prog 140 #[.pointer (some ⟨lb, 0, none⟩), .int .i64 3, .int .i64 0] w fun e w' => ∃ g cp cur, e = .returned (.slice (some ⟨g, 0, none⟩) n cp) ∧ (w.heap.size ≤ g ∧ w'.heap[g]? = some (.cells cur 130 (0, 0)) ∧ n ≤ cp ∧ cp ≤ maxLen ∧ cur.size = cp * 9 ∧ cur.toList.take (n * 9) = frCells L) ∧ Below w.heap.size w w') := by
    intro w hw
    refine (ldtoAll_own lb b cap id deal att zs P 3 0 w hw hn).mono ?_
    rintro e w' ⟨v, he, ho, hb⟩
    rw [HL.out] at ho
    obtain ⟨g, cp, cur, hv, hg⟩ := own_form ho HLen.out (by omega)
    exact ⟨g, cp, cur, by rw [he, hv], hg, hb⟩
  clear h
  go_enter Tryz.func86, Tryz.ntmps86
  go_wp2_with fail
  go_region_held3 (fun V => V.cell? ⟨lb, 0, none⟩ = some (.int .i64 (id : Int))) (go_keep) (first | (go_at_call 140; (with_reducible refine (HTA.out _ (H.out.later (Below.refl _ _).drew)).mono ?_); rintro e w1 ⟨g, cp, cur, rfl, hg, hb⟩; have q0 := cell_later hb c0; have HO1 : Hid (w.heap.size ≤ g) := hg.1; have HO := hid hg.2; have HB := hid (show Below w.heap.size w w1 from (Below.refl _ w).drew.trans hb); clear hb hg) | (go_at_call 141; rw [HWr.out]; (with_reducible refine (del_frs1 w.heap.size g cp id n cur L _ HO.out.1 HO1.out HLen.out HO.out.2.1 HO.out.2.2.1 HO.out.2.2.2.1 HO.out.2.2.2.2 hi).mono ?_); rintro e w2 ⟨rfl, ho2, hk2⟩; have HD := hid (And.intro ho2 hk2); have q1 := keptCell hk2 q0 (fun e => by have h1 := HO1.out; have h2 : lb = g := e; omega); clear ho2 hk2))
  all_goals go_wp2_with fail
  all_goals go_ret
  all_goals refine ⟨_, rfl, ?_, HD.out.2.below HB.out.size (fun x hx => by rw [show x = g from hx]; exact HO1.out) HB.out⟩
  all_goals
    have h1 := HD.out.1
    have e1 : (L.eraseIdx id).length = n - 1 := by rw [List.length_eraseIdx_of_lt (by rw [HLen.out]; exact hi), HLen.out]
    rw [← e1] at h1 ⊢
    exact FrB.owned h1
section
variable {w0 w w' : World} {C C' : Nat → Nat} {K : NB} {X : XB} {i m m' : Nat} {zs : List Int} {N : PN} {V V' : PX} {A : Nat → Addr}
theorem wrap64_inV (n : Int) (h : -9223372036854775808 ≤ n ∧ n ≤ 9223372036854775807) : wrap64 n = n := by unfold wrap64; omega
set_option maxRecDepth 100000 in
theorem seen_is (d p : Nat) (h : ND w0 w C K i zs N m) (hd : d < 6) (hp : (stN N d).pr = p) :
    Calls Tryz.prog 154 #[.pointer (some ⟨K.nd, 0, none⟩), .int .i64 (d : Int), .int .i64 (p : Int)] w fun e w' => e = .returned (.int .i64 (aboveN N d)) ∧ w' = w := by
  have c1 := h.lead hd
  cases hl : N.ld d with
  | none =>
    rw [ldV_none hl] at c1
    have e : aboveN N d = (p : Int) := by unfold aboveN; rw [hl, hp]
    rw [e]
    clear h e hl
    go_enter Tryz.func154, Tryz.ntmps154
    go_wp2_with fail
    go_ret
    exact ⟨rfl, rfl⟩
  | some x =>
    rw [ldV_some hl] at c1
    have e : aboveN N d = max (p : Int) x.2.seen := by unfold aboveN; rw [hl, hp]
    rw [e]
    have HL := hid (h.lds d hd x hl)
    clear h e hl
    go_enter Tryz.func154, Tryz.ntmps154
    go_wp2_with fail
    refine (ldSeen_any HL.out).mono ?_
    rintro e w1 ⟨rfl, hx⟩
    subst w1
    go_wp2_with fail
    go_ret
    exact ⟨rfl, rfl⟩
set_option maxRecDepth 100000 in
theorem attempt_is (s : Nat) (a : Int) (h : WD w0 w C X zs V m) (hs : s < zs.length) (h0 : 0 ≤ a) (h1 : a ≤ 1048576) :
    Calls Tryz.prog 153 #[.pointer (some ⟨X.xb, 0, none⟩), .int .i64 (s : Int), .int .i64 a] w fun e w' => e = .returned (.int .i64 (attemptX zs.length s a)) ∧ w' = w := by
  obtain ⟨-, c1, -, -, -⟩ := h.cells
  have n7 := h.n7
  obtain ⟨n, hn⟩ : ∃ n, zs.length = n := ⟨_, rfl⟩
  rw [hn] at c1 n7 hs ⊢
  clear h hn
  go_enter Tryz.func153, Tryz.ntmps153
  go_wp2_with fail
  go_ret
  refine ⟨?_, rfl⟩
  have hp : (0 : Int) < n := by omega
  have r0 := Int.emod_nonneg (a + 1) (show (n : Int) ≠ 0 by omega)
  have r1 := Int.emod_lt_of_pos (a + 1) hp
  have e1 : wrap64 ((s : Int) + n - (a + 1) % n) = (s : Int) + n - (a + 1) % n := wrap64_inV _ (by omega)
  have e2 : ((s : Int) + n - (a + 1) % n).tmod n = ((s : Int) + n - (a + 1) % n) % n := Int.tmod_eq_emod_of_nonneg (by omega)
  have q0 := Int.emod_nonneg ((s : Int) + n - (a + 1) % n) (show (n : Int) ≠ 0 by omega)
  have q1 := Int.emod_lt_of_pos ((s : Int) + n - (a + 1) % n) hp
  have e3 : wrap64 (a + 1 + (wrap64 ((s : Int) + n - (a + 1) % n)).tmod n) = attemptX n s a := by
    rw [e1, e2, wrap64_inV _ (by omega)]
    rfl
  show Ending.returned (Value.int IntKind.i64 (wrap64 (a + 1 + (wrap64 ((s : Int) + n - (a + 1) % n)).tmod n))) = _
  rw [e3]
theorem attemptX_bd (n s : Nat) (a : Int) (hn : 0 < n) : a + 1 ≤ attemptX n s a ∧ attemptX n s a ≤ a + n := by
  unfold attemptX
  have hp : (0 : Int) < n := by omega
  have q0 := Int.emod_nonneg ((s : Int) + n - (a + 1) % n) (show (n : Int) ≠ 0 by omega)
  have q1 := Int.emod_lt_of_pos ((s : Int) + n - (a + 1) % n) hp
  omega
end
set_option maxRecDepth 100000 in
theorem ldTry_far (A : Nat → Addr) (v : Value) (zs : List Int) (id : Nat) (deal att : Int) (w : World) (hv : IsSl w v zs) (hE : Held3 w A) (he : errW zs = 0) (hid' : id < zs.length) (h0 : 0 ≤ deal) (h1 : deal < 6) (a1 : 1048576 < att) :
    Calls Tryz.prog 155 #[.int .i64 (id : Int), .int .i64 deal, v, .int .i64 att] w fun e w' => e = .returned (.tuple #[.pointer none, .iface 342 (.pointer (some (A 1)))]) ∧ Below w.heap.size w w' := by
  have HC := hid (ldbegin_ok A v zs id deal att w hv hE he hid' h0 h1)
  have g1 : w.cell? ⟨0, 0, none⟩ = some (.iface 342 (.pointer (some (A 1)))) := hE 1 (by omega) (by omega)
  obtain ⟨a, cap0, rfl, -, -, -⟩ := hv
  have g2 : ¬ att < 1 := by omega
  clear hE he
  go_enter Tryz.func155, Tryz.ntmps155
  go_wp2_with fail
  refine HC.out.mono ?_
  rintro e w1 ⟨lb, b, cap, rfl, hl, hb, hg⟩
  have HB := hid hb
  have g1' := cell_later hb g1
  clear hl hb hg
  go_wp2_with fail
  go_quiet (fail)
  go_wp2
  go_ret2
  exact ⟨rfl, below_drewN HB.out _⟩
end Go.Proofs.YtbaamegnmeohoacGreatDoor
