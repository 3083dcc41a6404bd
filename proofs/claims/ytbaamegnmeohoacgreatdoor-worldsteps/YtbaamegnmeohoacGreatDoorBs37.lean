/-
  On the way to WStepsProof: X2 X3 X4 YA YC YD VZ GP.
-/
import Derived.Test.YtbaamegnmeohoacGreatDoorBs36
import Derived.Test.YtbaamegnmeohoacGreatDoorBs21
import Derived.Test.YtbaamegnmeohoacGreatDoorBs4
import Derived.Test.YtbaamegnmeohoacGreatDoorBs12
import Derived.Test.YtbaamegnmeohoacGreatDoorBs16
import Derived.Test.YtbaamegnmeohoacGreatDoorBs33
import Derived.Test.YtbaamegnmeohoacGreatDoorBs35
import Derived.Test.YtbaamegnmeohoacGreatDoorBs20
import Derived.Test.YtbaamegnmeohoacGreatDoorBs17
import Derived.Deep.RegionHeldLaw
namespace Go.Proofs.YtbaamegnmeohoacGreatDoor
open Go.RowKit
section
variable {w0 w w1 w' : World} {C C' : Nat → Nat} {K : RB} {Y : YB} {aw : Option Addr} {i n cap m m' : Nat} {zs : List Int} {N : PN} {V V' : PX}
def paint5 (C : Nat → Nat) (i t m gn gs gb : Nat) : Nat → Nat := paint (paint (paint (paint (paint C t (100 * i + 2)) m (100 * i + 3)) gn (100 * i + 4)) gs (100 * i + 5)) gb (100 * i + 6)
theorem paint5_lt {t mm gn gs gb b : Nat} (h : b ≤ t ∧ b ≤ mm ∧ b ≤ gn ∧ b ≤ gs ∧ b ≤ gb) {x : Nat} (hx : x < b) : paint5 C i t mm gn gs gb x = C x := by
  unfold paint5
  rw [paint_ne (by omega), paint_ne (by omega), paint_ne (by omega), paint_ne (by omega), paint_ne (by omega)]
theorem paint5_at {t mm gn gs gb : Nat} (h1 : t ≠ mm ∧ t ≠ gn ∧ t ≠ gs ∧ t ≠ gb) (h2 : gb ≠ mm ∧ gb ≠ gn ∧ gb ≠ gs) (h3 : mm ≠ gn ∧ mm ≠ gs ∧ gn ≠ gs) :
    paint5 C i t mm gn gs gb t = 100 * i + 2 ∧ paint5 C i t mm gn gs gb mm = 100 * i + 3 ∧ paint5 C i t mm gn gs gb gn = 100 * i + 4 ∧ paint5 C i t mm gn gs gb gs = 100 * i + 5 ∧ paint5 C i t mm gn gs gb gb = 100 * i + 6 := by
  unfold paint5
  refine ⟨?_, ?_, ?_, ?_, ?_⟩
  · rw [paint_ne h1.2.2.2, paint_ne h1.2.2.1, paint_ne h1.2.1, paint_ne h1.1, paint_at]
  · rw [paint_ne (Ne.symm h2.1), paint_ne h3.2.1, paint_ne h3.1, paint_at]
  · rw [paint_ne (Ne.symm h2.2.1), paint_ne h3.2.2, paint_at]
  · rw [paint_ne (Ne.symm h2.2.2), paint_at]
  · rw [paint_at]
theorem paint5_in {t mm gn gs gb x : Nat} (h : paint5 C i t mm gn gs gb x < 2000) : C x < 2000 ∨ x = t ∨ x = mm ∨ x = gn ∨ x = gs ∨ x = gb := by
  unfold paint5 at h
  by_cases e5 : x = gb
  · omega
  · rw [paint_ne e5] at h
    by_cases e4 : x = gs
    · omega
    · rw [paint_ne e4] at h
      by_cases e3 : x = gn
      · omega
      · rw [paint_ne e3] at h
        by_cases e2 : x = mm
        · omega
        · rw [paint_ne e2] at h
          by_cases e1 : x = t
          · omega
          · rw [paint_ne e1] at h
            exact .inl h
structure WkI (w w1 w2 : World) (r i : Nat) (B : ByteArray) (l : Int) (t mm gn gs gb : Nat) : Prop where
  k1 : Kept (In1 r) w w1
  rp : RP w1 r B false l false
  rj : RJ w2 mm gn gs r (dealL B.data.toList) false
  rs : RSt w2 t mm gb (i : Int) (fun _ => false)
  b2 : Below w1.heap.size w1 w2
  lo : w1.heap.size ≤ t ∧ w1.heap.size ≤ mm ∧ w1.heap.size ≤ gn ∧ w1.heap.size ≤ gs ∧ w1.heap.size ≤ gb
  ht : t ≠ mm ∧ t ≠ gn ∧ t ≠ gs ∧ t ≠ gb
  hb : gb ≠ mm ∧ gb ≠ gn ∧ gb ≠ gs
def wakeK (K : RB) (t mm gn gs gb : Nat) : RB := { K with t := t, m := mm, gn := gn, gs := gs, gb := gb }
theorem RN.dark (h : NI n N m) (hl : N.l = -2) (d : Nat) : N.ld d = none := by
  cases hd : N.ld d with
  | none => rfl
  | some x => exact ((h.ld d x hd).1 hl).elim
theorem WkI.lts {w w1 w2 : World} {r i : Nat} {B : ByteArray} {l : Int} {t mm gn gs gb : Nat} (h : WkI w w1 w2 r i B l t mm gn gs gb) : t < w2.heap.size ∧ mm < w2.heap.size ∧ gn < w2.heap.size ∧ gs < w2.heap.size ∧ gb < w2.heap.size := by
  obtain ⟨e1, e2, e3⟩ := h.rj.lts
  exact ⟨row_ltJ h.rs.row, e1, e2, e3, row_ltJ h.rs.refs⟩
theorem RW.wakeNT {w2 : World} {l : Int} {t mm gn gs gb : Nat} (h : RW w0 w C Y aw cap zs V m) (hi : i < zs.length) (hw : WkI w w1 w2 (Y.K i).r i (V.nd i).B l t mm gn gs gb) :
    NT w0.heap.size (w2.setCell ⟨(Y.K i).nd, 0, none⟩ (.pointer (some ⟨t, 0, none⟩))) (paint5 C i t mm gn gs gb) Y (wakeK (Y.K i) t mm gn gs gb) aw cap zs.length i (fun d => finB (stN (V.nd i) d).ph) (dealL (V.nd i).B.data.toList) V.evs := by
  have n7 := h.n7.2
  have hN := h.nds i hi
  have e1 := hN.cn; have e2 := hN.cr; have e3 := hN.cl; have e4 := hN.cd; have cx := h.cx; have cn := h.cn
  have hsz := hw.k1.size
  have hlo := hw.lo
  have hlt := hw.lts
  have lnd := row_ltJ hN.row
  have hC : ∀ x, x < w.heap.size → paint5 C i t mm gn gs gb x = C x := fun x hx => paint5_lt (b := w1.heap.size) hlo (by omega)
  have hCo : ∀ {x c : Nat}, C x = c → c < 2000 → paint5 C i t mm gn gs gb x = c := fun {x c} e hc => (hC x (h.lt x (by omega))).trans e
  obtain ⟨p1, p2, p3, p4, p5⟩ := paint5_at (C := C) (i := i) hw.ht hw.hb ⟨hw.rj.mn, hw.rj.ms, hw.rj.ns⟩
  have k2 : Kept (In1 (Y.K i).r) w w2 := hw.k1.trans (Kept.of_below hw.b2)
  have k3 : Kept (In1 (Y.K i).nd) w2 (w2.setCell ⟨(Y.K i).nd, 0, none⟩ (.pointer (some ⟨t, 0, none⟩))) := (Kept.refl _ w2).set1 0 _
  have nr : ∀ x, C x ≠ 100 * i + 7 → ¬ In1 (Y.K i).r x := fun x q hx => q (by rw [show x = _ from hx]; exact e2)
  have nn : ∀ x, x ≠ (Y.K i).nd → ¬ In1 (Y.K i).nd x := fun x q hx => q hx
  have nc : ∀ x, C x ≠ 100 * i + 1 → ¬ In1 (Y.K i).nd x := fun x q hx => q (by rw [show x = _ from hx]; exact e1)
  have hrow : w2.heap[(Y.K i).nd]? = some (.cells (rndC (Y.K i) (V.nd i)).toArray 105 (0, 0)) := k2.row hN.row (nr _ (by omega))
  have hrow3 := heap_setCell_same w2 (Y.K i).nd 0 _ _ (.pointer (some ⟨t, 0, none⟩)) hrow
  obtain ⟨cnn, cs, m1⟩ := hw.rj.row
  obtain ⟨T, t1, t2⟩ := hw.rj.sts
  have r3 := hw.rs.kept k3 (nn _ (by omega)) (nn _ (by omega))
  have m3 := k3.row m1 (nn _ (by omega))
  have t3 := k3.row t1 (nn _ (by omega))
  refine ⟨k3.row (k2.row h.row (nr _ (by omega))) (nc _ (by omega)), cell_kept (cell_kept (h.ns i hi) k2 (nr Y.nb (by omega))) k3 (nc Y.nb (by omega)), ?_, ?_, r3.cells.2.1, ⟨cs, ?_⟩, fun d hd => ?_, k3.row (k2.row hN.drow (nr (Y.K i).dn (by omega))) (nc (Y.K i).dn (by omega)), own_kept (own_kept h.evs k2 (fun g hg => nr g (by have := h.ce g hg; omega))) k3 (fun g hg => nc g (by have := h.ce g hg; omega)), h.inv.ev, by omega, hCo cx (by omega), hCo cn (by omega), hCo e1 (by omega), p1, p2, p4, hCo e4 (by omega), fun g hg => hCo (h.ce g hg) (by omega), fun x hx => ?_⟩
  · show (w2.setCell ⟨(Y.K i).nd, 0, none⟩ (.pointer (some ⟨t, 0, none⟩))).cell? ⟨(Y.K i).nd, 0, none⟩ = _
    rw [cell_of_row _ _ _ _ _ _ hrow3]; rfl
  · show (w2.setCell ⟨(Y.K i).nd, 0, none⟩ (.pointer (some ⟨t, 0, none⟩))).cell? ⟨(Y.K i).nd, 3, none⟩ = _
    rw [cell_of_row _ _ _ _ _ _ hrow3]; rfl
  · show (w2.setCell ⟨(Y.K i).nd, 0, none⟩ (.pointer (some ⟨t, 0, none⟩))).cell? ⟨mm, 2, none⟩ = _
    rw [cell_of_row _ _ _ _ _ _ m3]; rfl
  · show (w2.setCell ⟨(Y.K i).nd, 0, none⟩ (.pointer (some ⟨t, 0, none⟩))).cell? ⟨gs, d * 3, none⟩ = _
    rw [cell_of_row _ _ _ _ _ _ t3]
    exact (t2 d hd).1
  · have hx2 := paint5_in hx
    have hb2 := hw.b2.size
    show x < (w2.setCell _ _).heap.size
    rw [show (w2.setCell ⟨(Y.K i).nd, 0, none⟩ (.pointer (some ⟨t, 0, none⟩))).heap.size = w2.heap.size by simp]
    rcases hx2 with q | q | q | q | q | q
    · have := h.lt x q; omega
    all_goals omega
theorem RW.wakeOut {w2 w4 : World} {l : Int} {t mm gn gs gb : Nat} (h : RW w0 w C Y aw cap zs V m) (hi : i < zs.length) (hl : (V.nd i).l = -2) (hw : WkI w w1 w2 (Y.K i).r i (V.nd i).B l t mm gn gs gb)
    (hn : NTo w0.heap.size (w2.setCell ⟨(Y.K i).nd, 0, none⟩ (.pointer (some ⟨t, 0, none⟩))) w4 (paint5 C i t mm gn gs gb) Y (wakeK (Y.K i) t mm gn gs gb) aw cap zs.length i (noteG (fun d => finB (stN (V.nd i) d).ph) (fun d => (dealL (V.nd i).B.data.toList d).2.ph) 6) (dealL (V.nd i).B.data.toList) (noteL V.evs i (fun d => finB (stN (V.nd i) d).ph) (fun d => (dealL (V.nd i).B.data.toList d).2.ph) 6)) (hm : m ≤ m') :
    ROut w0 w w4 C Y aw cap zs (upX V i) m' := by
  have n7 := h.n7.2
  have hN := h.nds i hi
  have hI := h.inv.nd i hi
  have e1 := hN.cn; have e2 := hN.cr; have e3 := hN.cl; have e4 := hN.cd
  have hsz := hw.k1.size
  have hlo := hw.lo
  have hlt := hw.lts
  have lnd := row_ltJ hN.row
  have lls := row_ltJ hN.lrow
  have ldn := row_ltJ hN.drow
  have lr : (Y.K i).r < w.heap.size := h.lt _ (by omega)
  have hC : ∀ x, x < w.heap.size → paint5 C i t mm gn gs gb x = C x := fun x hx => paint5_lt (b := w1.heap.size) hlo (by omega)
  obtain ⟨p1, p2, p3, p4, p5⟩ := paint5_at (C := C) (i := i) hw.ht hw.hb ⟨hw.rj.mn, hw.rj.ms, hw.rj.ns⟩
  rw [noteL_none (F := V.evs) (i := i) (g := fun d => finB (stN (V.nd i) d).ph) (p := fun d => (dealL (V.nd i).B.data.toList d).2.ph) (fun e _ => rfl)] at hn
  obtain ⟨C4, v, nt, k4, hC4⟩ := hn
  have hs3 : (w2.setCell ⟨(Y.K i).nd, 0, none⟩ (.pointer (some ⟨t, 0, none⟩))).heap.size = w2.heap.size := by simp
  have hb2 := hw.b2.size
  rw [hs3] at hC4
  have hC4w : ∀ x, x < w.heap.size → C4 x = C x := fun x hx => (hC4 x (by omega)).trans (hC x hx)
  have k2 : Kept (In1 (Y.K i).r) w w2 := hw.k1.trans (Kept.of_below hw.b2)
  have k3 : Kept (In1 (Y.K i).nd) w2 (w2.setCell ⟨(Y.K i).nd, 0, none⟩ (.pointer (some ⟨t, 0, none⟩))) := (Kept.refl _ w2).set1 0 _
  have nr : ∀ x, C x ≠ 100 * i + 7 → ¬ In1 (Y.K i).r x := fun x q hx => q (by rw [show x = _ from hx]; exact e2)
  have nc : ∀ x, C x ≠ 100 * i + 1 → ¬ In1 (Y.K i).nd x := fun x q hx => q (by rw [show x = _ from hx]; exact e1)
  have nn : ∀ x, x ≠ (Y.K i).nd → ¬ In1 (Y.K i).nd x := fun x q hx => q hx
  have n4 : ∀ x, paint5 C i t mm gn gs gb x ≠ 1001 → paint5 C i t mm gn gs gb x ≠ 1006 → paint5 C i t mm gn gs gb x ≠ 100 * i + 9 → ¬ InN (paint5 C i t mm gn gs gb) i x := fun x q1 q2 q3 hx => by
    rcases hx with q | q | q <;> omega
  have kS : Kept (fun x => C x = 100 * i + 1 ∨ C x = 100 * i + 7 ∨ C x = 1001 ∨ C x = 1006 ∨ C x = 100 * i + 9) w w4 := by
    have a1 : Kept (fun x => C x = 100 * i + 1 ∨ C x = 100 * i + 7 ∨ C x = 1001 ∨ C x = 1006 ∨ C x = 100 * i + 9) w (w2.setCell ⟨(Y.K i).nd, 0, none⟩ (.pointer (some ⟨t, 0, none⟩))) := (k2.mono (fun x hx => by rw [show x = _ from hx]; exact .inr (.inl e2))).setCell (.inl e1) _
    refine ⟨k4.os.trans a1.os, k4.tape.trans a1.tape, k4.output.trans a1.output, Nat.le_trans a1.size k4.size, fun y hy hn => ?_⟩
    refine (k4.block y (Nat.lt_of_lt_of_le hy a1.size) (fun q => hn ?_)).trans (a1.block y hy hn)
    unfold InN at q
    rw [hC y hy] at q
    rcases q with q | q | q
    · exact .inr (.inr (.inl q))
    · exact .inr (.inr (.inr (.inl q)))
    · exact .inr (.inr (.inr (.inr q)))
  have c1 := hC _ lnd; have c2 := hC _ lr; have c3 := hC _ lls; have c4 := hC _ ldn
  have hrow : w2.heap[(Y.K i).nd]? = some (.cells (rndC (Y.K i) (V.nd i)).toArray 105 (0, 0)) := k2.row hN.row (nr _ (by omega))
  have hrow3 := heap_setCell_same w2 (Y.K i).nd 0 _ _ (.pointer (some ⟨t, 0, none⟩)) hrow
  have hrow4 := k4.row hrow3 (n4 _ (by omega) (by omega) (by omega))
  have hrp : RP w4 (Y.K i).r (V.nd i).B false l false := ((hw.rp.kept (S := fun _ => False) (Kept.of_below hw.b2) (fun x => x)).kept k3 (nc _ (by omega))).kept k4 (n4 _ (by omega) (by omega) (by omega))
  have hrj : RJ w4 mm gn gs (Y.K i).r (dealL (V.nd i).B.data.toList) false := (hw.rj.kept k3 (nn _ (by omega)) (nn _ (by omega)) (nn _ (by omega))).kept k4 (n4 _ (by omega) (by omega) (by omega)) (n4 _ (by omega) (by omega) (by omega)) (n4 _ (by omega) (by omega) (by omega))
  have hrs : RSt w4 t mm gb (i : Int) (fun _ => false) := (hw.rs.kept k3 (nn _ (by omega)) (nn _ (by omega))).kept k4 (n4 _ (by omega) (by omega) (by omega)) (n4 _ (by omega) (by omega) (by omega))
  have hlr := k4.row (k3.row (k2.row hN.lrow (nr _ (by omega))) (nc _ (by omega))) (n4 _ (by omega) (by omega) (by omega))
  have hno : ∀ d, (V.nd i).ld d = none := fun d => RN.dark hI hl d
  have hsz5 := hI.sz
  have hRN : RN w4 C4 (wakeK (Y.K i) t mm gn gs gb) i zs.length cap aw (wakeN (V.nd i)) := by
    refine ⟨?_, ⟨false, l, false, hrp, .inr (.inl ⟨rfl, rfl, rfl⟩)⟩, fun _ => ⟨⟨hrj, ⟨false, l, false, hrp, .inr (.inl ⟨rfl, rfl, rfl⟩)⟩, by show (Y.K i).r ≠ mm; omega, by show (Y.K i).r ≠ gn; omega, by show (Y.K i).r ≠ gs; omega, by show (V.nd i).B.size ≤ 1000; omega, by show 216 ≤ (V.nd i).B.size; omega⟩, hrs⟩, ?_, ?_, fun d hd x hx => ?_, (hC4w _ lnd).trans e1, (hC4w _ lr).trans e2, (hC4w _ lls).trans e3, (hC4w _ ldn).trans e4, fun _ => ⟨(hC4 _ hlt.1).trans p1, (hC4 _ hlt.2.1).trans p2, (hC4 _ hlt.2.2.1).trans p3, (hC4 _ hlt.2.2.2.1).trans p4, (hC4 _ hlt.2.2.2.2).trans p5⟩, fun d hd x hx => ?_⟩
    · show w4.heap[(Y.K i).nd]? = _
      rw [hrow4]; rfl
    · show w4.heap[(Y.K i).ls]? = _
      rw [hlr]
      have q : ∀ d, rldV (wakeK (Y.K i) t mm gn gs gb) (wakeN (V.nd i)) d = rldV (Y.K i) (V.nd i) d := fun d => by
        rw [rldV_none (hno d), rldV_none (show (wakeN (V.nd i)).ld d = none from hno d)]
      simp only [q]
    · have := nt.drow
      unfold VR at this ⊢
      have g : ∀ d, d < 6 → noteG (fun d => finB (stN (V.nd i) d).ph) (fun d => (dealL (V.nd i).B.data.toList d).2.ph) 6 d = finB (stN (wakeN (V.nd i)) d).ph := fun d hd => noteG_six hd (fun q => q)
      show w4.heap[(wakeK (Y.K i) t mm gn gs gb).dn]? = _
      rw [this]
      simp only [g 0 (by omega), g 1 (by omega), g 2 (by omega), g 3 (by omega), g 4 (by omega), g 5 (by omega)]
    · have hx' : (V.nd i).ld d = some x := hx
      rw [hno d] at hx'; cases hx'
    · have hx' : (V.nd i).ld d = some x := hx
      rw [hno d] at hx'; cases hx'
  have hX : XI zs { setNd V i (wakeN (V.nd i)) with evs := V.evs } m' := h.inv.node ((hI.wake hl).mono hm) hm
  refine ⟨C4, _, h.both (N := wakeN (V.nd i)) (ev := v) (E := V.evs) kS hi (fun x hx => by omega) hC4w (fun x hx hc => nt.lt x hc) nt.row nt.evs nt.ce hRN rfl hm hX, rkey_K rfl, kS.mono (fun x hx => by show C x < 2000; omega), hC4w⟩
end
section
variable {w0 w w1 w' : World} {C C' : Nat → Nat} {K : RB} {Y : YB} {aw : Option Addr} {i n cap m m' : Nat} {zs : List Int} {N : PN} {V V' : PX}
set_option maxHeartbeats 2000000 in
set_option maxRecDepth 100000 in
theorem rwake_any (s : Int) (c : Nat) (h : RW w0 w C Y aw cap zs V m) (hc : cWake zs.length V s = c) :
    Calls Tryz.prog 50 #[.pointer (some ⟨Y.xb, 0, none⟩), .int .i64 s] w fun e w' => e = .returned (.int .i64 (c : Int)) ∧ ROut w0 w w' C Y aw cap zs (if c = 0 then upX V s.toNat else V) (m + 1) := by
  have H := hid h
  obtain ⟨-, c1, -, -, -⟩ := h.cells
  have n7 := h.n7
  by_cases hs : 0 ≤ s ∧ s < zs.length
  · obtain ⟨k, rfl⟩ := Int.eq_ofNat_of_zero_le hs.1
    have hk : k < zs.length := by omega
    have cn := h.ns k hk
    obtain ⟨d0, d1, -, -⟩ := (h.nds k hk).cells
    have HK := hid hk
    have hcu : (if upN (V.nd k) = true then 8 else 0) = c := by rw [← hc]; unfold cWake; rw [if_pos hs, Int.toNat_natCast]
    unfold rsV at d0
    obtain ⟨z, hz⟩ : ∃ z, Hid (zs.length = z) := ⟨_, rfl⟩
    rw [hz.out] at c1 hk n7
    have hkz : ¬ ((z : Int) ≤ (k : Int)) := by omega
    cases hu : upN (V.nd k) with
    | true =>
      rw [hu, if_pos rfl] at hcu d0
      subst hcu
      rw [if_neg (by decide)]
      clear h hs hc hu
      go_enter Tryz.func50, Tryz.ntmps50
      go_wp2_with fail
      go_ret
      exact ⟨rfl, H.out.out (Below.refl _ _) (Nat.le_succ _)⟩
    | false =>
      rw [hu, if_neg (by decide)] at hcu d0
      subst hcu
      have hl : (V.nd k).l = -2 := by unfold upN at hu; simpa using hu
      have HL := hid hl
      obtain ⟨off, l', cuts, p1, p2⟩ := (h.nds k HK.out).pl
      have HOn := hid (rpon_any (Y.K k).r (V.nd k).B off cuts l' w p1)
      have HSz := hid (h.inv.nd k HK.out).sz
      have HCr := hid (And.intro (h.nds k HK.out).cn (h.nds k HK.out).cr)
      have HRow := hid (h.nds k HK.out).row
      clear h hs hc hu hl p1 p2
      go_enter Tryz.func50, Tryz.ntmps50
      go_wp2_with fail
      refine HOn.out.mono ?_
      rintro e w1 ⟨rfl, hp1, hk1⟩
      have hne : (Y.K k).nd ≠ (Y.K k).r := fun e => by have h1 := HCr.out.1; have h2 := HCr.out.2; rw [e] at h1; omega
      have d1' := keptC hk1 d1 hne
      have HNe := hid hne
      have HK1 := hid hk1
      have HP1 := hid hp1
      have HNew := hid (rsnew_rp (Y.K k).r (V.nd k).B false false l' (k : Int) w1 hp1 (by have := HSz.out; omega) (by have := HSz.out; omega))
      clear hp1 hk1 d1 d0 cn c1 hne
      go_wp2_with fail
      refine HNew.out.mono ?_
      rintro e w2 ⟨t, mm, gn, gs, gb, rfl, hrj, hrs, hb2, q1, q2, q3, q4, t1, t2, t3, t4, q5, g1, g2, g3⟩
      have HW : Hid (WkI w w1 w2 (Y.K k).r k (V.nd k).B l' t mm gn gs gb) := ⟨HK1.out, HP1.out, hrj, hrs, hb2, ⟨q5, q1, q2, q3, q4⟩, ⟨t1, t2, t3, t4⟩, ⟨g1, g2, g3⟩⟩
      have hr2 := (Kept.of_below (S := fun _ => False) hb2).row (HK1.out.row HRow.out HNe.out) (fun x => x)
      have e0 : w2.cell? ⟨(Y.K k).nd, 0, none⟩ = some (rsV (Y.K k) (V.nd k)) := by rw [cell_of_row _ _ _ _ _ _ hr2]; rfl
      have f0 : w2.frozen? ⟨(Y.K k).nd, 0, none⟩ = false := frozen_of_row _ _ _ _ _ hr2
      obtain ⟨W3, HW3⟩ : ∃ W3, Hid (w2.setCell ⟨(Y.K k).nd, 0, none⟩ (.pointer (some ⟨t, 0, none⟩)) = W3) := ⟨_, rfl⟩
      have hW3 := HW3.out
      have HNt : Hid (Calls Tryz.prog 113 #[.pointer (some ⟨Y.xb, 0, none⟩), .int .i64 (k : Int)] W3 fun e w' => e = .returned (.tuple #[]) ∧ NTo w0.heap.size W3 w' (paint5 C k t mm gn gs gb) Y (wakeK (Y.K k) t mm gn gs gb) aw cap zs.length k (noteG (fun d => finB (stN (V.nd k) d).ph) (fun d => (dealL (V.nd k).B.data.toList d).2.ph) 6) (dealL (V.nd k).B.data.toList) (noteL V.evs k (fun d => finB (stN (V.nd k) d).ph) (fun d => (dealL (V.nd k).B.data.toList d).2.ph) 6)) := by
        rw [← HW3.out]
        exact rnote_any (H.out.wakeNT HK.out HW.out) HK.out (by have a1 := H.out.bel.size; have a2 := HK1.out.size; have a3 := hb2.size; show w0.heap.size ≤ _; simp; omega)
      clear hrj hrs hb2 q1 q2 q3 q4 t1 t2 t3 t4 q5 g1 g2 g3 d1' hr2
      go_wp2_with fail
      refine HNt.out.mono ?_
      rintro e w4 ⟨rfl, hn4⟩
      have HN4 := hid hn4
      clear hn4
      go_wp2_with fail
      go_ret
      refine ⟨rfl, ?_⟩
      have := HN4.out
      rw [← HW3.out] at this
      exact H.out.wakeOut HK.out HL.out HW.out this (Nat.le_succ _)
  · have e : c = 2 := by rw [← hc]; unfold cWake; rw [if_neg hs]
    subst e
    rw [if_neg (by decide)]
    obtain ⟨z, hz⟩ : ∃ z, Hid (zs.length = z) := ⟨_, rfl⟩
    rw [hz.out] at c1 hs
    by_cases s0 : s < 0
    · clear h hs hc
      go_enter Tryz.func50, Tryz.ntmps50
      go_wp2_with fail
      go_ret
      exact ⟨rfl, H.out.out (Below.refl _ _) (Nat.le_succ _)⟩
    · have sz : (z : Int) ≤ s := by omega
      clear h hs hc
      go_enter Tryz.func50, Tryz.ntmps50
      go_wp2_with fail
      go_ret
      exact ⟨rfl, H.out.out (Below.refl _ _) (Nat.le_succ _)⟩
end
theorem rkey_nd {Y Y' : YB} (h : rkey Y' = rkey Y) (e : Nat) : (Y'.K e).nd = (Y.K e).nd := congrFun (congrArg Prod.snd h) e
theorem mod_small {n r : Int} (h0 : 0 ≤ r) (h1 : r < n) : r % n = r := Int.emod_eq_of_lt h0 h1
theorem mod_over {n r : Int} (h0 : n ≤ r) (h1 : r < 2 * n) : r % n = r - n := by
  have : r = (r - n) + n * 1 := by omega
  rw [this, Int.add_mul_emod_self_left, Int.emod_eq_of_lt (by omega) (by omega)]
  omega
def farI (n s : Nat) (a : Int) : Int := ((s : Int) + n - a % n) % n
theorem farI_bd {n s : Nat} {a : Int} (hn : 0 < n) : 0 ≤ farI n s a ∧ farI n s a < n := by
  unfold farI
  exact ⟨Int.emod_nonneg _ (by omega), Int.emod_lt_of_pos _ (by omega)⟩
theorem farI_is {n s : Nat} {a j : Int} (hn : s < n) (h0 : 0 ≤ j) (h1 : j ≤ farI n s a) : (a + j) % n = s ↔ j = farI n s a := by
  have hp : (0 : Int) < n := by omega
  have r0 := Int.emod_nonneg a (show (n : Int) ≠ 0 by omega)
  have r1 := Int.emod_lt_of_pos a hp
  obtain ⟨r, hr⟩ : ∃ r, a % n = r := ⟨_, rfl⟩
  have ea : (a + j) % n = (r + j) % n := by
    have : a + j = (r + j) + n * (a / n) := by have := Int.mul_ediv_add_emod a n; omega
    rw [this, Int.add_mul_emod_self_left]
  rw [ea]
  rw [hr] at r0 r1
  unfold farI at h1 ⊢
  rw [hr] at h1 ⊢
  by_cases g : r ≤ s
  · rw [mod_over (n := n) (r := (s : Int) + n - r) (by omega) (by omega)] at h1 ⊢
    rw [mod_small (by omega) (by omega)]
    omega
  · rw [mod_small (n := n) (r := (s : Int) + n - r) (by omega) (by omega)] at h1 ⊢
    by_cases k : r + j < n
    · rw [mod_small (by omega) k]; omega
    · rw [mod_over (by omega) (by omega)]; omega
theorem attemptX_far (n s : Nat) (a : Int) : attemptX n s a = a + 1 + farI n s (a + 1) := rfl
theorem rem_is {a n : Int} (h0 : 0 ≤ a) : a.tmod n = a % n := Int.tmod_eq_emod_of_nonneg h0
section
variable {w0 w w1 w' : World} {C C' : Nat → Nat} {K : RB} {Y : YB} {aw : Option Addr} {i n cap m m' : Nat} {zs : List Int} {N : PN} {V V' : PX}
theorem RN.way (h : RN w C K i n cap aw N) (hu : upN N = true) {d : Nat} (hd : d < 6) {h1 h2 h3 : Nat} (hs : stN N d = ⟨h1, h2, h3⟩) : w.cell? ⟨K.nd, 0, none⟩ = some (.pointer (some ⟨K.t, 0, none⟩)) ∧ w.cell? ⟨K.t, 1, none⟩ = some (.pointer (some ⟨K.m, 0, none⟩)) ∧ (∃ cs, w.cell? ⟨K.m, 2, none⟩ = some (.slice (some ⟨K.gs, 0, none⟩) 6 cs)) ∧ w.cell? ⟨K.gs, d * 3, none⟩ = some (.int .i64 (h1 : Int)) ∧ w.cell? ⟨K.gs, d * 3 + 1, none⟩ = some (.int .i64 (h2 : Int)) ∧ w.cell? ⟨K.gs, d * 3 + 2, none⟩ = some (.int .i64 (h3 : Int)) := by
  obtain ⟨d0, -, -, -⟩ := h.cells
  unfold rsV at d0
  rw [hu, if_pos rfl] at d0
  obtain ⟨u1, u2⟩ := h.up hu
  obtain ⟨cn, cs, -, -, j2, -⟩ := u1.cells
  obtain ⟨s1, s2, s3, -⟩ := u1.st hd
  have e : (dlN N d).2 = ⟨h1, h2, h3⟩ := hs
  rw [e] at s1 s2 s3
  exact ⟨d0, u2.cells.2.1, ⟨cs, j2⟩, s1, s2, s3⟩
end
structure Gh where
  acc : Nat → Nat → Prop
  val : Nat → Nat
  no : Nat → Prop
section
variable {zs : List Int} {V V' : PX} {m : Nat} {g g' : Gh}
theorem nd_at (V : PX) (i : Nat) (N : PN) : (setNd V i N).nd i = N := if_pos rfl
theorem nd_ne (V : PX) (i : Nat) (N : PN) {k : Nat} (h : k ≠ i) : (setNd V i N).nd k = V.nd k := if_neg h
end
section
variable {zs : List Int} {V V' : PX} {m : Nat} {g g' : Gh}
theorem XI.hear {i : Nat} {f : F9} (hX : XI zs V m) (hu : (V.nd i).l ≠ -2) (hF : FI zs.length f) (hm : m < 4000000000) (hi : i < zs.length) : XI zs (hearX V i f) (m + 1) := by
  have hh := hearN_hf (hX.nd i hi) hu hF hm
  refine ⟨hX.he, fun k hk => ?_, hX.fr, by have h1 : V.fly.length ≤ 1000 * m := hX.fl; show V.fly.length ≤ 1000 * (m + 1); omega, ?_⟩
  · show NI zs.length ((setNd V i (hearN (V.nd i) f)).nd k) (m + 1)
    by_cases e : k = i
    · subst e; rw [nd_at]; exact hh.ni
    · rw [nd_ne _ _ _ e]; exact (hX.nd k hk).mono (Nat.le_succ _)
  · show (noteE V.evs i f.d.toNat (stN (V.nd i) f.d.toNat).ph (stN (hearN (V.nd i) f) f.d.toNat).ph).length ≤ 500
    have := hX.ev
    unfold noteE
    split
    · rename_i hc
      rw [List.length_append, List.length_singleton]
      have := hc.2.2
      omega
    · exact this
theorem leadX_some {i d : Nat} {f : F9} {x : Int × PL} (hx : (V.nd i).ld d = some x) : leadX zs V i d f = setNd V i (setLd (V.nd i) d (x.1, (phear zs i d x.1 x.2 f).1)) ∧ leadO zs V i d f = outL i d x.1 zs.length (phear zs i d x.1 x.2 f).2 := by
  unfold leadX leadO
  rw [hx]
  exact ⟨rfl, rfl⟩
theorem leadX_none {i d : Nat} {f : F9} (hx : (V.nd i).ld d = none) : leadX zs V i d f = V ∧ leadO zs V i d f = [] := by
  unfold leadX leadO
  rw [hx]
  exact ⟨rfl, rfl⟩
theorem XI.lead {i d : Nat} {f : F9} (hX : XI zs V m) (hF : FI zs.length f) (hi : i < zs.length) (hd : d < 6) : XI zs (sendX (leadX zs V i d f) (leadO zs V i d f)) (m + 1) := by
  have n7 := (errW_zero hX.he).2.1
  cases hx : (V.nd i).ld d with
  | none =>
    rw [(leadX_none hx).1, (leadX_none hx).2, sendX_nil]
    exact hX.mono (Nat.le_succ _)
  | some x =>
    rw [(leadX_some hx).1, (leadX_some hx).2]
    obtain ⟨h1, h2, h3, h4, h5⟩ := (hX.nd i hi).ld d x hx
    have hp := hF.ok.2.2.2.2.2.2.1
    refine XI.send (hX.node ((hX.nd i hi).leadHear hx (phear_st h3) (phear_seen h4.1 h4.2 (by omega) (by omega)) (h5.hear n7)) (Nat.le_refl _)) (outL_fi hi n7 hd h2) ?_
    have := outL_le i d x.1 zs.length (phear zs i d x.1 x.2 f).2
    omega
theorem XI.try {s d : Nat} (hX : XI zs V m) (hs : s < zs.length) (hd : d < 6) (hu : (V.nd s).l ≠ -2) (hm : m < 1000000) : XI zs (tryX zs V s d (attemptX zs.length s (aboveN (V.nd s) d))) (m + 7) := by
  have n7 := (errW_zero hX.he).2.1
  have hbd := aboveN_bd (hX.nd s hs) hd
  have hat := attemptX_bd zs.length s (aboveN (V.nd s) d) (by omega)
  generalize attemptX zs.length s (aboveN (V.nd s) d) = a at hat
  by_cases hf : 1048576 < a
  · unfold tryX
    rw [if_pos hf]
    exact hX.mono (by omega)
  · have hF := electF_fi (a := a) hs n7 hd (by omega)
    have hh := hX.hear hu hF (by omega) hs
    rcases elect_ans (hX.nd s hs) hu hF (by omega) with ⟨u, -⟩ | ⟨u, f0, e⟩
    · unfold tryX
      rw [if_neg hf, if_pos u]
      exact hh.mono (by omega)
    · have hf0 : FI zs.length f0 := ansN_fi (hX.nd s hs) hu hF (by omega) rfl f0 (by rw [e]; exact List.mem_singleton.2 rfl)
      rw [← try_eq s d a f0 e hf u]
      have hu2 : ((hearX V s (electF s d a)).nd s).l ≠ -2 := by
        rw [hearX_nd]
        unfold upN at u
        simpa using u
      have h2 := hh.node (i := s) ((hh.nd s hs).putLead (d := d) (a := a) (P := P0) hu2 (by omega) (by decide) (by decide) (P0_w _)) (Nat.le_refl _)
      have h3 := XI.send h2 (electL_fi (a := a) hs n7 hd (by omega)).1 (electL_fi (a := a) hs n7 hd (by omega)).2
      exact (h3.lead hf0 hs hd).mono (by omega)
end
section
variable {w0 w w' : World} {C C' : Nat → Nat} {K : NB} {X : XB} {i m m' : Nat} {zs : List Int} {N : PN} {V V' : PX} {A : Nat → Addr}
theorem pkey_inj {a b a' b' : Nat} {l : Lit} (h1 : keyOf Tryz.prog 196 (pairV a b) = some l) (h2 : keyOf Tryz.prog 196 (pairV a' b') = some l) : a = a' ∧ b = b' := by
  have := plaw.inj h1 h2
  unfold pairV at this
  simp at this
  omega
theorem WD.linked {a b : Nat} {whole : Bool} (h : WD w0 w C X zs V m) (hk : Kept (In1 X.mb) w w') (hD : ∃ D : DataW Unit, w'.ownsMap Tryz.prog 196 unitElem X.mb (m + 1) D ∧ ∀ x y, x < 7 → y < 7 → ∀ l, keyOf Tryz.prog 196 (pairV x y) = some l → Maps.has D l = (linkX V a b whole).br x y) :
    WOut w0 w w' C X zs (linkX V a b whole) (m + 1) := by
  have n7 := h.n7.2
  have cx := h.cx; have cw := h.cw; have cn := h.cn; have cm := h.cm
  have hlow : ∀ x, In1 X.mb x → w0.heap.size ≤ x := fun x hx => by rw [show x = _ from hx]; exact h.low _ (by omega)
  have nS : ∀ x, C x ≠ 1004 → ¬ In1 X.mb x := fun x g hx => by rw [show x = X.mb from hx] at g; exact g cm
  refine ⟨C, X, ⟨hk.below h.bel.size hlow h.bel, hk.row h.row (nS _ (by omega)), fun e he => cell_kept (h.ws e he) hk (nS _ (by show C X.wb ≠ _; omega)), fun e he => cell_kept (h.ns e he) hk (nS _ (by show C X.nb ≠ _; omega)), fun e he => ((h.nds e he).kept hk (fun x _ hx => nS x (by omega)) hlow).mono (Nat.le_succ _), hD, h.fly.kept hk (fun g hg => nS g (by have := h.cf g hg; omega)), own_kept h.evs hk (fun g hg => nS g (by have := h.ce g hg; omega)), h.cx, h.cw, h.cn, h.cm, h.cf, h.ce, fun x hx => Nat.lt_of_lt_of_le (h.lt x hx) hk.size, h.low, ?_⟩, rfl, hk.mono (fun x hx => by rw [show x = _ from hx]; show C _ < 2000; omega), fun _ _ => rfl⟩
  exact ⟨h.inv.he, fun i hi => (h.inv.nd i hi).mono (Nat.le_succ _), h.inv.fr, by have := h.inv.fl; show V.fly.length ≤ _; omega, h.inv.ev⟩
theorem turned_kept {b : Nat} (h : w.mapTurned w' b) : Kept (In1 b) w w' := by
  obtain ⟨es, cl, es', cl', hb, rfl⟩ := h
  refine ⟨rfl, rfl, rfl, ?_, fun k hk hs => ?_⟩
  · show w.heap.size ≤ (w.heap.setIfInBounds b (.map es' cl')).size
    simp
  · show (w.heap.setIfInBounds b (.map es' cl'))[k]? = w.heap[k]?
    rw [Array.getElem?_setIfInBounds_ne (fun e => hs (show k = b from e.symm))]
theorem WD.breaks {a b : Nat} (h : WD w0 w C X zs V m) (hm : m < 1000000) (ha : a < 7) (hb : b < 7) :
    ∃ w4, (Instr.mapUpdate 78 (.map (some X.mb)) (pairV (min a b) (max a b)) (.agg #[])).run Tryz.prog w = .ok () w4 ∧ w4.cell? ⟨X.xb, 2, none⟩ = some (.map (some X.mb)) ∧ WOut w0 w w4 C X zs (linkX V a b false) (m + 1) := by
  obtain ⟨D, hD, hh⟩ := h.brk
  obtain ⟨l, hl⟩ := pkey_some (min a b) (max a b) (by omega) (by omega)
  obtain ⟨w4, hr, ho, ht⟩ := hD.store plaw Tryz.underlying78 (by unfold maxLen; omega) hl unitElem_mk
  refine ⟨w4, hr, cell_kept h.cells.2.2.1 (turned_kept ht) (fun e => by have h1 := h.cx; have h2 := h.cm; rw [show X.xb = X.mb from e] at h1; omega), h.linked (turned_kept ht) ⟨_, ho, fun x y hx hy l2 hl2 => ?_⟩⟩
  show _ = if x = min a b ∧ y = max a b then !false else V.br x y
  by_cases g : x = min a b ∧ y = max a b
  · rw [if_pos g]
    rw [g.1, g.2, hl] at hl2
    obtain rfl := Option.some.inj hl2
    exact Maps.has_put_same hD.isMap (plaw.key hl) _
  · rw [if_neg g, Maps.has_put_other (fun e => g ?_)]
    · exact hh x y hx hy l2 hl2
    · rw [e] at hl2
      exact pkey_inj hl2 hl
theorem WD.mends {a b : Nat} (h : WD w0 w C X zs V m) (ha : a < 7) (hb : b < 7) (ty : TypeId) :
    ∃ w4, (Builtin.delete_ #[78, 196] ty #[.map (some X.mb), pairV (min a b) (max a b)]).run Tryz.prog w = .ok (.tuple #[]) w4 ∧ w4.cell? ⟨X.xb, 2, none⟩ = some (.map (some X.mb)) ∧ WOut w0 w w4 C X zs (linkX V a b true) (m + 1) := by
  obtain ⟨D, hD, hh⟩ := h.brk
  obtain ⟨l, hl⟩ := pkey_some (min a b) (max a b) (by omega) (by omega)
  obtain ⟨w4, hr, ho, ht⟩ := hD.drop plaw Tryz.underlying78 hl ty
  refine ⟨w4, hr, cell_kept h.cells.2.2.1 (turned_kept ht) (fun e => by have h1 := h.cx; have h2 := h.cm; rw [show X.xb = X.mb from e] at h1; omega), h.linked (turned_kept ht) ⟨_, ho.mono (Nat.le_succ _), fun x y hx hy l2 hl2 => ?_⟩⟩
  show _ = if x = min a b ∧ y = max a b then !true else V.br x y
  by_cases g : x = min a b ∧ y = max a b
  · rw [if_pos g]
    rw [g.1, g.2, hl] at hl2
    obtain rfl := Option.some.inj hl2
    exact Maps.has_del_same
  · rw [if_neg g, Maps.has_del_other (fun e => g ?_)]
    · exact hh x y hx hy l2 hl2
    · rw [e] at hl2
      exact pkey_inj hl2 hl
set_option maxHeartbeats 1000000 in
set_option maxRecDepth 100000 in
theorem link_ok (a b : Nat) (whole : Bool) (h : WD w0 w C X zs V m) (ha : a < zs.length) (hb : b < zs.length) (hm : m < 1000000) :
    Calls Tryz.prog 55 #[.pointer (some ⟨X.xb, 0, none⟩), .int .i64 (a : Int), .int .i64 (b : Int), .bool whole] w fun e w' => e = .returned .nilIface ∧ WOut w0 w w' C X zs (linkX V a b whole) (m + 1) := by
  have H := hid h
  have n7 := h.n7
  obtain ⟨-, -, c2, -, -⟩ := h.cells
  have HA := hid (has_is (a : Int) true h (decide_eq_true (by omega)))
  have HB := hid (has_is (b : Int) true h (decide_eq_true (by omega)))
  have h7 : a < 7 ∧ b < 7 := by omega
  clear h
  cases whole with
  | true =>
    have HM : Hid (∀ w3, Below w.heap.size w w3 → ∃ w4, (Builtin.delete_ #[78, 196] 0 #[.map (some X.mb), pairV (min a b) (max a b)]).run Tryz.prog w3 = .ok (.tuple #[]) w4 ∧ w4.cell? ⟨X.xb, 2, none⟩ = some (.map (some X.mb)) ∧ WOut w0 w w4 C X zs (linkX V a b true) (m + 1)) := by
      intro w3 hb3
      obtain ⟨w4, h1, h0, h2⟩ := (H.out.later hb3).mends h7.1 h7.2 0
      exact ⟨w4, h1, h0, WOut.step (C1 := C) (X1 := X) rfl (Kept.of_below hb3) (fun _ _ => rfl) h2⟩
    go_enter Tryz.func55, Tryz.ntmps55
    go_wp2_with (first | (go_at_call 118; (with_reducible refine HA.out.mono ?_); rintro e w1 ⟨rfl, hx⟩; subst w1) | (go_at_call 118; (with_reducible refine HB.out.mono ?_); rintro e w1 ⟨rfl, hx⟩; subst w1))
    go_region_held3 (fun V => V.cell? ⟨X.xb, 2, none⟩ = some (.map (some X.mb))) (go_keep) (first | (go_at_call 119; (with_reducible refine (between_p a b _).mono ?_); rintro e w3 ⟨rfl, hb3⟩; have q0 := cell_later hb3 c2; obtain ⟨w4, hr4, q4, ho4⟩ := HM.out w3 ((Below.refl _ _).drew.trans hb3); have HO4 := hid ho4; clear hb3 ho4))
    all_goals go_wp2_with fail
    all_goals go_ret
    all_goals exact ⟨rfl, HO4.out⟩
  | false =>
    have HM : Hid (∀ w3, Below w.heap.size w w3 → ∃ w4, (Instr.mapUpdate 78 (.map (some X.mb)) (pairV (min a b) (max a b)) (.agg #[])).run Tryz.prog w3 = .ok () w4 ∧ w4.cell? ⟨X.xb, 2, none⟩ = some (.map (some X.mb)) ∧ WOut w0 w w4 C X zs (linkX V a b false) (m + 1)) := by
      intro w3 hb3
      obtain ⟨w4, h1, h0, h2⟩ := (H.out.later hb3).breaks hm h7.1 h7.2
      exact ⟨w4, h1, h0, WOut.step (C1 := C) (X1 := X) rfl (Kept.of_below hb3) (fun _ _ => rfl) h2⟩
    go_enter Tryz.func55, Tryz.ntmps55
    go_wp2_with (first | (go_at_call 118; (with_reducible refine HA.out.mono ?_); rintro e w1 ⟨rfl, hx⟩; subst w1) | (go_at_call 118; (with_reducible refine HB.out.mono ?_); rintro e w1 ⟨rfl, hx⟩; subst w1))
    go_region_held3 (fun V => V.cell? ⟨X.xb, 2, none⟩ = some (.map (some X.mb))) (go_keep) (first | (go_at_call 119; (with_reducible refine (between_p a b _).mono ?_); rintro e w3 ⟨rfl, hb3⟩; have q0 := cell_later hb3 c2; obtain ⟨w4, hr4, q4, ho4⟩ := HM.out w3 ((Below.refl _ _).drew.trans hb3); have HO4 := hid ho4; clear hb3 ho4))
    all_goals go_wp2_with fail
    all_goals go_ret
    all_goals exact ⟨rfl, HO4.out⟩
set_option maxRecDepth 100000 in
theorem link_no (a b : Int) (whole : Bool) (h : WD w0 w C X zs V m) (hE : Held9 w0 A) (hs : ¬ ((0 ≤ a ∧ a < zs.length) ∧ 0 ≤ b ∧ b < zs.length)) :
    Calls Tryz.prog 55 #[.pointer (some ⟨X.xb, 0, none⟩), .int .i64 a, .int .i64 b, .bool whole] w fun e w' => e = .returned (ev A 2) ∧ w' = w := by
  have g1 : w.cell? ⟨0, 0, none⟩ = some (.iface 342 (.pointer (some (A 1)))) := (h.held hE).var 1 (by decide)
  have HA := hid (fun x => has_is a x h)
  have HB := hid (fun x => has_is b x h)
  clear h
  by_cases ha : 0 ≤ a ∧ a < zs.length
  · have hb : ¬ (0 ≤ b ∧ b < zs.length) := fun g => hs ⟨ha, g⟩
    have HA1 := hid (HA.out true (decide_eq_true ha))
    have HB1 := hid (HB.out false (decide_eq_false hb))
    clear HA HB ha hb hs
    go_enter Tryz.func55, Tryz.ntmps55
    go_wp2_with (first | (go_at_call 118; (with_reducible refine HA1.out.mono ?_); rintro e w1 ⟨rfl, hx⟩; subst w1) | (go_at_call 118; (with_reducible refine HB1.out.mono ?_); rintro e w1 ⟨rfl, hx⟩; subst w1))
    go_ret
    exact ⟨rfl, rfl⟩
  · have HA1 := hid (HA.out false (decide_eq_false ha))
    clear HA HB ha hs
    go_enter Tryz.func55, Tryz.ntmps55
    go_wp2_with (first | (go_at_call 118; (with_reducible refine HA1.out.mono ?_); rintro e w1 ⟨rfl, hx⟩; subst w1))
    go_ret
    exact ⟨rfl, rfl⟩
end
section
variable {w0 w : World} {C : Nat → Nat} {X : XB} {m : Nat} {zs : List Int} {V : PX} {A : Nat → Addr}
theorem cUp_le {n : Nat} {s : Int} : cUp n V s ≤ 9 := by
  unfold cUp
  split
  · split <;> decide
  · decide
end
end Go.Proofs.YtbaamegnmeohoacGreatDoor
