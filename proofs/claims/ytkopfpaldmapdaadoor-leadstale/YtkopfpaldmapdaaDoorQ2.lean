/-
  THE PROGRAM's LEAD: decide, prepare, hasEnough, see, waitsFor.
-/
import Derived.Test.YtkopfpaldmapdaaDoorQ1
import Derived.Test.YtkopfpaldmapdaaDoorTO
namespace Go.Proofs.YtkopfpaldmapdaaDoor
open Go.RowKit

theorem gW_lt {w : World} {A : Nat → Addr} (h : Held3 w A) (i : Nat) : gW i < w.heap.size := by
  match i with
  | 0 => exact cell_lt (h 3 (by omega) (by omega))
  | 1 => exact cell_lt (h 1 (by omega) (by omega))
  | 2 => exact cell_lt (h 2 (by omega) (by omega))
  | n + 3 => exact cell_lt (h 3 (by omega) (by omega))
theorem Held3.kept {S : Nat → Prop} {w w' : World} {A : Nat → Addr} (h : Held3 w A) (k : Kept S w w') (hS : ∀ i, S i → ∀ j, gW j < i) : Held3 w' A := fun i h1 h3 => by
  have := h i h1 h3
  have hb : gW i < w.heap.size := cell_lt this
  unfold World.cell? at this ⊢
  rw [show w'.heap[(⟨gW i, 0, none⟩ : Addr).block]? = w.heap[(⟨gW i, 0, none⟩ : Addr).block]? from k.block _ hb (fun hs => Nat.lt_irrefl _ (hS (gW i) hs i))]
  exact this
section
variable {w : World} {lb b cap id : Nat} {deal att : Int} {zs : List Int} {P : PL}
set_option maxRecDepth 100000 in
theorem lddecide_any (p : Int) (h : LD w lb b cap id deal att zs P) (hn : zs.length ≤ 7) :
    Calls Tryd.prog 82 #[.pointer (some ⟨lb, 0, none⟩), .int .i64 p] w fun e w' => ∃ v, e = .returned v ∧ FrB w.heap.size w' v (outL id deal att zs.length (decP P p).2) ∧ LD w' lb b cap id deal att zs (decP P p).1 ∧ Kept (In1 lb) w w' := by
  have z4 := h.fz 4
  have c4 := h.cells.2.2.2.2.1
  have HX := hid (h.setSt 2)
  have HK : Hid (Kept (In1 lb) w (w.setCell ⟨lb, 4, none⟩ (.string (stP 2)))) := (Kept.refl _ _).set1 4 _
  have hlb : lb < w.heap.size := row_ltJ h.row
  clear h
  rw [stP2] at HX HK
  go_enter Tryd.func82, Tryd.ntmps82
  go_wp2_with fail
  refine (ldtoAll_any lb b cap id deal att zs _ 7 p _ HX.out hn).mono ?_
  rintro e w1 ⟨v, rfl, ho, hb⟩
  have HV := hid (ho.mono HK.out.size)
  have HR := hid (HX.out.later hb)
  have HK2 := hid (HK.out.trans (Kept.of_below hb))
  clear ho hb
  go_wp2_with fail
  go_ret
  exact ⟨_, rfl, HV.out, HR.out, HK2.out⟩
set_option maxRecDepth 100000 in
theorem ldprepare_any (p : Int) (h : LD w lb b cap id deal att zs P) (hn : zs.length ≤ 7) :
    Calls Tryd.prog 83 #[.pointer (some ⟨lb, 0, none⟩), .int .i64 p] w fun e w' => ∃ v, e = .returned v ∧ FrB w.heap.size w' v (outL id deal att zs.length (preP P p).2) ∧ LD w' lb b cap id deal att zs (preP P p).1 ∧ Kept (In1 lb) w w' := by
  have z4 := h.fz 4
  have z5 := h.fz 5
  have z27 := h.fz 27
  obtain ⟨c0, c1, c2, c3, c4, c5, c27, c28, c29⟩ := h.cells
  have HX := hid (((h.setSt 1).setPrep p).setAns 0 (Int.le_refl _) (Int.pow_pos (by decide)))
  have HK : Hid (Kept (In1 lb) w (((w.setCell ⟨lb, 4, none⟩ (.string (stP 1))).setCell ⟨lb, 27, none⟩ (.int .i64 p)).setCell ⟨lb, 5, none⟩ (.int .i64 0))) := (((Kept.refl _ _).set1 4 _).set1 27 _).set1 5 _
  have hlb : lb < w.heap.size := row_ltJ h.row
  clear h
  rw [stP1] at HX HK
  go_enter Tryd.func83, Tryd.ntmps83
  go_wp2_with fail
  refine (ldtoAll_any lb b cap id deal att zs _ 5 p _ HX.out hn).mono ?_
  rintro e w1 ⟨v, rfl, ho, hb⟩
  have HV := hid (ho.mono HK.out.size)
  have HR := hid (HX.out.later hb)
  have HK2 := hid (HK.out.trans (Kept.of_below hb))
  clear ho hb
  go_wp2_with fail
  go_ret
  exact ⟨_, rfl, HV.out, HR.out, HK2.out⟩
theorem enough_ok_is (A : Nat → Addr) (v : Value) (zs : List Int) (set : Int) (x : Bool) (w : World) (hv : IsSl w v zs) (hE : Held3 w A) (hc : errS zs set = 0) (hx : enoughB zs set = x) :
    Calls Tryd.prog 103 #[v, .int .i64 set] w fun e w' => e = .returned (.tuple #[.bool x, .nilIface]) ∧ Below w.heap.size w w' := by
  subst hx; exact enough_ok A v zs set w hv hE hc
set_option maxRecDepth 100000 in
theorem ldenough_is (A : Nat → Addr) (x : Bool) (h : LD w lb b cap id deal att zs P) (he : errW zs = 0) (hE : Held3 w A) (hx : enoughB zs P.ans = x) :
    Calls Tryd.prog 84 #[.pointer (some ⟨lb, 0, none⟩)] w fun e w' => e = .returned (.bool x) ∧ Below w.heap.size w w' := by
  obtain ⟨h1, h2, h3, h4⟩ := errW_zero he
  obtain ⟨c0, c1, c2, c3, c4, c5, c27, c28, c29⟩ := h.cells
  have HS := hid (h.sl h2)
  have HC : Hid (errS zs P.ans = 0) := errS_mk he h.pw.lo h.pw.hi
  have HE := hid hE
  have HX := hid hx
  clear h h1 h3 h4 hE he hx
  go_enter Tryd.func84, Tryd.ntmps84
  go_wp2_with fail
  have HD : Hid (Below w.heap.size w w.drew) := (Below.refl _ _).drew
  have HS1 := hid (HS.out.later HD.out)
  have HE1 := hid (HE.out.later HD.out)
  go_region_held3 (fun w' => w'.cell? ⟨lb, 3, none⟩ = some (.slice (some ⟨b, 0, none⟩) zs.length cap) ∧ w'.cell? ⟨lb, 5, none⟩ = some (.int .i64 P.ans)) (go_keep) (first | (go_at_call 103; (with_reducible refine (enough_ok_is A _ zs P.ans x _ HS1.out HE1.out HC.out HX.out).mono ?_); rintro e w1 ⟨rfl, hb⟩; have HB := hid (HD.out.trans hb); have hc3 := cell_later hb c3; have hc5 := cell_later hb c5; clear hb))
  all_goals cases x
  all_goals go_wp2_with fail
  all_goals go_ret
  all_goals exact ⟨rfl, HB.out⟩
set_option maxRecDepth 100000 in
theorem ldsee_any (p : Int) (h : LD w lb b cap id deal att zs P) :
    Calls Tryd.prog 53 #[.pointer (some ⟨lb, 0, none⟩), .int .i64 p] w fun e w' => e = .returned (.tuple #[]) ∧ LD w' lb b cap id deal att zs (seeP P p) ∧ Kept (In1 lb) w w' := by
  have z28 := h.fz 28
  have z29 := h.fz 29
  obtain ⟨c0, c1, c2, c3, c4, c5, c27, c28, c29⟩ := h.cells
  have HX := hid ((h.setSeen p).setHas true)
  have HK : Hid (Kept (In1 lb) w ((w.setCell ⟨lb, 28, none⟩ (.int .i64 p)).setCell ⟨lb, 29, none⟩ (.bool true))) := ((Kept.refl _ _).set1 28 _).set1 29 _
  have HP := hid h
  have hlb : lb < w.heap.size := row_ltJ h.row
  clear h
  obtain ⟨hv, HV⟩ : ∃ x, Hid (P.has = x) := ⟨_, rfl⟩
  rw [HV.out] at c29
  obtain ⟨sn, HSn⟩ : ∃ x, Hid (P.seen = x) := ⟨_, rfl⟩
  rw [HSn.out] at c28
  by_cases g : hv = false ∨ sn < p
  · have HQ : Hid (seeP P p = { P with seen := p, has := true }) := by unfold Hid seeP; rw [HV.out, HSn.out]; exact if_pos g
    rw [HQ.out]
    cases hv with
    | false =>
      go_enter Tryd.func53, Tryd.ntmps53
      go_wp2_with fail
      go_end0
      exact ⟨rfl, HX.out, HK.out⟩
    | true =>
      have g2 : sn < p := by
        rcases g with g | g
        · cases g
        · exact g
      go_enter Tryd.func53, Tryd.ntmps53
      go_wp2_with fail
      go_end0
      exact ⟨rfl, HX.out, HK.out⟩
  · have HQ : Hid (seeP P p = P) := by unfold Hid seeP; rw [HV.out, HSn.out]; exact if_neg g
    rw [HQ.out]
    have hv1 : hv = true := by
      cases hv with
      | true => rfl
      | false => exact absurd (Or.inl rfl) g
    have g2 : ¬ sn < p := fun x => g (.inr x)
    subst hv1
    clear g
    go_enter Tryd.func53, Tryd.ntmps53
    go_wp2_with fail
    go_end0
    exact ⟨rfl, HP.out, Kept.refl _ _⟩
end
end Go.Proofs.YtkopfpaldmapdaaDoor
