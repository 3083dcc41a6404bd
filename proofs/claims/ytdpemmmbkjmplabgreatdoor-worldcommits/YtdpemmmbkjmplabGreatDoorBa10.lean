/-
  WALKS of package world: Up.
  WALKS of package world: tellEnd.
  Start of a lead that tries.
  WALKS of package world: seen, attempt; lead.Try beyond the bound.
  WALKS of package world: try.
  WALKS of package world: Tick.
  slices.Insert of one frame: where there is room.
-/
import Derived.Test.YtdpemmmbkjmplabGreatDoorBa9
import Derived.Test.YtdpemmmbkjmplabGreatDoorBa7
import Derived.Test.YtdpemmmbkjmplabGreatDoorBa5
import Derived.Deep.RegionLaw
import Derived.Deep.CutBlock
import Derived.Laws.Externs
import Derived.Lib.Overlaps
namespace Go.Proofs.YtdpemmmbkjmplabGreatDoor
open Go.RowKit

section
variable {w0 w w' : World} {C C' : Nat → Nat} {K : NB} {X : XB} {i m m' : Nat} {zs : List Int} {N : PN} {V V' : PX} {A : Nat → Addr}
/-- Up again. -/
def wakeN (N : PN) : PN := { N with l := -1, over := false, R := fun _ => false }
theorem wakeN_st (N : PN) (d : Nat) : stN (wakeN N) d = stN N d := rfl
theorem NI.wake {n : Nat} (h : NI n N m) (hl : N.l = -2) : NI n (wakeN N) m :=
  ⟨h.gd, h.nm, h.sz, fun _ => rfl, by show (-2 : Int) ≤ -1; omega, by show (-1 : Int) ≤ _; omega, fun d x hx => by have := (h.ld d x hx).1; exact (this hl).elim⟩
/-- A site that was opened now is put into its place. -/
theorem WD.wake {w1 w2 : World} {s' j' mb' : Nat} (h : WD w0 w C X zs V m) (hi : i < zs.length) (hl : (V.nd i).l = -2) (hp : Pl w1 (X.K i).p (X.K i).q (V.nd i).B (-1)) (hk : Kept (In2 (X.K i).p (X.K i).q) w w1) (hj : JR w2 j' (X.K i).p (dealL (V.nd i).B.data.toList) false) (hs : SR w2 s' j' mb' i (fun _ => false) 0) (hb : Below w1.heap.size w1 w2) (hj0 : w1.heap.size ≤ j') (hjm : j' < mb') (hms : mb' < s') :
    ∃ C' X', WD w0 (w2.setCell ⟨(X.K i).nd, 0, none⟩ (.pointer (some ⟨s', 0, none⟩))) C' X' zs (setNd V i (wakeN (V.nd i))) m ∧ key X' = key X ∧ Kept (OwnX C) w (w2.setCell ⟨(X.K i).nd, 0, none⟩ (.pointer (some ⟨s', 0, none⟩))) ∧ (∀ x, x < w.heap.size → C' x = C x) ∧ X'.K i = { X.K i with s := s', j := j', mb := mb' } := by
  have n7 := h.n7.2
  have hN := h.nds i hi
  have e1 := hN.cs; have e2 := hN.cj; have e3 := hN.cm; have e4 := hN.cp; have e5 := hN.cq; have e6 := hN.cn
  have hsz := hk.size
  have hslt := hs.lts
  obtain ⟨l1, l2, l3, l4, l5⟩ := hN.sp.lts
  have lnd := row_ltJ hN.row
  have hw0 := h.bel.size
  obtain ⟨C1, hC1⟩ : ∃ C1, C1 = paint (paint (paint C s' (100 * i + 2)) j' (100 * i + 3)) mb' (100 * i + 4) := ⟨_, rfl⟩
  have hC : ∀ x, x < w.heap.size → C1 x = C x := fun x hx => by rw [hC1, paint_ne (by omega), paint_ne (by omega), paint_ne (by omega)]
  have q1 : C1 s' = 100 * i + 2 := by rw [hC1, paint_ne (by omega), paint_ne (by omega), paint_at]
  have q2 : C1 j' = 100 * i + 3 := by rw [hC1, paint_ne (by omega), paint_at]
  have q3 : C1 mb' = 100 * i + 4 := by rw [hC1, paint_at]
  have hbel1 : Below w0.heap.size w0 w1 := hk.below hw0 (fun x hx => by rcases hx with rfl | rfl; exact h.low _ (by omega); exact h.low _ (by omega)) h.bel
  have hsp := sp_new (w0 := w0) hbel1 hp (h.low _ (by omega)) (h.low _ (by omega)) hj hs hb hj0 hjm hms (by decide) (by decide) hN.sp.jp.sz hN.sp.jp.s6
  have hkk : Kept (In2 (X.K i).p (X.K i).q) w w2 := hk.trans (Kept.of_below hb)
  have hset : Kept (In1 (X.K i).nd) w2 (w2.setCell ⟨(X.K i).nd, 0, none⟩ (.pointer (some ⟨s', 0, none⟩))) := (Kept.refl _ w2).set1 0 _
  have nnd : ∀ x, C1 x ≠ 100 * i + 1 → ¬ In1 (X.K i).nd x := fun x g hx => by rw [show x = (X.K i).nd from hx, hC _ lnd] at g; exact g e6
  have hK3 : Kept (fun x => C x / 100 = i) w (w2.setCell ⟨(X.K i).nd, 0, none⟩ (.pointer (some ⟨s', 0, none⟩))) := (hkk.mono hN.in2).setCell (show C (X.K i).nd / 100 = i by omega) _
  have hrow : w2.heap[(X.K i).nd]? = some (.cells (ndC (X.K i) (V.nd i)).toArray 84 (0, 0)) := hkk.row hN.row (fun e => by rcases e with e | e; (rw [e] at e6; omega); (rw [e] at e6; omega))
  have hno : ∀ d, (V.nd i).ld d = none := fun d => by
    cases hd : (V.nd i).ld d with
    | none => rfl
    | some x => exact (((h.inv.nd i hi).ld d x hd).1 hl).elim
  have hND : ND w0 (w2.setCell ⟨(X.K i).nd, 0, none⟩ (.pointer (some ⟨s', 0, none⟩))) C1 { X.K i with s := s', j := j', mb := mb' } i zs (wakeN (V.nd i)) m := by
    refine ⟨?_, ?_, fun d hd x hx => ?_, (hC _ lnd).trans e6, q1, q2, q3, (hC _ l4).trans e4, (hC _ l5).trans e5, fun d hd x hx => ?_, hN.n0⟩
    · show (w2.setCell ⟨(X.K i).nd, 0, none⟩ (.pointer (some ⟨s', 0, none⟩))).heap[(X.K i).nd]? = _
      rw [heap_setCell_same w2 (X.K i).nd 0 _ _ _ hrow]; rfl
    · have := (hsp.mono (Nat.zero_le m)).far hset (fun x hx => by rw [show x = _ from hx]; exact hN.n0) (fun x hx => nnd x (by rcases hx with rfl | rfl | rfl; omega; (rw [hC _ l4]; omega); (rw [hC _ l5]; omega))) (nnd _ (by omega)) (nnd _ (by omega))
      exact this
    · have hx' : (V.nd i).ld d = some x := hx
      rw [hno d] at hx'; cases hx'
    · have hx' : (V.nd i).ld d = some x := hx
      rw [hno d] at hx'; cases hx'
  refine ⟨C1, _, h.node hK3 hi (fun x hx => hx) hC (fun x hx hc => ?_) hND rfl (Nat.le_refl _) (h.inv.node ((h.inv.nd i hi).wake hl) (Nat.le_refl _)), key_K rfl, hK3.mono (fun x hx => by show C x < 2000; omega), hC, ?_⟩
  · rw [show (w2.setCell ⟨(X.K i).nd, 0, none⟩ (.pointer (some ⟨s', 0, none⟩))).heap.size = w2.heap.size by simp]
    by_cases g1 : x = s'
    · rw [g1]; exact hslt.1
    · by_cases g2 : x = j'
      · rw [g2]; omega
      · by_cases g3 : x = mb'
        · rw [g3]; omega
        · rw [hC1, paint_ne g3, paint_ne g2, paint_ne g1] at hc
          have := h.lt x hc
          omega
  · simp
/-- Its answer. -/
def cWake (n : Nat) (V : PX) (s : Int) : Nat := if 0 ≤ s ∧ s < n then (if upN (V.nd s.toNat) = true then 8 else 0) else 2
theorem setNd_st {d : Nat} : stN ((setNd V i (wakeN (V.nd i))).nd i) d = stN (V.nd i) d := by
  unfold setNd
  simp only [if_true]
  rfl
set_option maxHeartbeats 1000000 in
set_option maxRecDepth 100000 in
theorem wake_any (s : Int) (c : Nat) (h : WD w0 w C X zs V m) (hE : Held9 w0 A) (hc : cWake zs.length V s = c) :
    Calls Tryz.prog 31 #[.pointer (some ⟨X.xb, 0, none⟩), .int .i64 s] w fun e w' => e = .returned (ev A c) ∧ WOut w0 w w' C X zs (if c = 0 then upX V s.toNat else V) (m + 1) := by
  have H := hid h
  have HE := hid hE
  have HE1 := hid (h.held hE)
  have n7 := h.n7
  clear h hE
  subst hc
  by_cases hs : 0 ≤ s ∧ s < zs.length
  · obtain ⟨k, rfl⟩ := Int.eq_ofNat_of_zero_le hs.1
    have hk : k < zs.length := by omega
    have HK := hid hk
    obtain ⟨b, HB⟩ : ∃ b, Hid (((V.nd k).l != -2) = b) := ⟨_, rfl⟩
    have HU : Hid (upN (V.nd k) = b) := HB.out
    obtain ⟨c0, c1, c2⟩ := (H.out.nds k hk).way
    cases b with
    | true =>
      have e : cWake zs.length V k = 8 := by unfold cWake; rw [if_pos hs, Int.toNat_natCast, HU.out, if_pos rfl]
      rw [e]
      clear e hs hk
      have g7 : w.cell? ⟨0, 0, none⟩ = some (.iface 222 (.pointer (some (A 7)))) := HE1.out.var 7 (by decide)
      go_enter Tryz.func31, Tryz.ntmps31
      go_wp2_with fail
      refine (find_ok k H.out HK.out).mono ?_
      rintro e w1 ⟨rfl, hx⟩
      subst w1
      go_wp2_with fail
      refine (power_b _ _ _ _ true w (H.out.nds k HK.out).sp.jp.pl HB.out).mono ?_
      rintro e w1 ⟨rfl, hx⟩
      subst w1
      go_wp2_with fail
      go_ret
      exact ⟨rfl, H.out.out (Below.refl _ _) (Nat.le_succ _)⟩
    | false =>
      have e : cWake zs.length V k = 0 := by unfold cWake; rw [if_pos hs, Int.toNat_natCast, HU.out, if_neg (by decide)]
      rw [e]
      clear e hs hk
      have HL : Hid ((V.nd k).l = -2) := by have := HB.out; show (V.nd k).l = -2; simpa using this
      have HNS := hid (H.out.nds k HK.out)
      have HSZ := hid (H.out.inv.nd k HK.out).sz
      go_enter Tryz.func31, Tryz.ntmps31
      go_wp2_with fail
      refine (find_ok k H.out HK.out).mono ?_
      rintro e w1 ⟨rfl, hx⟩
      subst w1
      go_wp2_with fail
      refine (power_b _ _ _ _ false w HNS.out.sp.jp.pl HB.out).mono ?_
      rintro e w1 ⟨rfl, hx⟩
      subst w1
      go_wp2_with fail
      refine (pon_any _ _ _ _ w HNS.out.sp.jp.pl).mono ?_
      rintro e w1 ⟨rfl, hp, hk1⟩
      have HP := hid hp
      have HK1 := hid hk1
      obtain ⟨c0', c1', c2'⟩ := (HNS.out.power hk1 hp (by decide) (by decide)).way
      have HE2 := hid (HE.out.later (hk1.below H.out.bel.size (fun x hx => H.out.low _ (by have := HNS.out.in2 x hx; have := HK.out; omega)) H.out.bel))
      clear hp hk1
      go_wp2_with fail
      refine (snew_ok A (k : Int) _ _ _ (-1) w1 HP.out HE2.out.toE (by rw [HSZ.out]; decide) (by rw [HSZ.out]; decide) (by decide) (by omega) (by have := HK.out; omega)).mono ?_
      rintro e w2 ⟨s', j', mb', rfl, hj, hs2, hb2, hj0, hjm, hms⟩
      obtain ⟨C3, X3, q1, q2, q3, q4, q5⟩ := H.out.wake HK.out HL.out HP.out HK1.out hj hs2 hb2 hj0 hjm hms
      obtain ⟨W3, HW3⟩ : ∃ W3, Hid (w2.setCell ⟨(X.K k).nd, 0, none⟩ (.pointer (some ⟨s', 0, none⟩)) = W3) := ⟨_, rfl⟩
      have hW3 := HW3.out
      have HKW : Hid (Kept (In2 (X.K k).p (X.K k).q) w w2) := HK1.out.trans (Kept.of_below hb2)
      have hrow2 := HKW.out.row HNS.out.row (fun e => by have e6 := HNS.out.cn; have e4 := HNS.out.cp; have e5 := HNS.out.cq; rcases e with e | e; (rw [e] at e6; omega); (rw [e] at e6; omega))
      have d0 : w2.cell? ⟨(X.K k).nd, 0, none⟩ = some (.pointer (some ⟨(X.K k).s, 0, none⟩)) := by rw [cell_of_row _ _ _ _ _ _ hrow2]; rfl
      have z0 := frozen_of_row w2 (X.K k).nd 0 _ _ hrow2
      rw [hW3] at q1 q3
      have HQ := hid (And.intro q1 (And.intro q2 (And.intro q3 q4)))
      -- the site ahead, as it was
      have HJo : Hid (JR W3 (X.K k).j (X.K k).p (dlN (V.nd k)) (V.nd k).over) := by
        rw [← HW3.out]
        show (w2.setCell _ _).heap[(X.K k).j]? = _
        rw [heap_setCell_other _ _ _ _ (by show (X.K k).j ≠ (X.K k).nd; intro e; have e6 := HNS.out.cn; have e2 := HNS.out.cj; rw [e] at e2; omega)]
        exact HKW.out.row HNS.out.sp.jp.jr (fun e => by have e2 := HNS.out.cj; have e4 := HNS.out.cp; have e5 := HNS.out.cq; rcases e with e | e; (rw [e] at e2; omega); (rw [e] at e2; omega))
      have HSo : Hid (SR W3 (X.K k).s (X.K k).j (X.K k).mb k (V.nd k).R m) := by
        have e1 := HNS.out.cs; have e3 := HNS.out.cm; have e4 := HNS.out.cp; have e5 := HNS.out.cq; have e6 := HNS.out.cn
        have hk3 : Kept (fun x => x = (X.K k).nd ∨ In2 (X.K k).p (X.K k).q x) w W3 := by rw [← HW3.out]; exact (HKW.out.mono (fun x hx => .inr hx)).setCell (.inl rfl) _
        refine HNS.out.sp.sr.kept hk3 (fun e => ?_) (fun e => ?_)
        · rcases e with e | e | e
          · rw [e] at e1; omega
          · rw [e] at e1; omega
          · rw [e] at e1; omega
        · rcases e with e | e | e
          · rw [e] at e3; omega
          · rw [e] at e3; omega
          · rw [e] at e3; omega
      clear q1 q2 q3 q4 q5 hj hs2 hb2 hj0 hjm hms hrow2
      go_wp2_with fail
      go_loopw [79] (fun v wr => ∃ q : Nat, q ≤ 6 ∧ v = .int .i64 (q : Int) ∧ Below W3.heap.size W3 wr) (fun v _ => 6 - (intOf v).toNat)
      case atStart => exact ⟨0, Nat.zero_le _, rfl, Below.refl _ _⟩
      case round =>
        obtain ⟨q, hq, rfl, hb⟩ := hrel
        have HBr := hid hb
        have Hr := hid (HQ.out.1.later hb)
        have HJr := hid (HJo.out.later hb HJo.out.lt)
        have HSr := hid (HSo.out.later hb)
        clear hb
        by_cases hlt : q < 6
        · obtain ⟨⟨was, t2, t3⟩, HST⟩ : ∃ x, Hid ((dlN (V.nd k) q).2 = x) := ⟨_, rfl⟩
          have HS5 : Hid (stN ((setNd V k (wakeN (V.nd k))).nd k) q = ⟨was, t2, t3⟩) := setNd_st.trans HST.out
          have hph : ∀ w, (Instr.field 43 (.agg #[.int .i64 (was : Int), .int .i64 (t2 : Int), .int .i64 (t3 : Int)]) 0).run Tryz.prog w = .ok (.int .i64 (was : Int)) w := fun w => phase_of _ _ _ w
          go_wp2_with fail
          refine (known_ag q was t2 t3 HJr.out HSr.out hlt HST.out).mono ?_
          rintro e w5 ⟨rfl, hb5⟩
          have HB5 := hid (HBr.out.trans (hb5.mono HBr.out.size))
          have HNo := hid (note_not k q was was t2 t3 (Hr.out.later hb5) HK.out hlt HS5.out (fun h => h.1 rfl))
          rw [key_xb HQ.out.2.1] at HNo
          clear hb5
          go_wp2_with fail
          refine HNo.out.mono ?_
          rintro e w6 ⟨rfl, hb6⟩
          have HB6 := hid (HB5.out.trans (hb6.mono HB5.out.size))
          clear hb6
          go_wp2_with fail
          go_roundw
          case rel => exact ⟨q + 1, by omega, by go_num, HB6.out⟩
          case measure => simp [intOf]; omega
        · obtain rfl : q = 6 := by omega
          go_wp2_with fail
          go_ret
          refine ⟨rfl, ?_⟩
          exact ⟨_, _, Hr.out.mono (Nat.le_succ _), HQ.out.2.1, HQ.out.2.2.1.trans (Kept.of_below HBr.out), HQ.out.2.2.2⟩
  · have e : cWake zs.length V s = 2 := by unfold cWake; rw [if_neg hs]
    rw [e]
    have HS := hid hs
    clear e hs
    go_enter Tryz.func31, Tryz.ntmps31
    go_wp2_with fail
    refine (find_no s H.out HE.out HS.out).mono ?_
    rintro e w1 ⟨rfl, hb⟩
    have HB1 := hid hb
    clear hb
    go_wp2_with fail
    go_ret
    exact ⟨rfl, H.out.out HB1.out (Nat.le_succ _)⟩
end
end Go.Proofs.YtdpemmmbkjmplabGreatDoor
namespace Go.Proofs.YtdpemmmbkjmplabGreatDoor
open Go.RowKit

theorem step_append_fr1 {w : World} {ops : Array Oper} {o : Oper} {a : Act} {K : Act → World → Prop} {Q : Exit → Act → World → Prop} {E : Prop} (hgd : o.guard = none) (s x : Operand)
    (ho : o.op = .call { callee := .builtin .append, args := #[s, x], argTypes := #[34, 34] })
    (base n : Nat) (v : Value) (xs : List Value) (ad : Addr) (c : Nat) (F : F9) (hs : a.eval s = v) (hx : a.eval x = .slice (some ad) 1 c) (hown : w.ownsRow base 93 9 v n xs) (hu : ∀ j u, (f9L F)[j]? = some u → w.cell? (ad.add j) = some u) (hn : n ≤ 1000000000000) (hb : base ≤ w.heap.size)
    (h : ∀ ad' cap' w', w'.ownsRow base 93 9 (.slice ad' (n + 1) cap') (n + 1) (xs ++ f9L F) → w.grownBy w' v.ownBlock → ((Value.slice ad' (n + 1) cap').ownBlock = v.ownBlock ∨ (Value.slice ad' (n + 1) cap').ownBlock = some w.heap.size) → K (a.put o.dst (.slice ad' (n + 1) cap')) w') :
    if Region.wanted o (yielded ops a.tmps) = true then Oper.wp Tryz.prog o a w K Q else E := by
  have hw : Region.wanted o (yielded ops a.tmps) = true := by simp [Region.wanted, hgd]
  rw [if_pos hw]
  obtain ⟨i0, hi0, hz0, hz1, hz2⟩ := info_parts Tryz.infoFq
  obtain ⟨v', w', hr, h2, h3, -, h5⟩ := run_append_own_at (P := Tryz.prog) w base 34 o.type 93 i0 _ 9 72 Tryz.underlying34 hi0 hz0 hz1 hz2 rfl (by decide) v n xs hown ad 1 c (f9L F) rfl hu (f9_oneQ F) (by unfold maxLen; omega) (by omega) hb
  obtain ⟨ad', cap', rfl⟩ : ∃ ad' cap', v' = .slice ad' (n + 1) cap' := by
    rcases h2.2 with ⟨e, h0⟩ | ⟨g, cap, cur, e, -⟩
    · omega
    · exact ⟨_, _, e⟩
  unfold Oper.wp execOp
  simp only [ho, resolve, invoke, builtin, Sem.run_bind, Sem.run_pure, Result.andThen_ok, List.map_toArray, List.map_cons, List.map_nil, hs, hx, hr]
  exact h ad' cap' w' h2 h3 h5
theorem step_append_fr1F {w : World} {ops : Array Oper} {o : Oper} {a : Act} {K : Act → World → Prop} {Q : Exit → Act → World → Prop} {E : Prop} (hgd : o.guard = none) (s x : Operand)
    (ho : o.op = .call { callee := .builtin .append, args := #[s, x], argTypes := #[34, 34] })
    (base n : Nat) (v : Value) (M : List F9) (b off c : Nat) (F : F9) (hM : M.length = n) (hs : a.eval s = v) (hx : a.eval x = .slice (some ⟨b, off, none⟩) 1 c) (hown : OwnF w base v M) (hu : ∀ j u, (f9L F)[j]? = some u → w.cell? ((⟨b, off, none⟩ : Addr).add j) = some u) (hn : n < 1000000000000) (hb : base ≤ w.heap.size)
    (h : ∀ ad' cap' w', OwnF w' base (.slice ad' (n + 1) cap') (M ++ [F]) → w.grownBy w' v.ownBlock → ((Value.slice ad' (n + 1) cap').ownBlock = v.ownBlock ∨ (Value.slice ad' (n + 1) cap').ownBlock = some w.heap.size) → K (a.put o.dst (.slice ad' (n + 1) cap')) w') :
    if Region.wanted o (yielded ops a.tmps) = true then Oper.wp Tryz.prog o a w K Q else E := by
  have hw : Region.wanted o (yielded ops a.tmps) = true := by simp [Region.wanted, hgd]
  rw [if_pos hw]
  have hfr : IsFr w (.slice (some ⟨b, off, none⟩) 1 c) [F] := by
    refine ⟨_, c, rfl, fun i hi => ⟨b, off, rfl, fun j hj => ?_⟩⟩
    obtain rfl : i = 0 := by simpa using hi
    have h9 : (f9L F)[j]? = some ((f9L F)[j]'(by rw [f9L_length]; exact hj)) := List.getElem?_eq_getElem _
    have := hu j _ h9
    rw [addr_add] at this
    rw [Nat.zero_mul, Nat.add_zero, this, ← h9]
    rfl
  obtain ⟨v', w', hr, h2, h3, h5⟩ := run_append_frsF w o.type base v _ M [F] hown hfr (by show M.length + 1 ≤ _; omega) hb
  obtain ⟨ad', cap', rfl⟩ : ∃ ad' cap', v' = .slice ad' (n + 1) cap' := by
    obtain ⟨ad', cap', e⟩ := h2.form
    exact ⟨ad', cap', by rw [e, List.length_append, hM]; rfl⟩
  unfold Oper.wp execOp
  simp only [ho, resolve, invoke, builtin, Sem.run_bind, Sem.run_pure, Result.andThen_ok, List.map_toArray, List.map_cons, List.map_nil, hs, hx, hr]
  exact h ad' cap' w' h2 h3 h5
section
variable {w0 w w' : World} {C C' : Nat → Nat} {K : NB} {X : XB} {i m m' : Nat} {zs : List Int} {N : PN} {V V' : PX} {A : Nat → Addr}
theorem sendX_nil : sendX V [] = V := by unfold sendX; rw [List.append_nil]
theorem sendX_app (L M : List F9) : sendX (sendX V L) M = sendX V (L ++ M) := by unfold sendX; simp only [List.append_assoc]
theorem tell_step {W wr W2 w' : World} {C1 : Nat → Nat} {X1 : XB} {s d ph pr k : Nat} {F : F9} {v' : Value} (g1 : WD w0 wr C1 X1 zs (sendX V (toL s d 7 pr ph k)) (m + k)) (g2 : key X1 = key X) (g3 : Kept (OwnX C) W wr) (g4 : ∀ x, x < W.heap.size → C1 x = C x) (hb : Below wr.heap.size wr W2)
    (ho : OwnF w' w0.heap.size v' ((sendX V (toL s d 7 pr ph k)).fly ++ [F])) (hg : W2.grownBy w' X1.fv.ownBlock) (hw : v'.ownBlock = X1.fv.ownBlock ∨ v'.ownBlock = some W2.heap.size) (hs : s < zs.length) (hk : k < zs.length) (hn : zs.length ≤ 7) (hd : d < 6) (hp : ph ≤ 5) (hr : pr ≤ 1048576) (hF : F = ⟨s, k, d, 7, pr, false, ph, 0, 0⟩) :
    WOut w0 W (w'.setCell ⟨X.xb, 3, none⟩ v') C X zs (sendX V (toL s d 7 pr ph (k + 1))) (m + (k + 1)) := by
  have hFI : ∀ f, f ∈ [F] → FI zs.length f := fun f hf => by
    have hm2 : f ∈ toL s d 7 (pr : Int) (ph : Int) (k + 1) := by rw [toL, List.mem_append]; right; rw [← hF]; exact hf
    exact toL_fi hs hn hd (by decide) (by omega) (by omega) (k + 1) hk f hm2
  obtain ⟨C2, h1, h2, h3⟩ := (g1.later hb).sent (L := [F]) ho hg hw hFI (by show 1 ≤ 1000; decide)
  rw [key_xb g2] at h1 h2
  have e : sendX (sendX V (toL s d 7 pr ph k)) [F] = sendX V (toL s d 7 pr ph (k + 1)) := by rw [sendX_app, hF]; rfl
  rw [e] at h1
  refine WOut.step (C1 := C1) (X1 := X1) g2 g3 g4 ?_
  refine WOut.step (C1 := C1) (X1 := X1) rfl (Kept.of_below hb) (fun _ _ => rfl) ?_
  exact ⟨C2, _, h1, (by unfold key; exact Prod.ext (key_xb g2).symm rfl), h2, h3⟩
set_option maxHeartbeats 4000000 in
set_option maxRecDepth 100000 in
theorem tellEnd_any (s d ph pr pa : Nat) (h : WD w0 w C X zs V m) (hs : s < zs.length) (hd : d < 6) (hp : ph ≤ 5) (hr : pr ≤ 1048576) (hm : m < 1000000) :
    Calls Tryz.prog 84 #[.pointer (some ⟨X.xb, 0, none⟩), .int .i64 (s : Int), .int .i64 (d : Int), agS ph pr pa] w fun e w' => e = .returned (.tuple #[]) ∧ WOut w0 w w' C X zs (sendX V (toL s d 7 pr ph zs.length)) (m + 7) := by
  obtain ⟨W, HW⟩ : ∃ W, Hid (w.alloc (.cells #[.int .i64 (ph : Int), .int .i64 (pr : Int), .int .i64 (pa : Int)] 43) = W) := ⟨_, rfl⟩
  have HB : Hid (Below w.heap.size w W) := by rw [← HW.out]; exact (Below.refl _ _).alloc (Nat.le_refl _) _
  have HR : Hid (W.heap[w.heap.size]? = some (.cells #[.int .i64 (ph : Int), .int .i64 (pr : Int), .int .i64 (pa : Int)] 43 (0, 0))) := by rw [← HW.out]; exact heap_alloc_new w _
  have H0 := hid h
  have H := hid (h.later HB.out)
  obtain ⟨-, c1, -, -, -⟩ := H.out.cells
  have n7 := h.n7
  have HNW : Hid (2000 ≤ C w.heap.size) := by
    rcases Nat.lt_or_ge (C w.heap.size) 2000 with q | q
    · have := h.lt _ q; omega
    · exact q
  have HSS := hid hs
  obtain ⟨n, hn⟩ : ∃ n, Hid (zs.length = n) := ⟨_, rfl⟩
  rw [hn.out] at c1 n7 hs ⊢
  have hW := HW.out
  clear h
  go_enter Tryz.func84, Tryz.ntmps84
  go_wp2_with fail
  clear c1
  go_loopw [14] (fun v wr => ∃ k : Nat, k ≤ n ∧ v = .int .i64 (k : Int) ∧ WOut w0 W wr C X zs (sendX V (toL s d 7 pr ph k)) (m + k)) (fun v _ => n - (intOf v).toNat)
  case atStart => exact ⟨0, Nat.zero_le _, rfl, by show WOut w0 W W C X zs (sendX V []) m; rw [sendX_nil]; exact H.out.out (Below.refl _ _) (Nat.le_refl _)⟩
  case round =>
    obtain ⟨k, hk, rfl, C1, X1, g1, g2, g3, g4⟩ := hrel
    have HG := hid (And.intro g1 (And.intro g2 (And.intro g3 g4)))
    have HRr := hid (g3.row HR.out (fun e => by have h1 := HNW.out; have h2 : C w.heap.size < 2000 := e; omega))
    have b0 : wr.cell? ⟨w.heap.size, 0, none⟩ = some (.int .i64 (ph : Int)) := by rw [cell_of_row _ _ _ _ _ _ HRr.out]; rfl
    have b1 : wr.cell? ⟨w.heap.size, 1, none⟩ = some (.int .i64 (pr : Int)) := by rw [cell_of_row _ _ _ _ _ _ HRr.out]; rfl
    obtain ⟨-, -, -, c3, -⟩ := g1.cells
    obtain ⟨nf, hnf⟩ : ∃ nf, Hid ((sendX V (toL s d 7 pr ph k)).fly.length = nf) := ⟨_, rfl⟩
    obtain ⟨ad, cap, hv⟩ : ∃ ad cap, Hid (X1.fv = .slice ad nf cap) := by
      rw [← hnf.out]
      exact g1.fly.form
    have hnfb : nf < 1000000000000 := by rw [← hnf.out]; have := g1.inv.fl; omega
    rw [key_xb g2, hv.out] at c3
    have hb0 := g1.bel.size
    by_cases hlt : k < n
    · obtain ⟨F, HF⟩ : ∃ F : F9, Hid (F = ⟨s, k, d, 7, pr, false, ph, 0, 0⟩) := ⟨_, rfl⟩
      obtain ⟨W2, HW2⟩ : ∃ W2, Hid (wr.drew.alloc (.cells #[.int .i64 (s : Int), .int .i64 (k : Int), .int .i64 (d : Int), .int .i64 7, .int .i64 (pr : Int), .bool false, .int .i64 (ph : Int), .int .i64 0, .int .i64 0] 93) = W2) := ⟨_, rfl⟩
      have HB2 : Hid (Below wr.heap.size wr W2) := by rw [← HW2.out]; exact (Below.refl _ _).drew.alloc (Nat.le_refl _) _
      have H2 := hid (g1.later HB2.out)
      have HO : Hid (OwnF W2 w0.heap.size (.slice ad nf cap) (sendX V (toL s d 7 pr ph k)).fly) := by have := H2.out.fly; rw [hv.out] at this; exact this
      have HLit : Hid (∀ j u, (f9L F)[j]? = some u → W2.cell? ((⟨wr.heap.size, 0, none⟩ : Addr).add j) = some u) := by rw [← HW2.out, HF.out]; exact lit_cellsQ wr.drew 93 (f9L ⟨s, k, d, 7, pr, false, ph, 0, 0⟩)
      have hb2 : w0.heap.size ≤ W2.heap.size := H2.out.bel.size
      have HX : Hid (∀ w', W2.grownBy w' (Value.slice ad nf cap).ownBlock → w'.cell? ⟨X.xb, 3, none⟩ = some (.slice ad nf cap) ∧ w'.frozen? ⟨X.xb, 3, none⟩ = false) := by
        intro w' hg
        have hr := (grown_kept hg).row H2.out.row (fun e => by rw [← hv.out] at e; have h1 := H2.out.cf _ e; have h2 := H2.out.cx; omega)
        rw [key_xb HG.out.2.1] at hr
        exact ⟨by rw [cell_of_row _ _ _ _ _ _ hr, ← hv.out]; rfl, frozen_of_row _ _ _ _ _ hr⟩
      have hW2 := HW2.out
      have e3 := cell_later HB2.out c3
      have e0 := cell_later HB2.out b0
      have e1 := cell_later HB2.out b1
      clear g1 g2 g3 g4
      go_wp2_with fail
      go_region_law ((refine step_append_fr1F (by rfl) _ _ (by rfl) w0.heap.size nf (.slice ad nf cap) (sendX V (toL s d 7 pr ph k)).fly wr.heap.size 0 1 F hnf.out (by rfl) (by rfl) (by exact HO.out) (by exact HLit.out) hnfb hb2 ?_; intro ad' cap' w' hown hg ho; obtain ⟨c3', z3'⟩ := HX.out w' hg; have HS := hid (And.intro hown (And.intro hg ho)); clear hown hg ho))
      all_goals go_wp2_with fail
      all_goals go_roundw
      all_goals first | (simp [intOf]; omega) | skip
      all_goals refine ⟨k + 1, by omega, by go_num, ?_⟩
      all_goals rw [← hv.out] at HS
      all_goals rw [← hnf.out] at HS ⊢
      all_goals exact tell_step HG.out.1 HG.out.2.1 HG.out.2.2.1 HG.out.2.2.2 HB2.out HS.out.1 HS.out.2.1 HS.out.2.2 HSS.out (by rw [hn.out]; exact hlt) (by rw [hn.out]; exact n7.2) hd hp hr HF.out
    · obtain rfl : k = n := by omega
      clear g1 g2 g3 g4
      go_wp2_with fail
      go_end0
      refine ⟨rfl, ?_⟩
      exact ⟨C1, X1, HG.out.1.mono (by omega), HG.out.2.1, (Kept.of_below HB.out).trans HG.out.2.2.1, fun x hx => HG.out.2.2.2 x (Nat.lt_of_lt_of_le hx HB.out.size)⟩
end
end Go.Proofs.YtdpemmmbkjmplabGreatDoor
namespace Go.Proofs.YtdpemmmbkjmplabGreatDoor
open Go.RowKit

theorem own_form {w : World} {base n : Nat} {v : Value} {L : List F9} (h : w.ownsRow base 93 9 v L.length (frCells L)) (hn : L.length = n) (h0 : 0 < n) : ∃ g cap cur, v = .slice (some ⟨g, 0, none⟩) n cap ∧ base ≤ g ∧ w.heap[g]? = some (.cells cur 93 (0, 0)) ∧ n ≤ cap ∧ cap ≤ maxLen ∧ cur.size = cap * 9 ∧ cur.toList.take (n * 9) = frCells L := by
  subst hn
  rcases h.2 with ⟨-, h0'⟩ | ⟨g, cap, cur, h1, h2, h3, h4, h5, h6, h7⟩
  · omega
  · exact ⟨g, cap, cur, h1, h2, h3, h4, h5, h6, h7⟩
theorem del_frs1 (base g cap k n : Nat) (cur : Array Value) (L : List F9) (w : World) (hg : w.heap[g]? = some (.cells cur 93 (0, 0))) (hb : base ≤ g) (hn : L.length = n) (h1 : n ≤ cap) (h2 : cap ≤ maxLen) (hs : cur.size = cap * 9) (ht : cur.toList.take (n * 9) = frCells L) (hk : k < n) :
    Calls Tryz.prog 80 #[.slice (some ⟨g, 0, none⟩) n cap, .int .i64 (k : Int), .int .i64 ((k : Int) + 1)] w fun e w' => e = .returned (.slice (some ⟨g, 0, none⟩) (n - 1) cap) ∧ w'.ownsRow base 93 9 (.slice (some ⟨g, 0, none⟩) (n - 1) cap) (n - 1) (frCells (L.eraseIdx k)) ∧ Kept (In1 g) w w' := by
  have h := del_frs base g cap k (k + 1) n cur L w hg hb hn h1 h2 hs ht hk rfl
  rw [show ((k + 1 : Nat) : Int) = (k : Int) + 1 by omega] at h
  exact h
theorem wrap7 {k : Nat} (h : k < 7) : IntKind.i64.wrap ((k : Int) + 1) = (k : Int) + 1 := by
  have : k = 0 ∨ k = 1 ∨ k = 2 ∨ k = 3 ∨ k = 4 ∨ k = 5 ∨ k = 6 := by omega
  rcases this with rfl | rfl | rfl | rfl | rfl | rfl | rfl <;> decide
/-- All but itself. -/
def electsL (s : Nat) (d a : Int) (n : Nat) : List F9 := (toL s d 3 a 0 n).eraseIdx s
set_option maxHeartbeats 1000000 in
set_option maxRecDepth 100000 in
theorem ldStart1_any {w : World} {lb b cap id : Nat} {deal att : Int} {zs : List Int} {P : PL} (hn : zs.length ≤ 7) (hi : id < zs.length) (ha : att ≠ 0) (h : LD w lb b cap id deal att zs P) :
    Calls Tryz.prog 46 #[.pointer (some ⟨lb, 0, none⟩)] w fun e w' => ∃ v, e = .returned v ∧ FrB w.heap.size w' v (electsL id deal att zs.length) ∧ Below w.heap.size w w' := by
  obtain ⟨c0, c1, c2, -⟩ := h.cells
  have H := hid h
  have hlb := row_ltJ h.row
  have ha' : (att == 0) = false := beq_eq_false_iff_ne.2 ha
  obtain ⟨L, HL⟩ : ∃ L, Hid (toL id deal 3 att 0 zs.length = L) := ⟨_, rfl⟩
  obtain ⟨n, hnn⟩ : ∃ n, Hid (zs.length = n) := ⟨_, rfl⟩
  have HLen : Hid (L.length = n) := by rw [← HL.out, ← hnn.out]; exact toL_length id deal 3 att 0 zs.length
  have HEl : Hid (electsL id deal att zs.length = L.eraseIdx id) := by rw [← HL.out]; exact rfl
  rw [HEl.out]
  rw [hnn.out] at hi
  have HWr := hid (wrap7 (show id < 7 by have := hnn.out; omega))
  have HTA : Hid (∀ w : World, LD w lb b cap id deal att zs P → Calls Tryz.prog 79 #[.pointer (some ⟨lb, 0, none⟩), .int .i64 3, .int .i64 0] w fun e w' => ∃ g cp cur, e = .returned (.slice (some ⟨g, 0, none⟩) n cp) ∧ (w.heap.size ≤ g ∧ w'.heap[g]? = some (.cells cur 93 (0, 0)) ∧ n ≤ cp ∧ cp ≤ maxLen ∧ cur.size = cp * 9 ∧ cur.toList.take (n * 9) = frCells L) ∧ Below w.heap.size w w') := by
    intro w hw
    refine (ldtoAll_own lb b cap id deal att zs P 3 0 w hw hn).mono ?_
    rintro e w' ⟨v, he, ho, hb⟩
    rw [HL.out] at ho
    obtain ⟨g, cp, cur, hv, hg⟩ := own_form ho HLen.out (by omega)
    exact ⟨g, cp, cur, by rw [he, hv], hg, hb⟩
  clear h
  go_enter Tryz.func46, Tryz.ntmps46
  go_wp2_with fail
  go_region_held3 (fun V => V.cell? ⟨lb, 0, none⟩ = some (.int .i64 (id : Int))) (go_keep) (first | (go_at_call 79; (with_reducible refine (HTA.out _ (H.out.later (Below.refl _ _).drew)).mono ?_); rintro e w1 ⟨g, cp, cur, rfl, hg, hb⟩; have q0 := cell_later hb c0; have HO1 : Hid (w.heap.size ≤ g) := hg.1; have HO := hid hg.2; have HB := hid (show Below w.heap.size w w1 from (Below.refl _ w).drew.trans hb); clear hb hg) | (go_at_call 80; rw [HWr.out]; (with_reducible refine (del_frs1 w.heap.size g cp id n cur L _ HO.out.1 HO1.out HLen.out HO.out.2.1 HO.out.2.2.1 HO.out.2.2.2.1 HO.out.2.2.2.2 hi).mono ?_); rintro e w2 ⟨rfl, ho2, hk2⟩; have HD := hid (And.intro ho2 hk2); have q1 := keptCell hk2 q0 (fun e => by have h1 := HO1.out; have h2 : lb = g := e; omega); clear ho2 hk2))
  all_goals go_wp2_with fail
  all_goals go_ret
  all_goals refine ⟨_, rfl, ?_, HD.out.2.below HB.out.size (fun x hx => by rw [show x = g from hx]; exact HO1.out) HB.out⟩
  all_goals
    have h1 := HD.out.1
    have e1 : (L.eraseIdx id).length = n - 1 := by rw [List.length_eraseIdx_of_lt (by rw [HLen.out]; exact hi), HLen.out]
    rw [← e1] at h1 ⊢
    exact FrB.owned h1
end Go.Proofs.YtdpemmmbkjmplabGreatDoor
namespace Go.Proofs.YtdpemmmbkjmplabGreatDoor
open Go.RowKit

section
variable {w0 w w' : World} {C C' : Nat → Nat} {K : NB} {X : XB} {i m m' : Nat} {zs : List Int} {N : PN} {V V' : PX} {A : Nat → Addr}
theorem wrap64_inV (n : Int) (h : -9223372036854775808 ≤ n ∧ n ≤ 9223372036854775807) : wrap64 n = n := by unfold wrap64; omega
set_option maxRecDepth 100000 in
theorem seen_is (d p : Nat) (h : ND w0 w C K i zs N m) (hd : d < 6) (hp : (stN N d).pr = p) :
    Calls Tryz.prog 105 #[.pointer (some ⟨K.nd, 0, none⟩), .int .i64 (d : Int), .int .i64 (p : Int)] w fun e w' => e = .returned (.int .i64 (aboveN N d)) ∧ w' = w := by
  have c1 := h.lead hd
  cases hl : N.ld d with
  | none =>
    rw [ldV_none hl] at c1
    have e : aboveN N d = (p : Int) := by unfold aboveN; rw [hl, hp]
    rw [e]
    clear h e hl
    go_enter Tryz.func105, Tryz.ntmps105
    go_wp2_with fail
    go_ret
    exact ⟨rfl, rfl⟩
  | some x =>
    rw [ldV_some hl] at c1
    have e : aboveN N d = max (p : Int) x.2.seen := by unfold aboveN; rw [hl, hp]
    rw [e]
    have HL := hid (h.lds d hd x hl)
    clear h e hl
    go_enter Tryz.func105, Tryz.ntmps105
    go_wp2_with fail
    refine (ldSeen_any HL.out).mono ?_
    rintro e w1 ⟨rfl, hx⟩
    subst w1
    go_wp2_with fail
    go_ret
    exact ⟨rfl, rfl⟩
set_option maxRecDepth 100000 in
theorem attempt_is (s : Nat) (a : Int) (h : WD w0 w C X zs V m) (hs : s < zs.length) (h0 : 0 ≤ a) (h1 : a ≤ 1048576) :
    Calls Tryz.prog 104 #[.pointer (some ⟨X.xb, 0, none⟩), .int .i64 (s : Int), .int .i64 a] w fun e w' => e = .returned (.int .i64 (attemptX zs.length s a)) ∧ w' = w := by
  obtain ⟨-, c1, -, -, -⟩ := h.cells
  have n7 := h.n7
  obtain ⟨n, hn⟩ : ∃ n, zs.length = n := ⟨_, rfl⟩
  rw [hn] at c1 n7 hs ⊢
  clear h hn
  go_enter Tryz.func104, Tryz.ntmps104
  go_wp2_with fail
  go_ret
  refine ⟨?_, rfl⟩
  have hp : (0 : Int) < n := by omega
  have r0 := Int.emod_nonneg (a + 1) (show (n : Int) ≠ 0 by omega)
  have r1 := Int.emod_lt_of_pos (a + 1) hp
  have e1 : wrap64 ((s : Int) + n - (a + 1) % n) = (s : Int) + n - (a + 1) % n := wrap64_inV _ (by omega)
  have e2 : ((s : Int) + n - (a + 1) % n).tmod n = ((s : Int) + n - (a + 1) % n) % n := Int.tmod_eq_emod_of_nonneg (by omega)
  have q0 := Int.emod_nonneg ((s : Int) + n - (a + 1) % n) (show (n : Int) ≠ 0 by omega)
  have q1 := Int.emod_lt_of_pos ((s : Int) + n - (a + 1) % n) hp
  have e3 : wrap64 (a + 1 + (wrap64 ((s : Int) + n - (a + 1) % n)).tmod n) = attemptX n s a := by
    rw [e1, e2, wrap64_inV _ (by omega)]
    rfl
  show Ending.returned (Value.int IntKind.i64 (wrap64 (a + 1 + (wrap64 ((s : Int) + n - (a + 1) % n)).tmod n))) = _
  rw [e3]
theorem attemptX_bd (n s : Nat) (a : Int) (hn : 0 < n) : a + 1 ≤ attemptX n s a ∧ attemptX n s a ≤ a + n := by
  unfold attemptX
  have hp : (0 : Int) < n := by omega
  have q0 := Int.emod_nonneg ((s : Int) + n - (a + 1) % n) (show (n : Int) ≠ 0 by omega)
  have q1 := Int.emod_lt_of_pos ((s : Int) + n - (a + 1) % n) hp
  omega
end
set_option maxRecDepth 100000 in
theorem ldTry_far (A : Nat → Addr) (v : Value) (zs : List Int) (id : Nat) (deal att : Int) (w : World) (hv : IsSl w v zs) (hE : Held3 w A) (he : errW zs = 0) (hid' : id < zs.length) (h0 : 0 ≤ deal) (h1 : deal < 6) (a1 : 1048576 < att) :
    Calls Tryz.prog 106 #[.int .i64 (id : Int), .int .i64 deal, v, .int .i64 att] w fun e w' => e = .returned (.tuple #[.pointer none, .iface 222 (.pointer (some (A 1)))]) ∧ Below w.heap.size w w' := by
  have HC := hid (ldbegin_ok A v zs id deal att w hv hE he hid' h0 h1)
  have g1 : w.cell? ⟨3, 0, none⟩ = some (.iface 222 (.pointer (some (A 1)))) := hE 1 (by omega) (by omega)
  obtain ⟨a, cap0, rfl, -, -, -⟩ := hv
  have g2 : ¬ att < 1 := by omega
  clear hE he
  go_enter Tryz.func106, Tryz.ntmps106
  go_wp2_with fail
  refine HC.out.mono ?_
  rintro e w1 ⟨lb, b, cap, rfl, hl, hb, hg⟩
  have HB := hid hb
  have g1' := cell_later hb g1
  clear hl hb hg
  go_wp2_with fail
  go_quiet (fail)
  go_wp2
  go_ret2
  exact ⟨rfl, below_drewN HB.out _⟩
end Go.Proofs.YtdpemmmbkjmplabGreatDoor
namespace Go.Proofs.YtdpemmmbkjmplabGreatDoor
open Go.RowKit

section
variable {w0 w w' : World} {C C' : Nat → Nat} {K : NB} {X : XB} {i m m' : Nat} {zs : List Int} {N : PN} {V V' : PX} {A : Nat → Addr}
/-- Blocks that had no colour get one. -/
theorem ND.recolor (h : ND w0 w C K i zs N m) (hi : i ≤ 9) (hC : ∀ x, C x < 2000 → C' x = C x) : ND w0 w C' K i zs N m := by
  have e1 := h.cs; have e2 := h.cj; have e3 := h.cm; have e4 := h.cp; have e5 := h.cq; have e6 := h.cn
  refine ⟨h.row, h.sp, h.lds, (hC _ (by omega)).trans e6, (hC _ (by omega)).trans e1, (hC _ (by omega)).trans e2, (hC _ (by omega)).trans e3, (hC _ (by omega)).trans e4, (hC _ (by omega)).trans e5, fun d hd x hx => ?_, h.n0⟩
  have g := h.cl d hd x hx
  exact ⟨(hC _ (by omega)).trans g.1, (hC _ (by omega)).trans g.2⟩
theorem WD.recolor (h : WD w0 w C X zs V m) (hC : ∀ x, C x < 2000 → C' x = C x) (hl : ∀ x, C' x < 2000 → x < w.heap.size) (hw : ∀ x, C' x < 2000 → w0.heap.size ≤ x) : WD w0 w C' X zs V m := by
  have n7 := h.n7.2
  have e1 := h.cx; have e2 := h.cw; have e3 := h.cn; have e4 := h.cm
  exact ⟨h.bel, h.row, h.ws, h.ns, fun i hi => (h.nds i hi).recolor (by omega) hC, h.brk, h.fly, h.evs, (hC _ (by omega)).trans e1, (hC _ (by omega)).trans e2, (hC _ (by omega)).trans e3, (hC _ (by omega)).trans e4, fun g hg => (hC g (by have := h.cf g hg; omega)).trans (h.cf g hg), fun g hg => (hC g (by have := h.ce g hg; omega)).trans (h.ce g hg), hl, hw, h.inv⟩
/-- A lead that is nobody's is put into its place. -/
theorem WD.adopt {d lb b cap : Nat} {a : Int} {P : PL} (h : WD w0 w C X zs V m) (hi : i < zs.length) (hd : d < 6) (hu : (V.nd i).l ≠ -2) (hL : LD w lb b cap i d a zs P) (c1 : 2000 ≤ C lb) (c2 : 2000 ≤ C b) (h0 : w0.heap.size ≤ b) (ha : 0 ≤ a ∧ a ≤ 1048576) (h1 : P.stt < 4) (h2 : 0 ≤ P.seen ∧ P.seen ≤ 1048576) :
    ∃ C', WD w0 (w.setCell ⟨(X.K i).nd, 1 + d, none⟩ (.pointer (some ⟨lb, 0, none⟩))) C' { X with K := fun e => if e = i then putLd (X.K i) d lb b cap else X.K e } zs (setNd V i (setLd (V.nd i) d (a, P))) m ∧ Kept (OwnX C) w (w.setCell ⟨(X.K i).nd, 1 + d, none⟩ (.pointer (some ⟨lb, 0, none⟩))) ∧ (∀ x, x ≠ lb → x ≠ b → C' x = C x) := by
  have n7 := h.n7.2
  have hbl := hL.bl
  have hlt := row_ltJ hL.row
  obtain ⟨C1, hC1⟩ : ∃ C1, C1 = paint (paint C lb (100 * i + 10 + d)) b (100 * i + 20 + d) := ⟨_, rfl⟩
  have hne : ∀ x, x ≠ lb → x ≠ b → C1 x = C x := fun x n1 n2 => by rw [hC1, paint_ne n2, paint_ne n1]
  have e1 : C1 lb = 100 * i + 10 + d := by rw [hC1, paint_ne (by omega), paint_at]
  have e2 : C1 b = 100 * i + 20 + d := by rw [hC1, paint_at]
  have hC : ∀ x, C x < 2000 → C1 x = C x := fun x hx => hne x (fun e => by rw [e] at hx; omega) (fun e => by rw [e] at hx; omega)
  have hcase : ∀ x, C1 x < 2000 → C x < 2000 ∨ x = lb ∨ x = b := fun x hx => by
    by_cases n1 : x = lb
    · exact .inr (.inl n1)
    · by_cases n2 : x = b
      · exact .inr (.inr n2)
      · rw [hne x n1 n2] at hx; exact .inl hx
  have hg := h.recolor (C' := C1) hC (fun x hx => by
      rcases hcase x hx with q | q | q
      · exact h.lt x q
      · rw [q]; exact hlt
      · rw [q]; omega) (fun x hx => by
      rcases hcase x hx with q | q | q
      · exact h.low x q
      · rw [q]; omega
      · rw [q]; exact h0)
  have hcn := (h.nds i hi).cn
  have hcn1 := (hg.nds i hi).cn
  have hni := (h.inv.nd i hi).putLead (d := d) hu ha h1 h2 hL.pw
  refine ⟨C1, ?_, (Kept.refl _ w).setCell (show C (X.K i).nd < 2000 by omega) _, hne⟩
  exact hg.node (S := In1 (X.K i).nd) ((Kept.refl _ w).set1 _ _) hi (fun x hx => by rw [show x = _ from hx]; omega) (fun _ _ => rfl) (fun x hx hc => by have := hg.lt x hc; omega) ((hg.nds i hi).putLead hd hL e1 e2 (h.nds i hi).n0) rfl (Nat.le_refl _) (h.inv.node hni (Nat.le_refl _))
theorem aboveN_bd {n d : Nat} (h : NI n N m) (hd : d < 6) : 0 ≤ aboveN N d ∧ aboveN N d ≤ 1048576 := by
  have hg := (h.gd d hd).2.1
  have e : (stN N d).pr = (dlN N d).2.pr := rfl
  unfold aboveN
  cases hl : N.ld d with
  | none => simp only; omega
  | some x =>
    have := (h.ld d x hl).2.2.2.1
    simp only
    omega
theorem electF_fi {n s d : Nat} {a : Int} (hs : s < n) (hn : n ≤ 7) (hd : d < 6) (ha : 0 ≤ a ∧ a ≤ 1048576) : FI n (electF s d a) := by
  refine ⟨by show (0 : Int) ≤ s; omega, by show (s : Int) < n; omega, by show (0 : Int) ≤ s; omega, by show (s : Int) < n; omega, ⟨?_, ?_, ?_, ?_, ha, ⟨?_, ?_, ?_⟩⟩⟩
  · show (0 : Int) ≤ s ∧ (s : Int) ≤ 6; omega
  · show (0 : Int) ≤ s ∧ (s : Int) ≤ 6; omega
  · show (0 : Int) ≤ d ∧ (d : Int) ≤ 5; omega
  · show (1 : Int) ≤ 3 ∧ (3 : Int) ≤ 7; omega
  · show (0 : Int) ≤ 0 ∧ (0 : Int) ≤ 5; omega
  · show (0 : Int) ≤ 0 ∧ (0 : Int) ≤ 1048576; omega
  · show (0 : Int) ≤ 0 ∧ (0 : Int) ≤ 1048576; omega
theorem electL_fi {n s d : Nat} {a : Int} (hs : s < n) (hn : n ≤ 7) (hd : d < 6) (ha : 0 ≤ a ∧ a ≤ 1048576) : (∀ f, f ∈ electsL s d a n → FI n f) ∧ (electsL s d a n).length ≤ 1000 := by
  unfold electsL
  refine ⟨fun f hf => toL_fi hs hn hd (by decide) ha (by decide) n (Nat.le_refl _) f (List.mem_of_mem_eraseIdx hf), ?_⟩
  have := List.length_eraseIdx_le (toL s d 3 a 0 n) s
  rw [toL_length] at this
  omega
theorem hearX_nd (V : PX) (i : Nat) (f : F9) : (hearX V i f).nd i = hearN (V.nd i) f := by
  unfold hearX setNd
  simp
set_option maxHeartbeats 1000000 in
set_option maxRecDepth 100000 in
/-- Beyond the bound: nothing. -/
theorem try_far (s d p : Nat) (h : WD w0 w C X zs V m) (hE : Held9 w0 A) (hs : s < zs.length) (hd : d < 6) (hp : (stN (V.nd s) d).pr = p) (ha : 1048576 < attemptX zs.length s (aboveN (V.nd s) d)) :
    Calls Tryz.prog 85 #[.pointer (some ⟨X.xb, 0, none⟩), .int .i64 (s : Int), .int .i64 (d : Int), .int .i64 (p : Int)] w fun e w' => e = .returned (.tuple #[]) ∧ Below w.heap.size w w' := by
  obtain ⟨c0, c1, -, -, -⟩ := h.cells
  have c2 := h.ns s hs
  have n7 := h.n7
  have H := hid h
  have HE := hid hE
  have HS := hid hs
  have HP := hid hp
  have hbd := aboveN_bd (h.inv.nd s hs) hd
  obtain ⟨n, hn⟩ : ∃ n, Hid (zs.length = n) := ⟨_, rfl⟩
  have HA := hid (attempt_is s (aboveN (V.nd s) d) h hs hbd.1 hbd.2)
  have HSe := hid (seen_is d p (h.nds s hs) hd hp)
  have HT := hid (ldTry_far A _ zs s (d : Int) _ w h.sl (h.held hE).to3 h.inv.he hs (by omega) (by omega) ha)
  rw [hn.out] at c0 c1 hs HA HT ha n7
  generalize aboveN (V.nd s) d = ab at HA HSe HT ha hbd
  generalize attemptX n s ab = at_ at HA HT ha
  clear h hE hp
  go_enter Tryz.func85, Tryz.ntmps85
  go_wp2_with fail
  refine HSe.out.mono ?_
  rintro e w1 ⟨rfl, hx⟩
  subst w1
  go_wp2_with fail
  refine HA.out.mono ?_
  rintro e w1 ⟨rfl, hx⟩
  subst w1
  go_wp2_with fail
  refine HT.out.mono ?_
  rintro e w1 ⟨rfl, hb⟩
  have HB := hid hb
  clear hb
  go_wp2_with fail
  refine bodyPost_ret (results_none rfl _ _ _) rfl ?_
  exact ⟨rfl, HB.out⟩
/-- The answers, and blocks that had no colour. -/
theorem FrF.adopt {base : Nat} {v : Value} {L : List F9} (h : FrF w C base v L) (k : Kept (OwnX C) w w') (hC : ∀ x, base ≤ x → C' x = C x) : FrF w' C' base v L := by
  obtain ⟨ad, cap, e, hf, hg⟩ := h.kept (C' := C) k (fun _ _ => rfl)
  exact ⟨ad, cap, e, hf, fun hne p hp => by have := hg hne p hp; exact ⟨by rw [hC _ this.2.2]; exact this.1, this.2⟩⟩
set_option maxHeartbeats 1000000 in
set_option maxRecDepth 100000 in
/-- Power fails under its own promise. -/
theorem try_down (s d p an : Nat) (h : WD w0 w C X zs V m) (hE : Held9 w0 A) (hs : s < zs.length) (hd : d < 6) (hu : (V.nd s).l ≠ -2) (hm : m < 1000000) (hp : (stN (V.nd s) d).pr = p) (ha : attemptX zs.length s (aboveN (V.nd s) d) = an) (ha1 : 1 ≤ an) (ha2 : an ≤ 1048576) (hdn : upN (hearN (V.nd s) (electF s d an)) = false) (HAns : Hid (ansN s (V.nd s) (electF s d an) = [])) :
    Calls Tryz.prog 85 #[.pointer (some ⟨X.xb, 0, none⟩), .int .i64 (s : Int), .int .i64 (d : Int), .int .i64 (p : Int)] w fun e w' => e = .returned (.tuple #[]) ∧ WOut w0 w w' C X zs (hearX V s (electF s d an)) (m + 2) := by
  have HDn := hid hdn
  clear hdn
  obtain ⟨c0, c1, -, -, -⟩ := h.cells
  have c2 := h.ns s hs
  have n7 := h.n7
  have H := hid h
  have HE := hid hE
  have HS := hid hs
  have HU := hid hu
  have hbd := aboveN_bd (h.inv.nd s hs) hd
  obtain ⟨n, hn⟩ : ∃ n, Hid (zs.length = n) := ⟨_, rfl⟩
  have HA := hid (attempt_is s (aboveN (V.nd s) d) h hs hbd.1 hbd.2)
  rw [ha] at HA
  have HSe := hid (seen_is d p (h.nds s hs) hd hp)
  have HT := hid (ldTry_ok A _ zs s (d : Int) (an : Int) w h.sl (h.held hE).to3 h.inv.he hs (by omega) (by omega) (by omega) (by omega))
  have HFI := hid (electF_fi (a := (an : Int)) hs n7.2 hd (by omega))
  rw [hn.out] at c0 c1 hs HT n7
  generalize aboveN (V.nd s) d = ab at HA HSe hbd ha
  clear h hE hp hu ha
  go_enter Tryz.func85, Tryz.ntmps85
  go_wp2_with fail
  refine HSe.out.mono ?_
  rintro e w1 ⟨rfl, hx⟩
  subst w1
  go_wp2_with fail
  refine HA.out.mono ?_
  rintro e w1 ⟨rfl, hx⟩
  subst w1
  go_wp2_with fail
  refine HT.out.mono ?_
  rintro e w1 ⟨lb, b, cap, rfl, hl, hb, hlb⟩
  have H1 := hid (H.out.later hb)
  have HL1 := hid hl
  have HB1 := hid hb
  have hbl := hl.bl
  have HCl : Hid (2000 ≤ C lb ∧ 2000 ≤ C b) := by
    constructor
    · rcases Nat.lt_or_ge (C lb) 2000 with q | q
      · have := H.out.lt _ q; omega
      · exact q
    · rcases Nat.lt_or_ge (C b) 2000 with q | q
      · have := H.out.lt _ q; omega
      · exact q
  have HHe := hid (whear_any s d 3 an 0 0 0 false (electF s d an) rfl H1.out HE.out HS.out HU.out HFI.out hm)
  rw [show ((3 : Nat) : Int) = 3 from rfl, show ((0 : Nat) : Int) = 0 from rfl, HAns.out] at HHe
  clear hl hb
  go_wp2_with fail
  refine HHe.out.mono ?_
  rintro e w2 ⟨v, rfl, C2, X2, g1, g2, g3, g4, -⟩
  obtain ⟨d0, d1, d2⟩ := (g1.nds s HS.out).way
  rw [key_nd g2] at d0
  have HPl := hid (g1.nds s HS.out).sp.jp.pl
  have HDn2 : Hid ((((hearX V s (electF s d an)).nd s).l != -2) = false) := by rw [hearX_nd]; exact HDn.out
  have HG := hid (And.intro g1 (And.intro g2 (And.intro g3 g4)))
  clear g1 g2 g3 g4
  go_wp2_with fail
  refine (power_b _ _ _ _ false w2 HPl.out HDn2.out).mono ?_
  rintro e w3 ⟨rfl, hx⟩
  subst w3
  go_wp2_with fail
  refine bodyPost_ret (results_none rfl _ _ _) rfl ?_
  refine ⟨rfl, ?_⟩
  exact WOut.step (C1 := C) (X1 := X) rfl (Kept.of_below HB1.out) (fun _ _ => rfl) ⟨C2, X2, HG.out.1, HG.out.2.1, HG.out.2.2.1, HG.out.2.2.2⟩
theorem try_eq (s d : Nat) (a : Int) (f0 : F9) (hA : ansN s (V.nd s) (electF s d a) = [f0]) (ha : ¬ 1048576 < a) (hup : upN (hearN (V.nd s) (electF s d a)) = true) :
    sendX (leadX zs (sendX (setNd (hearX V s (electF s d a)) s (setLd ((hearX V s (electF s d a)).nd s) d (a, P0))) (electsL s d a zs.length)) s d f0) (leadO zs (sendX (setNd (hearX V s (electF s d a)) s (setLd ((hearX V s (electF s d a)).nd s) d (a, P0))) (electsL s d a zs.length)) s d f0) = tryX zs V s d a := by
  have hl : ((sendX (setNd (hearX V s (electF s d a)) s (setLd ((hearX V s (electF s d a)).nd s) d (a, P0))) (electsL s d a zs.length)).nd s).ld d = some (a, P0) := by
    simp [sendX, setNd, setLd]
  have e1 : ∀ W : PX, (W.nd s).ld d = some (a, P0) → leadX zs W s d f0 = setNd W s (setLd (W.nd s) d (a, (phear zs s d a P0 f0).1)) := fun W hW => by unfold leadX; rw [hW]
  have e2 : ∀ W : PX, (W.nd s).ld d = some (a, P0) → leadO zs W s d f0 = outL s d a zs.length (phear zs s d a P0 f0).2 := fun W hW => by unfold leadO; rw [hW]
  rw [e1 _ hl, e2 _ hl]
  unfold tryX
  rw [if_neg ha, if_neg (by rw [hup]; decide), hA, hearX_nd]
  have eN : ∀ N : PN, setLd (setLd N d (a, P0)) d (a, (phear zs s d a P0 f0).1) = setLd N d (a, (phear zs s d a P0 f0).1) := fun N => by
    unfold setLd
    simp only
    congr 1
    funext e
    split <;> rfl
  unfold sendX setNd hearsL hearsL electsL electL
  simp only [if_true, eN, List.append_nil, List.append_assoc]
  congr 1
  funext e
  split <;> rfl
set_option maxHeartbeats 2000000 in
set_option maxRecDepth 100000 in
/-- It is up, and leads. -/
theorem try_up (s d p an : Nat) (f0 : F9) (h : WD w0 w C X zs V m) (hE : Held9 w0 A) (hs : s < zs.length) (hd : d < 6) (hu : (V.nd s).l ≠ -2) (hm : m < 1000000) (hp : (stN (V.nd s) d).pr = p) (ha : attemptX zs.length s (aboveN (V.nd s) d) = an) (ha1 : 1 ≤ an) (ha2 : an ≤ 1048576) (hdn : upN (hearN (V.nd s) (electF s d an)) = true) (HAns : Hid (ansN s (V.nd s) (electF s d an) = [f0])) (hf0 : FI zs.length f0) :
    Calls Tryz.prog 85 #[.pointer (some ⟨X.xb, 0, none⟩), .int .i64 (s : Int), .int .i64 (d : Int), .int .i64 (p : Int)] w fun e w' => e = .returned (.tuple #[]) ∧ WOut w0 w w' C X zs (tryX zs V s d an) (m + 5) := by
  have HDn := hid hdn
  have HF0 := hid hf0
  clear hdn hf0
  obtain ⟨c0, c1, -, -, -⟩ := h.cells
  have c2 := h.ns s hs
  have n7 := h.n7
  have H := hid h
  have HE := hid hE
  have HS := hid hs
  have HU := hid hu
  have hbd := aboveN_bd (h.inv.nd s hs) hd
  obtain ⟨n, hn⟩ : ∃ n, Hid (zs.length = n) := ⟨_, rfl⟩
  have HA := hid (attempt_is s (aboveN (V.nd s) d) h hs hbd.1 hbd.2)
  rw [ha] at HA
  have HSe := hid (seen_is d p (h.nds s hs) hd hp)
  have HT := hid (ldTry_ok A _ zs s (d : Int) (an : Int) w h.sl (h.held hE).to3 h.inv.he hs (by omega) (by omega) (by omega) (by omega))
  have HFI := hid (electF_fi (a := (an : Int)) hs n7.2 hd (by omega))
  rw [hn.out] at c0 c1 hs HT n7
  generalize aboveN (V.nd s) d = ab at HA HSe hbd ha
  clear h hE hp hu ha
  go_enter Tryz.func85, Tryz.ntmps85
  go_wp2_with fail
  refine HSe.out.mono ?_
  rintro e w1 ⟨rfl, hx⟩
  subst w1
  go_wp2_with fail
  refine HA.out.mono ?_
  rintro e w1 ⟨rfl, hx⟩
  subst w1
  go_wp2_with fail
  refine HT.out.mono ?_
  rintro e w1 ⟨lb, b, cap, rfl, hl, hb, hlb⟩
  have H1 := hid (H.out.later hb)
  have HL1 := hid hl
  have HB1 := hid hb
  have hbl := hl.bl
  have HCl : Hid (2000 ≤ C lb ∧ 2000 ≤ C b) := by
    constructor
    · rcases Nat.lt_or_ge (C lb) 2000 with q | q
      · have := H.out.lt _ q; omega
      · exact q
    · rcases Nat.lt_or_ge (C b) 2000 with q | q
      · have := H.out.lt _ q; omega
      · exact q
  have HHe := hid (whear_any s d 3 an 0 0 0 false (electF s d an) rfl H1.out HE.out HS.out HU.out HFI.out hm)
  rw [show ((3 : Nat) : Int) = 3 from rfl, show ((0 : Nat) : Int) = 0 from rfl, HAns.out] at HHe
  clear hl hb
  go_wp2_with fail
  have HHe2 : Hid (Calls Tryz.prog 82 #[.pointer (some ⟨X.xb, 0, none⟩), frV (s : Int) (s : Int) (d : Int) 3 (an : Int) false 0 0 0] w1 fun e w2 => ∃ g off cp, e = .returned (.slice (some ⟨g, off, none⟩) 1 cp) ∧ ∃ C2 X2, WD w0 w2 C2 X2 zs (hearX V s (electF s d an)) (m + 2) ∧ key X2 = key X ∧ Kept (OwnX C) w1 w2 ∧ (∀ x, x < w1.heap.size → C2 x = C x) ∧ FrF w2 C2 w1.heap.size (.slice (some ⟨g, off, none⟩) 1 cp) [f0]) := by
    refine HHe.out.mono ?_
    rintro e w2 ⟨v, rfl, C2, X2, g1, g2, g3, g4, g5⟩
    have g6 := g5
    obtain ⟨ad, cp, rfl, hf, -⟩ := g5
    obtain ⟨g, off, rfl, -⟩ := hf 0 (by simp)
    exact ⟨g, off, cp, rfl, C2, X2, g1, g2, g3, g4, g6⟩
  clear HHe
  refine HHe2.out.mono ?_
  rintro e w2 ⟨g, off, cp, rfl, C2, X2, g1, g2, g3, g4, g5⟩
  obtain ⟨d0, d1, d2⟩ := (g1.nds s HS.out).way
  rw [key_nd g2] at d0
  have HPl := hid (g1.nds s HS.out).sp.jp.pl
  have HDn2 : Hid ((((hearX V s (electF s d an)).nd s).l != -2) = true) := by rw [hearX_nd]; exact HDn.out
  have hlw := row_ltJ HL1.out.row
  have HL2 : Hid (LD w2 lb b cap s d an zs P0) := HL1.out.kept g3 (fun e => by have h1 : C lb < 2000 := e; have := HCl.out.1; omega) (fun e => by have h1 : C b < 2000 := e; have := HCl.out.2; omega)
  have hup2 : ((hearX V s (electF s d an)).nd s).l ≠ -2 := by have := HDn2.out; simpa using this
  obtain ⟨C3, q1, q2, q3⟩ := g1.adopt HS.out hd hup2 HL2.out (by rw [g4 _ hlw]; exact HCl.out.1) (by rw [g4 _ (by omega)]; exact HCl.out.2) (by have := H.out.bel.size; omega) (by omega) (by decide) (by decide)
  rw [key_nd g2] at q1 q2
  obtain ⟨W3, HW3⟩ : ∃ W3, Hid (w2.setCell ⟨(X.K s).nd, 1 + d, none⟩ (.pointer (some ⟨lb, 0, none⟩)) = W3) := ⟨_, rfl⟩
  have hW3 := HW3.out
  rw [hW3] at q1 q2
  have HFr3 := hid (g5.adopt q2 (fun x hx => q3 x (by omega) (by omega)))
  have c1n := (g1.nds s HS.out).lead hd
  have z1n := (g1.nds s HS.out).fz (1 + d)
  rw [key_nd g2] at c1n z1n
  obtain ⟨X3, HX3⟩ : ∃ X3 : XB, Hid (({ X2 with K := fun e => if e = s then putLd (X2.K s) d lb b cap else X2.K e } : XB) = X3) := ⟨_, rfl⟩
  have HKX : Hid (key X3 = key X) := by rw [← HX3.out]; exact (key_K (i := s) (K := putLd (X2.K s) d lb b cap) rfl).trans g2
  have HKL : Hid ((X3.K s).lb d = lb ∧ (X3.K s).b d = b ∧ (X3.K s).cap d = cap) := by rw [← HX3.out]; exact ⟨by simp [putLd], by simp [putLd], by simp [putLd]⟩
  rw [HX3.out] at q1
  have HLD : Hid (LD W3 lb b cap s d an zs P0) := by
    have := (q1.nds s HS.out).lds d hd (an, P0) (by simp [setNd, setLd])
    rw [HKL.out.1, HKL.out.2.1, HKL.out.2.2] at this
    exact this
  have HC3 : Hid (∀ x, x < w.heap.size → C3 x = C x) := fun x hx => by
    have hb1 := HB1.out.size
    rw [q3 x (by omega) (by omega)]
    exact g4 x (by omega)
  have HK3 : Hid (Kept (OwnX C) w W3) := by
    have hb1 := HB1.out.size
    have k2 : Kept (OwnX C) w w2 := (Kept.of_below HB1.out).trans g3
    refine ⟨q2.os.trans k2.os, q2.tape.trans k2.tape, q2.output.trans k2.output, Nat.le_trans k2.size q2.size, fun x hx hn => ?_⟩
    exact (q2.block x (Nat.lt_of_lt_of_le hx k2.size) (fun e => hn (by have h1 : C2 x < 2000 := e; rw [g4 x (by omega)] at h1; exact h1))).trans (k2.block x hx hn)
  have HQ := hid q1
  clear g1 g2 g3 g4 g5 q1 q2 q3
  go_wp2_with fail
  refine (power_b _ _ _ _ true w2 HPl.out HDn2.out).mono ?_
  rintro e w4 ⟨rfl, hx⟩
  subst w4
  go_wp2_with fail
  refine (ldStart1_any (by rw [hn.out]; exact n7.2) HS.out (by omega) HLD.out).mono ?_
  rintro e w5 ⟨v5, rfl, hf5, hb5⟩
  have HSd := hid (send_any v5 _ (HQ.out.later hb5) hf5.fr (electL_fi HS.out (by rw [hn.out]; exact n7.2) hd (by omega)).1 (electL_fi HS.out (by rw [hn.out]; exact n7.2) hd (by omega)).2 (by omega))
  rw [key_xb HKX.out] at HSd
  have HFr5 := hid (HFr3.out.kept (Kept.of_below hb5) (fun _ _ => rfl))
  have HB5 := hid hb5
  clear hf5 hb5
  go_wp2_with fail
  refine HSd.out.mono ?_
  rintro e w6 ⟨rfl, C6, v6, y1, y2, y3⟩
  have HFr6 := hid (HFr5.out.kept y2 y3)
  obtain ⟨V6, HV6⟩ : ∃ V6, Hid (sendX (setNd (hearX V s (electF s d an)) s (setLd ((hearX V s (electF s d an)).nd s) d (an, P0))) (electsL s d an zs.length) = V6) := ⟨_, rfl⟩
  have HFin : Hid (sendX (leadX zs V6 s d f0) (leadO zs V6 s d f0) = tryX zs V s d an) := by rw [← HV6.out]; exact try_eq s d an f0 HAns.out (by omega) HDn.out
  have HLd6 : Hid ((V6.nd s).ld d = some ((an : Int), P0)) := by rw [← HV6.out]; show _ = _; simp [sendX, setNd, setLd]
  rw [HV6.out] at y1
  obtain ⟨X6, HX6⟩ : ∃ X6 : XB, Hid (({ X3 with fv := v6 } : XB) = X6) := ⟨_, rfl⟩
  have HK6 : Hid (key X6 = key X3) := by rw [← HX6.out]; exact rfl
  have HKL6 : Hid ((X6.K s).lb d = lb ∧ (X6.K s).b d = b ∧ (X6.K s).cap d = cap) := by rw [← HX6.out]; exact HKL.out
  obtain ⟨X6', HX6'⟩ : ∃ X6' : XB, Hid (X6' = { X3 with xb := X.xb, fv := v6 }) := ⟨_, rfl⟩
  have HE6 : Hid (X6' = X6) := by rw [HX6'.out, ← HX6.out, ← key_xb HKX.out]; exact rfl
  have HY1 : Hid (WD w0 w6 C6 X6 zs V6 (m + 2 + 1)) := by rw [← HE6.out, HX6'.out]; exact y1
  have HY := hid (And.intro y2 y3)
  have HLD6 : Hid (LD w6 lb b cap s d an zs P0) := by
    have := (HY1.out.nds s HS.out).lds d hd _ HLd6.out
    rw [HKL6.out.1, HKL6.out.2.1, HKL6.out.2.2] at this
    exact this
  obtain ⟨ad6, cp6, hv6, hfl6, -⟩ := HFr6.out
  obtain ⟨gg, oo, hgo, hcl⟩ := hfl6 0 (by simp)
  have hgo2 : (some ⟨g, off, none⟩ : Option Addr) = some ⟨gg, oo, none⟩ := by
    have h1 : (Value.slice (some ⟨g, off, none⟩) 1 cp) = .slice ad6 1 cp6 := hv6
    have h2 : (some ⟨g, off, none⟩ : Option Addr) = ad6 := by injection h1
    rw [h2, hgo]
  have hgo3 : (⟨g, off, none⟩ : Addr) = ⟨gg, oo, none⟩ := Option.some.inj hgo2
  have hg1 : g = gg := congrArg Addr.block hgo3
  have hg2 : off = oo := congrArg Addr.off hgo3
  rw [← hg1, ← hg2] at hcl
  obtain ⟨ff, ft, fd, fk, fa, fy, fp1, fp2, fp3⟩ := f0
  obtain ⟨t0, t1, t2, t3, t4, t5, t6, t7, t8⟩ := nineO (o := off) (fun j hj => by have := hcl j hj; rw [show off + 0 * 9 + j = off + j by omega] at this; exact this)
  simp only [List.getElem_cons_zero] at t0 t1 t2 t3 t4 t5 t6 t7 t8
  obtain ⟨W7, HW7⟩ : ∃ W7, Hid (w6.alloc (.cells #[.int .i64 ff, .int .i64 ft, .int .i64 fd, .int .i64 fk, .int .i64 fa, .bool fy, .int .i64 fp1, .int .i64 fp2, .int .i64 fp3] 93) = W7) := ⟨_, rfl⟩
  have hW7 := HW7.out
  have HB7 : Hid (Below w6.heap.size w6 W7) := by rw [← HW7.out]; exact (Below.refl _ _).alloc (Nat.le_refl _) _
  have HR7 : Hid (W7.heap[w6.heap.size]? = some (.cells #[.int .i64 ff, .int .i64 ft, .int .i64 fd, .int .i64 fk, .int .i64 fa, .bool fy, .int .i64 fp1, .int .i64 fp2, .int .i64 fp3] 93 (0, 0))) := by rw [← HW7.out]; exact heap_alloc_new w6 _
  obtain ⟨b0, b1, b2, b3, b4, b5, b6, b7, b8⟩ := nine HR7.out
  have HHr := hid (ldhear_any A ff ft fd fk fa fy fp1 fp2 fp3 H.out.inv.he (by decide) ((HY1.out.later HB7.out).held HE.out).to3 (HLD6.out.later HB7.out))
  clear y1 y2 y3 hv6 hfl6 hgo hcl hgo2 hgo3 hg1 hg2
  go_wp2_with fail
  refine wp_loop_rounds 2 ?_
  rw [rounds_succ]
  go_wp2_with fail
  refine HHr.out.mono ?_
  rintro e w8 ⟨v8, rfl, hf8, hl8, hk8⟩
  have HLO := hid (lead_out (i := s) (d := d) (x := ((an : Int), P0)) (F := ⟨ff, ft, fd, fk, fa, fy, fp1, fp2, fp3⟩) (v := v8) HY1.out HB7.out HS.out hd HLd6.out hf8 (by rw [HKL6.out.1, HKL6.out.2.1, HKL6.out.2.2]; exact hl8) (by rw [HKL6.out.1]; exact hk8) HF0.out)
  obtain ⟨C9, X9, r1, r2, r3, r4, r5⟩ := HLO.out
  have HO9 : Hid ((∀ f, f ∈ leadO zs V6 s d ⟨ff, ft, fd, fk, fa, fy, fp1, fp2, fp3⟩ → FI zs.length f) ∧ (leadO zs V6 s d ⟨ff, ft, fd, fk, fa, fy, fp1, fp2, fp3⟩).length ≤ 1000) := by
    unfold leadO
    rw [HLd6.out]
    exact ⟨outL_fi HS.out (by rw [hn.out]; exact n7.2) hd (by show (0 : Int) ≤ an ∧ (an : Int) ≤ 1048576; omega), Nat.le_trans (outL_le _ _ _ _ _) (by rw [hn.out]; omega)⟩
  have HS9 := hid (send_any v8 _ r1 r5.fr HO9.out.1 HO9.out.2 (by omega))
  rw [key_xb r2, key_xb HK6.out, key_xb HKX.out] at HS9
  have HR9 := hid (And.intro r2 (And.intro r3 r4))
  clear hf8 hl8 hk8 r1 r2 r3 r4 r5
  go_wp2_with fail
  refine HS9.out.mono ?_
  rintro e w10 ⟨rfl, C10, v10, y1, y2, y3⟩
  have HY10 := hid (And.intro y1 (And.intro y2 y3))
  clear y1 y2 y3
  go_wp2_with fail
  rw [rounds_succ]
  go_wp2_with fail
  go_end0
  refine ⟨rfl, ?_⟩
  rw [← HFin.out]
  refine WOut.step (C1 := C3) (X1 := X3) HKX.out HK3.out HC3.out ?_
  refine WOut.step (C1 := C3) (X1 := X3) rfl (Kept.of_below HB5.out) (fun _ _ => rfl) ?_
  refine WOut.step (C1 := C6) (X1 := X6) HK6.out HY.out.1 HY.out.2 ?_
  refine WOut.step (C1 := C9) (X1 := X9) HR9.out.1 HR9.out.2.1 HR9.out.2.2 ?_
  exact ⟨C10, _, HY10.out.1, (by unfold key; exact Prod.ext (key_xb (HR9.out.1.trans (HK6.out.trans HKX.out))).symm rfl), HY10.out.2.1, HY10.out.2.2⟩
end
end Go.Proofs.YtdpemmmbkjmplabGreatDoor
namespace Go.Proofs.YtdpemmmbkjmplabGreatDoor
open Go.RowKit

section
variable {w0 w w' : World} {C C' : Nat → Nat} {K : NB} {X : XB} {i m m' : Nat} {zs : List Int} {N : PN} {V V' : PX} {A : Nat → Addr}
theorem elect_ans {n s d : Nat} {a : Int} (hN : NI n N m) (hu : N.l ≠ -2) (hF : FI n (electF s d a)) (hm : m < 4000000000) :
    (upN (hearN N (electF s d a)) = false ∧ ansN s N (electF s d a) = []) ∨ (upN (hearN N (electF s d a)) = true ∧ ∃ f0, ansN s N (electF s d a) = [f0]) := by
  have hh := hearN_hf hN hu hF hm
  have hk : (gHN N (electF s d a)).k = 4 := by
    unfold gHN hearL
    rw [if_neg (by show ¬ ((3 : Int).toNat = 1); decide), if_pos (by show (3 : Int).toNat = 3; decide)]
    split <;> rfl
  rcases hh.c with hc | hc
  · right
    refine ⟨by rw [hh.up, hc]; rfl, ?_⟩
    unfold ansN
    rw [if_pos ⟨hc, by rw [hk]; decide⟩]
    exact ⟨_, rfl⟩
  · left
    refine ⟨by rw [hh.up, hc]; rfl, ?_⟩
    unfold ansN
    rw [if_neg (fun h => by rw [hc] at h; cases h.1)]
theorem WOut.mono (h : WOut w0 w w' C X zs V m) (hm : m ≤ m') : WOut w0 w w' C X zs V m' := by
  obtain ⟨C', X', x1, x2, x3, x4⟩ := h
  exact ⟨C', X', x1.mono hm, x2, x3, x4⟩
theorem try_any (s d p : Nat) (h : WD w0 w C X zs V m) (hE : Held9 w0 A) (hs : s < zs.length) (hd : d < 6) (hu : (V.nd s).l ≠ -2) (hm : m < 1000000) (hp : (stN (V.nd s) d).pr = p) :
    Calls Tryz.prog 85 #[.pointer (some ⟨X.xb, 0, none⟩), .int .i64 (s : Int), .int .i64 (d : Int), .int .i64 (p : Int)] w fun e w' => e = .returned (.tuple #[]) ∧ WOut w0 w w' C X zs (tryX zs V s d (attemptX zs.length s (aboveN (V.nd s) d))) (m + 7) := by
  have hbd := aboveN_bd (h.inv.nd s hs) hd
  have hat := attemptX_bd zs.length s (aboveN (V.nd s) d) (by omega)
  by_cases hf : 1048576 < attemptX zs.length s (aboveN (V.nd s) d)
  · refine (try_far s d p h hE hs hd hp hf).mono ?_
    rintro e w' ⟨h1, h2⟩
    refine ⟨h1, ?_⟩
    unfold tryX
    rw [if_pos hf]
    exact h.out h2 (by omega)
  · obtain ⟨an, ha⟩ := Int.eq_ofNat_of_zero_le (show 0 ≤ attemptX zs.length s (aboveN (V.nd s) d) by omega)
    have hF := electF_fi (a := (an : Int)) hs h.n7.2 hd (by omega)
    rcases elect_ans (h.inv.nd s hs) hu hF (by omega) with ⟨u, e⟩ | ⟨u, f0, e⟩
    · refine (try_down s d p an h hE hs hd hu hm hp ha (by omega) (by omega) u e).mono ?_
      rintro e w' ⟨h1, h2⟩
      refine ⟨h1, ?_⟩
      rw [ha]
      unfold tryX
      rw [if_neg (by omega), if_pos u]
      exact h2.mono (by omega)
    · have hf0 : FI zs.length f0 := ansN_fi (h.inv.nd s hs) hu hF (by omega) rfl f0 (by rw [e]; exact List.mem_singleton.2 rfl)
      refine (try_up s d p an f0 h hE hs hd hu hm hp ha (by omega) (by omega) u e hf0).mono ?_
      rintro e w' ⟨h1, h2⟩
      refine ⟨h1, ?_⟩
      rw [ha]
      exact h2.mono (by omega)
theorem tickX_step (s : Nat) {q : Nat} (hq : q < 6) : tickX zs s (6 - q) q V = if upN ((tickD zs V s q).nd s) = true then tickX zs s (6 - (q + 1)) (q + 1) (tickD zs V s q) else tickD zs V s q := by
  rw [show 6 - q = (6 - (q + 1)) + 1 by omega]
  rfl
theorem st_is0 (h1 h2 h3 : Nat) (b : Bool) (hb : decide (h1 = 0 ∧ h2 = 0 ∧ h3 = 0) = b) (w : World) : (binOp .eql 43 (.agg #[.int .i64 (h1 : Int), .int .i64 (h2 : Int), .int .i64 (h3 : Int)]) (.agg #[.int .i64 0, .int .i64 0, .int .i64 0])).run Tryz.prog w = .ok (.bool b) w :=
  st_eql _ _ _ _ _ _ b (by rw [← hb]; congr 1; exact propext (by omega)) w
set_option maxHeartbeats 2000000 in
set_option maxRecDepth 100000 in
theorem tick_ok (s : Nat) (h : WD w0 w C X zs V m) (hE : Held9 w0 A) (hs : s < zs.length) (hu : (V.nd s).l ≠ -2) (hm : m < 900000) :
    Calls Tryz.prog 55 #[.pointer (some ⟨X.xb, 0, none⟩), .int .i64 (s : Int)] w fun e w' => e = .returned .nilIface ∧ WOut w0 w w' C X zs (tickX zs s 6 0 V) (m + 42) := by
  have H := hid h
  have HE := hid hE
  have HE1 := hid (h.held hE)
  have HS := hid hs
  have HU : Hid (((V.nd s).l != -2) = true) := by show ((V.nd s).l != -2) = true; simpa using hu
  obtain ⟨T, HT⟩ : ∃ T, Hid (tickX zs s 6 0 V = T) := ⟨_, rfl⟩
  rw [HT.out]
  clear h hE hs hu
  go_enter Tryz.func55, Tryz.ntmps55
  go_wp2_with fail
  refine (find_ok s H.out HS.out).mono ?_
  rintro e w1 ⟨rfl, hx⟩
  subst w1
  go_wp2_with fail
  refine (powered_is true (H.out.nds s HS.out) HE1.out HU.out).mono ?_
  rintro e w1 ⟨rfl, hb⟩
  simp only [if_true]
  have HB1 := hid hb
  have H1 := hid (H.out.later hb)
  clear hb
  go_wp2_with fail
  go_loopw [21] (fun v wr => ∃ (q : Nat) (Vq : PX), q ≤ 6 ∧ v = .int .i64 (q : Int) ∧ Hid (tickX zs s (6 - q) q Vq = T) ∧ Hid ((Vq.nd s).l ≠ -2) ∧ WOut w0 w wr C X zs Vq (m + 7 * q)) (fun v _ => 6 - (intOf v).toNat)
  case atStart => exact ⟨0, V, Nat.zero_le _, rfl, HT.out, by have := HU.out; show (V.nd s).l ≠ -2; simpa using this, H.out.out HB1.out (by omega)⟩
  case round =>
    obtain ⟨q, Vq, hq, rfl, HTq, HUq, C1, X1, g1, g2, g3, g4⟩ := hrel
    have HG := hid (And.intro g1 (And.intro g2 (And.intro g3 g4)))
    have c0 := (g1.nds s HS.out).site
    rw [key_nd g2] at c0
    obtain ⟨⟨h1, h2, h3⟩, HST⟩ : ∃ x, Hid (stN (Vq.nd s) q = x) := ⟨_, rfl⟩
    clear g1 g2 g3 g4
    by_cases hlt : q < 6
    · have HKn := hid (known_ag q h1 h2 h3 (HG.out.1.nds s HS.out).sp.jp.jr (HG.out.1.nds s HS.out).sp.sr hlt HST.out)
      go_wp2_with fail
      refine HKn.out.mono ?_
      rintro e w2 ⟨rfl, hb2⟩
      obtain ⟨W3, HW3⟩ : ∃ W3, Hid (w2.alloc (.cells #[.int .i64 (h1 : Int), .int .i64 (h2 : Int), .int .i64 (h3 : Int)] 43) = W3) := ⟨_, rfl⟩
      have hW3 := HW3.out
      have HB3 : Hid (Below wr.heap.size wr W3) := by rw [← HW3.out]; exact hb2.alloc hb2.size _
      have HR3 : Hid (W3.heap[w2.heap.size]? = some (.cells #[.int .i64 (h1 : Int), .int .i64 (h2 : Int), .int .i64 (h3 : Int)] 43 (0, 0))) := by rw [← HW3.out]; exact heap_alloc_new w2 _
      have a0 : W3.cell? ⟨w2.heap.size, 0, none⟩ = some (.int .i64 (h1 : Int)) := by rw [cell_of_row _ _ _ _ _ _ HR3.out]; rfl
      have a1 : W3.cell? ⟨w2.heap.size, 1, none⟩ = some (.int .i64 (h2 : Int)) := by rw [cell_of_row _ _ _ _ _ _ HR3.out]; rfl
      have a2 : W3.cell? ⟨w2.heap.size, 2, none⟩ = some (.int .i64 (h3 : Int)) := by rw [cell_of_row _ _ _ _ _ _ HR3.out]; rfl
      have H3 := hid (HG.out.1.later HB3.out)
      have HO3 : Hid (WOut w0 w W3 C X zs Vq (m + 7 * q)) := ⟨C1, X1, H3.out, HG.out.2.1, HG.out.2.2.1.trans (Kept.of_below HB3.out), HG.out.2.2.2⟩
      have HGd : Hid (h1 ≤ 5 ∧ h2 ≤ 1048576) := by have := (HG.out.1.inv.nd s HS.out).gd q hlt; have h4 : (dlN (Vq.nd s) q).2 = ⟨h1, h2, h3⟩ := HST.out; rw [h4] at this; exact ⟨this.1, this.2.1⟩
      clear hb2
      by_cases hz : h1 = 0 ∧ h2 = 0 ∧ h3 = 0
      · obtain ⟨z1, z2, z3⟩ := hz
        have hcmp : ∀ w, (binOp .eql 43 (.agg #[.int .i64 (h1 : Int), .int .i64 (h2 : Int), .int .i64 (h3 : Int)]) (.agg #[.int .i64 0, .int .i64 0, .int .i64 0])).run Tryz.prog w = .ok (.bool true) w := st_is0 h1 h2 h3 true (decide_eq_true ⟨z1, z2, z3⟩)
        obtain ⟨V4, HV⟩ : ∃ V4, Hid (Vq = V4) := ⟨_, rfl⟩
        have HV4 : Hid (tickD zs Vq s q = V4) := by
          rw [← HV.out]
          unfold tickD
          exact if_pos (by rw [HST.out, z1, z2, z3]; rfl)
        have HUp4 : Hid (upN (V4.nd s) = true) := by rw [← HV.out]; have := HUq.out; show upN (Vq.nd s) = true; unfold upN; simpa using this
        have HO : Hid (WOut w0 w W3 C X zs V4 (m + 7 * q + 7)) := by rw [← HV.out]; exact HO3.out.mono (by omega)
        clear z1 z2 z3
        obtain ⟨C4, X4, y1, y2, y3, y4⟩ := HO.out
        obtain ⟨e0, e1, e2⟩ := (y1.nds s HS.out).way
        rw [key_nd y2] at e0
        have HP4 := hid (y1.nds s HS.out).sp.jp.pl
        have HT4 : Hid (tickX zs s (6 - (q + 1)) (q + 1) V4 = T) := by have := HTq.out; rw [tickX_step s hlt, HV4.out, if_pos HUp4.out] at this; exact this
        clear y1 y2 y3 y4
        go_wp2_with fail
        refine (power_b _ _ _ _ true W3 HP4.out HUp4.out).mono ?_
        rintro e w5 ⟨rfl, hx⟩
        subst w5
        go_wp2_with fail
        go_roundw
        case rel => exact ⟨q + 1, V4, by omega, by go_num, HT4.out, (by have := HUp4.out; show (V4.nd s).l ≠ -2; unfold upN at this; simpa using this), HO.out.mono (by omega)⟩
        case measure => simp [intOf]; omega
      · have hcmp : ∀ w, (binOp .eql 43 (.agg #[.int .i64 (h1 : Int), .int .i64 (h2 : Int), .int .i64 (h3 : Int)]) (.agg #[.int .i64 0, .int .i64 0, .int .i64 0])).run Tryz.prog w = .ok (.bool false) w := st_is0 h1 h2 h3 false (decide_eq_false hz)
        have HNz : Hid (¬ stN (Vq.nd s) q = St.zero) := fun e => hz (by rw [HST.out] at e; exact ⟨congrArg St.ph e, congrArg St.pr e, congrArg St.at_ e⟩)
        obtain ⟨fb, HF⟩ : ∃ fb, Hid (finB h1 = fb) := ⟨_, rfl⟩
        clear hz
        cases fb with
        | true =>
          obtain ⟨V4, HV⟩ : ∃ V4, Hid (sendX Vq (toL s q 7 h2 h1 zs.length) = V4) := ⟨_, rfl⟩
          have HV4 : Hid (tickD zs Vq s q = V4) := by
            rw [← HV.out]
            unfold tickD
            rw [if_neg HNz.out, HST.out, if_pos HF.out]
            exact rfl
          have HUp4 : Hid (upN (V4.nd s) = true) := by rw [← HV.out]; have := HUq.out; show upN (Vq.nd s) = true; unfold upN; simpa using this
          have HTe := hid (tellEnd_any s q h1 h2 h3 H3.out HS.out hlt HGd.out.1 HGd.out.2 (by omega))
          rw [key_xb HG.out.2.1, HV.out] at HTe
          go_wp2_with (go_at_call 83; refine (wisEnd_is h1 true _ HF.out).mono ?_; rintro e w9 ⟨rfl, hx⟩; subst w9)
          refine HTe.out.mono ?_
          rintro e w4 ⟨rfl, ho4⟩
          have HO : Hid (WOut w0 w w4 C X zs V4 (m + 7 * q + 7)) := WOut.step (C1 := C1) (X1 := X1) HG.out.2.1 (HG.out.2.2.1.trans (Kept.of_below HB3.out)) HG.out.2.2.2 ho4
          clear ho4
          obtain ⟨C4, X4, y1, y2, y3, y4⟩ := HO.out
          obtain ⟨e0, e1, e2⟩ := (y1.nds s HS.out).way
          rw [key_nd y2] at e0
          have HP4 := hid (y1.nds s HS.out).sp.jp.pl
          have HT4 : Hid (tickX zs s (6 - (q + 1)) (q + 1) V4 = T) := by have := HTq.out; rw [tickX_step s hlt, HV4.out, if_pos HUp4.out] at this; exact this
          clear y1 y2 y3 y4
          go_wp2_with fail
          refine (power_b _ _ _ _ true w4 HP4.out HUp4.out).mono ?_
          rintro e w5 ⟨rfl, hx⟩
          subst w5
          go_wp2_with fail
          go_roundw
          case rel => exact ⟨q + 1, V4, by omega, by go_num, HT4.out, (by have := HUp4.out; show (V4.nd s).l ≠ -2; unfold upN at this; simpa using this), HO.out.mono (by omega)⟩
          case measure => simp [intOf]; omega
        | false =>
          obtain ⟨V4, HV⟩ : ∃ V4, Hid (tryX zs Vq s q (attemptX zs.length s (aboveN (Vq.nd s) q)) = V4) := ⟨_, rfl⟩
          have HV4 : Hid (tickD zs Vq s q = V4) := by
            rw [← HV.out]
            unfold tickD
            rw [if_neg HNz.out, HST.out, if_neg (by rw [HF.out]; decide)]
            exact rfl
          have HTr := hid (try_any s q h2 H3.out HE.out HS.out hlt HUq.out (by omega) (by rw [HST.out]))
          rw [key_xb HG.out.2.1, HV.out] at HTr
          go_wp2_with (go_at_call 83; refine (wisEnd_is h1 false _ HF.out).mono ?_; rintro e w9 ⟨rfl, hx⟩; subst w9)
          refine HTr.out.mono ?_
          rintro e w4 ⟨rfl, ho4⟩
          have HO : Hid (WOut w0 w w4 C X zs V4 (m + 7 * q + 7)) := WOut.step (C1 := C1) (X1 := X1) HG.out.2.1 (HG.out.2.2.1.trans (Kept.of_below HB3.out)) HG.out.2.2.2 ho4
          clear ho4
          obtain ⟨u, HUp4⟩ : ∃ u, Hid (upN (V4.nd s) = u) := ⟨_, rfl⟩
          cases u with
          | true =>
            obtain ⟨C4, X4, y1, y2, y3, y4⟩ := HO.out
            obtain ⟨e0, e1, e2⟩ := (y1.nds s HS.out).way
            rw [key_nd y2] at e0
            have HP4 := hid (y1.nds s HS.out).sp.jp.pl
            have HT4 : Hid (tickX zs s (6 - (q + 1)) (q + 1) V4 = T) := by have := HTq.out; rw [tickX_step s hlt, HV4.out, if_pos HUp4.out] at this; exact this
            clear y1 y2 y3 y4
            go_wp2_with fail
            refine (power_b _ _ _ _ true w4 HP4.out HUp4.out).mono ?_
            rintro e w5 ⟨rfl, hx⟩
            subst w5
            go_wp2_with fail
            go_roundw
            case rel => exact ⟨q + 1, V4, by omega, by go_num, HT4.out, (by have := HUp4.out; show (V4.nd s).l ≠ -2; unfold upN at this; simpa using this), HO.out.mono (by omega)⟩
            case measure => simp [intOf]; omega
          | false =>
            obtain ⟨C4, X4, y1, y2, y3, y4⟩ := HO.out
            obtain ⟨e0, e1, e2⟩ := (y1.nds s HS.out).way
            rw [key_nd y2] at e0
            have HP4 := hid (y1.nds s HS.out).sp.jp.pl
            have HT4 : Hid (V4 = T) := by have := HTq.out; rw [tickX_step s hlt, HV4.out, if_neg (by rw [HUp4.out]; decide)] at this; exact this
            clear y1 y2 y3 y4
            go_wp2_with fail
            refine (power_b _ _ _ _ false w4 HP4.out HUp4.out).mono ?_
            rintro e w5 ⟨rfl, hx⟩
            subst w5
            go_wp2_with fail
            go_ret
            refine ⟨rfl, ?_⟩
            rw [← HT4.out]
            exact HO.out.mono (by omega)
    · obtain rfl : q = 6 := by omega
      go_wp2_with fail
      go_ret
      refine ⟨rfl, ?_⟩
      rw [← HTq.out]
      exact ⟨C1, X1, HG.out.1, HG.out.2.1, HG.out.2.2.1, HG.out.2.2.2⟩
set_option maxRecDepth 100000 in
theorem tick_any (s : Int) (c : Nat) (h : WD w0 w C X zs V m) (hE : Held9 w0 A) (hm : m < 900000) (hc : cUp zs.length V s = c) :
    Calls Tryz.prog 55 #[.pointer (some ⟨X.xb, 0, none⟩), .int .i64 s] w fun e w' => e = .returned (ev A c) ∧ WOut w0 w w' C X zs (if c = 0 then tickX zs s.toNat 6 0 V else V) (m + 42) := by
  have H := hid h
  have HE := hid hE
  have HE1 := hid (h.held hE)
  clear h hE
  subst hc
  by_cases hs : 0 ≤ s ∧ s < zs.length
  · obtain ⟨k, rfl⟩ := Int.eq_ofNat_of_zero_le hs.1
    have hk : k < zs.length := by omega
    have HK := hid hk
    obtain ⟨b, HB⟩ : ∃ b, Hid (((V.nd k).l != -2) = b) := ⟨_, rfl⟩
    have HU : Hid (upN (V.nd k) = b) := HB.out
    cases b with
    | true =>
      have e : cUp zs.length V k = 0 := by unfold cUp; rw [if_pos hs, Int.toNat_natCast, HU.out, if_pos rfl]
      rw [e, if_pos rfl, Int.toNat_natCast]
      exact tick_ok k H.out HE.out hk (by have := HB.out; simpa using this) hm
    | false =>
      have e : cUp zs.length V k = 6 := by unfold cUp; rw [if_pos hs, Int.toNat_natCast, HU.out, if_neg (by decide)]
      rw [e]
      clear e hs hk
      go_enter Tryz.func55, Tryz.ntmps55
      go_wp2_with fail
      refine (find_ok k H.out HK.out).mono ?_
      rintro e w1 ⟨rfl, hx⟩
      subst w1
      go_wp2_with fail
      refine (powered_is false (H.out.nds k HK.out) HE1.out HB.out).mono ?_
      rintro e w1 ⟨rfl, hb⟩
      rw [if_neg (by decide), if_neg (by decide)]
      have HB1 := hid hb
      clear hb
      go_wp2_with fail
      go_ret
      exact ⟨rfl, H.out.out HB1.out (by omega)⟩
  · have e : cUp zs.length V s = 2 := by unfold cUp; rw [if_neg hs]
    rw [e]
    have HS := hid hs
    clear e hs
    go_enter Tryz.func55, Tryz.ntmps55
    go_wp2_with fail
    refine (find_no s H.out HE.out HS.out).mono ?_
    rintro e w1 ⟨rfl, hb⟩
    have HB1 := hid hb
    clear hb
    go_wp2_with fail
    refine (powered_err _ _).mono ?_
    rintro e w2 ⟨rfl, hx⟩
    subst w2
    go_wp2_with fail
    go_ret
    exact ⟨rfl, H.out.out HB1.out (by omega)⟩
end
end Go.Proofs.YtdpemmmbkjmplabGreatDoor
namespace Go.Proofs.YtdpemmmbkjmplabGreatDoor
open Go.RowKit

/-- The list with the frame once more. -/
def insL (L : List F9) (i : Nat) (F : F9) : List F9 := L.take i ++ F :: L.drop i
theorem insL_cells (L : List F9) (i : Nat) (F : F9) : frCells (insL L i F) = (frCells L).take (i * 9) ++ f9L F ++ (frCells L).drop (i * 9) := by
  unfold insL
  rw [frCells_append, frCells_cons, frCells_take, frCells_drop, List.append_assoc]
theorem insL_length (L : List F9) (i : Nat) (F : F9) (h : i ≤ L.length) : (insL L i F).length = L.length + 1 := by unfold insL; rw [List.length_append, List.length_take, List.length_cons, List.length_drop]; omega
theorem insL_get (L : List F9) (i : Nat) (F : F9) (h : i ≤ L.length) (j : Nat) : (frCells (insL L i F))[j]? = if j < i * 9 then (frCells L)[j]? else if j < i * 9 + 9 then (f9L F)[j - i * 9]? else (frCells L)[j - 9]? := by
  have hl : ((frCells L).take (i * 9)).length = i * 9 := by rw [List.length_take, frCells_length]; omega
  rw [insL_cells]
  by_cases h1 : j < i * 9
  · rw [if_pos h1, List.append_assoc, List.getElem?_append_left (by omega), List.getElem?_take_of_lt h1]
  · rw [if_neg h1]
    by_cases h2 : j < i * 9 + 9
    · rw [if_pos h2, List.append_assoc, List.getElem?_append_right (by omega), hl, List.getElem?_append_left (by rw [f9L_length]; omega)]
    · rw [if_neg h2, List.getElem?_append_right (by rw [List.length_append, hl, f9L_length]; omega), List.length_append, hl, f9L_length, List.getElem?_drop]
      congr 1
      omega
set_option maxHeartbeats 4000000 in
set_option maxRecDepth 100000 in
theorem ins_room (base b o n c i vb : Nat) (cur : Array Value) (L : List F9) (F : F9) (w : World) (hb : w.heap[b]? = some (.cells cur 93 (0, 0))) (hbase : base ≤ b) (hL : L.length = n) (hnc : n + 1 ≤ c) (hcm : c ≤ maxLen) (hsz : o + c * 9 ≤ cur.size) (htk : ∀ j, j < n * 9 → cur[o + j]? = (frCells L)[j]?) (hi : i < n) (hvb : w.heap[vb]? = some (.cells (f9L F).toArray 93 (0, 0))) (hne : vb ≠ b) :
    Calls Tryz.prog 86 #[.slice (some ⟨b, o, none⟩) n c, .int .i64 (i : Int), .slice (some ⟨vb, 0, none⟩) 1 1] w fun e w' => e = .returned (.slice (some ⟨b, o, none⟩) (n + 1) c) ∧ OwnF w' base (.slice (some ⟨b, o, none⟩) (n + 1) c) (insL L i F) ∧ Kept (In1 b) w w' := by
  have h63 : c ≤ 9223372036854775807 := by unfold maxLen at hcm; omega
  have hmul : (n + 1) * 9 ≤ c * 9 := Nat.mul_le_mul_right 9 hnc
  have hcell : ∀ x, x < n * 9 → w.cell? ⟨b, o + x, none⟩ = (frCells L)[x]? := fun x hx => by
    rw [cell_of_row _ _ _ _ _ _ hb, htk x hx]
  have hsome : ∀ x, x < c * 9 → (w.cell? ⟨b, o + x, none⟩).isSome = true := fun x hx => by
    rw [cell_of_row _ _ _ _ _ _ hb, Array.getElem?_eq_getElem (by omega)]; rfl
  have hfz : ∀ x, w.frozen? ⟨b, x, none⟩ = false := fun x => frozen_of_row _ _ _ _ _ hb
  have hLl := frCells_length L
  have hdl : (frCells (L.drop i)).length = (n - i) * 9 := by rw [frCells_length, List.length_drop, hL]
  obtain ⟨W1, HW1⟩ : ∃ W1, Hid (w.drew.setCells b (o + (i + 1) * 9) (frCells (L.drop i)) = W1) := ⟨_, rfl⟩
  have hfit : o + (i + 1) * 9 + (frCells (L.drop i)).length ≤ cur.size := by rw [hdl]; omega
  obtain ⟨CR, hCR⟩ : ∃ CR, CR = (cur.toList.take (o + (i + 1) * 9) ++ frCells (L.drop i) ++ cur.toList.drop (o + (i + 1) * 9 + (frCells (L.drop i)).length)) := ⟨_, rfl⟩
  have HR1 : Hid (W1.heap[b]? = some (.cells CR.toArray 93 (0, 0))) := by
    rw [← HW1.out, hCR]; exact row_setCells _ _ w.drew cur hb hfit
  have hCg : ∀ k, CR[k]? = if k < o + (i + 1) * 9 then cur.toList[k]? else if k < o + (i + 1) * 9 + (frCells (L.drop i)).length then (frCells (L.drop i))[k - (o + (i + 1) * 9)]? else cur.toList[k]? := fun k => by
    rw [hCR]; exact get_spliced _ _ _ _ (by rw [Array.length_toList (xs := cur)]; exact hfit)
  have HK1 : Hid (Kept (In1 b) w W1) := by rw [← HW1.out]; exact (Kept.refl _ w).drew.trans (kept_setCells b _ _ _)
  have hs1 : CR.length = cur.size := by
    rw [hCR, List.length_append, List.length_append, List.length_take, List.length_drop, hdl, Array.length_toList (xs := cur)]; omega
  have hcp1 : ∀ ty dc sc, (Builtin.copy_ #[34, 34] ty #[.slice (some ⟨b, o + (i + 1) * 9, none⟩) (n - i) dc, .slice (some ⟨b, o + i * 9, none⟩) (n + 1 - i) sc]).run Tryz.prog w.drew = .ok (goInt ((n - i : Nat) : Int)) W1 := fun ty dc sc => by
    rw [← HW1.out]
    exact run_copy_frs w.drew 34 ty b (o + (i + 1) * 9) (n - i) dc ⟨b, o + i * 9, none⟩ (n + 1 - i) sc (n - i) (frCells (L.drop i)) (by simp only [Nat.min_def]; split <;> omega) hdl
      (fun j v hj => by
        have hjl := (List.getElem?_eq_some_iff.1 hj).1
        rw [hdl] at hjl
        rw [addr_add]
        show w.cell? ⟨b, o + i * 9 + j, none⟩ = some v
        rw [Nat.add_assoc, hcell _ (by omega), ← hj, frCells_drop, List.getElem?_drop])
      (fun j hj => by rw [hdl] at hj; rw [Nat.add_assoc]; exact hsome _ (by omega)) (fun j _ => hfz _) (frCells_one _)
  have hcp2 : ∀ ty dc, (Builtin.copy_ #[34, 34] ty #[.slice (some ⟨b, o + i * 9, none⟩) (n + 1 - i) dc, .slice (some ⟨vb, 0, none⟩) 1 1]).run Tryz.prog W1 = .ok (goInt 1) (W1.setCells b (o + i * 9) (f9L F)) := fun ty dc =>
    run_copy_frs W1 34 ty b (o + i * 9) _ dc ⟨vb, 0, none⟩ 1 1 1 (f9L F) (by simp only [Nat.min_def]; split <;> omega) rfl
      (fun j v hj => by
        rw [addr_add, cell_of_row _ _ _ _ _ _ (HK1.out.row hvb hne), List.getElem?_toArray, Nat.zero_add]
        exact hj)
      (fun j hj => by rw [cell_of_row _ _ _ _ _ _ HR1.out, List.getElem?_toArray, List.getElem?_eq_getElem (by rw [hs1]; rw [f9L_length] at hj; omega)]; rfl) (fun j _ => frozen_of_row _ _ _ _ _ HR1.out) (f9_oneQ F)
  have hov : ∀ lb cb, (callFunc 107 #[.slice (some ⟨vb, 0, none⟩) 1 1, .slice (some ⟨b, o + (i + 1) * 9, none⟩) lb cb]).run Tryz.prog w = .ok (.value (.bool false)) w := fun lb cb => by
    rw [run_callFunc_extern Tryz.func107 (by kernel_rfl) (by kernel_rfl) (by kernel_rfl) (e := Extern.SlicesOverlaps.overlaps #[34, 34] #[4]) (by kernel_rfl),
      Lib.run_overlaps_apart w 34 4 93 Tryz.underlying34 9 sizeFr ⟨vb, 0, none⟩ ⟨b, o + (i + 1) * 9, none⟩ 1 1 lb cb hne 93 93 9 cur.size (by unfold World.shape?; rw [show w.heap[(⟨vb, 0, none⟩ : Addr).block]? = _ from hvb]; rfl) (by unfold World.shape?; rw [show w.heap[(⟨b, o + (i + 1) * 9, none⟩ : Addr).block]? = _ from hb]) (by omega) (frozen_of_row _ _ _ _ _ hvb) (frozen_of_row _ _ _ _ _ hvb)]
    rfl
  have HF : Hid (OwnF (W1.setCells b (o + i * 9) (f9L F)) base (.slice (some ⟨b, o, none⟩) (n + 1) c) (insL L i F)) := by
    have hfit2 : o + i * 9 + (f9L F).length ≤ CR.length := by rw [hs1, f9L_length]; omega
    have hr := row_setCells (f9L F) (o + i * 9) W1 _ HR1.out (by rw [List.size_toArray]; exact hfit2)
    have hil : (insL L i F).length = n + 1 := by rw [insL_length L i F (by omega), hL]
    refine .inr ⟨b, o, c, _, by rw [hil], hbase, hr, by rw [hil]; exact hnc, hcm, ?_, fun j hj => ?_⟩
    · rw [List.size_toArray, List.length_append, List.length_append, List.length_take, List.length_drop, List.toList_toArray, hs1, f9L_length]; omega
    · rw [hil] at hj
      rw [List.getElem?_toArray, List.toList_toArray, get_spliced _ _ _ _ hfit2, insL_get L i F (by omega), f9L_length]
      by_cases h1 : j < i * 9
      · rw [if_pos (by omega), if_pos h1, hCg, if_pos (by omega), Array.getElem?_toList, htk j (by omega)]
      · rw [if_neg (by omega), if_neg h1]
        by_cases h2 : j < i * 9 + 9
        · rw [if_pos (by omega), if_pos h2, show o + j - (o + i * 9) = j - i * 9 by omega]
        · rw [if_neg (by omega), if_neg h2, hCg, if_neg (by omega), if_pos (by omega), frCells_drop, List.getElem?_drop, show i * 9 + (o + j - (o + (i + 1) * 9)) = j - 9 by omega]
  have hq1 : ¬ (c = i + 1) := by omega
  have hq2 : ¬ (c = i) := by omega
  have hq3 : i ≤ n + 1 := by omega
  have hq4 : i + 1 ≤ n + 1 := by omega
  have hw1 : IntKind.i64.wrap ((i : Int) + 1) = (i : Int) + 1 := by rw [IntKind.wrap_i64]; omega
  have hb1 : (0 : Int) ≤ (i : Int) + 1 := by omega
  have htn : ((i : Int) + 1).toNat = i + 1 := by omega
  have hb5 : (i : Int) ≤ (n : Int) := by omega
  have hb6 : (i : Int) ≤ (n : Int) + 1 := by omega
  have HK2 : Hid (Kept (In1 b) w (W1.setCells b (o + i * 9) (f9L F))) := HK1.out.trans (kept_setCells b _ _ _)
  clear hcell hsome hfz hb hvb htk hsz hLl hdl hs1 hmul hCR hCg hfit
  go_enter Tryz.func86, Tryz.ntmps86
  go_wp2_with (simp only [hov])
  go_region_law (refine step_copy_runF rfl _ _ 34 34 rfl _ _ (by simp [Act.eval, Act.put]) (by simp [Act.eval, Act.put]) (hcp1 _ _ _) ?_)
  go_wp2_with (at_builtin; refine wpList_copy_runF _ rfl _ _ 34 34 rfl _ _ rfl rfl (hcp2 _ _) ?_)
  go_ret
  exact ⟨rfl, HF.out, HK2.out⟩
end Go.Proofs.YtdpemmmbkjmplabGreatDoor
