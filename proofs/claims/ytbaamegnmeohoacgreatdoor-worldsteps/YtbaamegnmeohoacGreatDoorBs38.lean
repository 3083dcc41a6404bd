/-
  On the way to WStepsProof: YHB GW X8 UA X9.
-/
import Derived.Test.YtbaamegnmeohoacGreatDoorBs14
import Derived.Test.YtbaamegnmeohoacGreatDoorBs3
import Derived.Test.YtbaamegnmeohoacGreatDoorBs1
import Derived.Test.YtbaamegnmeohoacGreatDoorBs37
import Derived.Test.YtbaamegnmeohoacGreatDoorBs18
import Derived.Deep.RegionLaw
import Derived.Maps.AppendAt
import Derived.Lib.MinMax
import Derived.BigRegion
import Derived.RegionTactic
import Derived.Laws.StructEq
import Derived.BigQuiet
namespace Go.Proofs.YtbaamegnmeohoacGreatDoor
open Go.RowKit
theorem Tryz.infoME : (Tryz.prog.info? 132).map (fun i => (i.zero, i.size, i.bytes)) = some (some (.agg #[.int .i64 0, .int .i64 0, .int .i64 0]), 3, 24) := by kernel_rfl
theorem me3_one (x : E3) : ∀ u ∈ e3L x, u.oneCell' = true := by
  intro u hu
  simp [e3L] at hu
  rcases hu with rfl | rfl | rfl <;> rfl
theorem step_append_me1 {w : World} {ops : Array Oper} {o : Oper} {a : Act} {K : Act → World → Prop} {Q : Exit → Act → World → Prop} {E : Prop} (hgd : o.guard = none) (s x : Operand)
    (ho : o.op = .call { callee := .builtin .append, args := #[s, x], argTypes := #[52, 52] })
    (base n : Nat) (v : Value) (xs : List Value) (ad : Addr) (c : Nat) (F : E3) (hs : a.eval s = v) (hx : a.eval x = .slice (some ad) 1 c) (hown : w.ownsRow base 132 3 v n xs) (hu : ∀ j u, (e3L F)[j]? = some u → w.cell? (ad.add j) = some u) (hn : n ≤ 1000000000000) (hb : base ≤ w.heap.size)
    (h : ∀ ad' cap' w', w'.ownsRow base 132 3 (.slice ad' (n + 1) cap') (n + 1) (xs ++ e3L F) → w.grownBy w' v.ownBlock → K (a.put o.dst (.slice ad' (n + 1) cap')) w') :
    if Region.wanted o (yielded ops a.tmps) = true then Oper.wp Tryz.prog o a w K Q else E := by
  have hw : Region.wanted o (yielded ops a.tmps) = true := by simp [Region.wanted, hgd]
  rw [if_pos hw]
  obtain ⟨i0, hi0, hz0, hz1, hz2⟩ := info_parts Tryz.infoME
  obtain ⟨v', w', hr, h2, h3, -, -⟩ := run_append_own_at (P := Tryz.prog) w base 52 o.type 132 i0 _ 3 24 Tryz.underlying52 hi0 hz0 hz1 hz2 rfl (by decide) v n xs hown ad 1 c (e3L F) rfl hu (me3_one F) (by unfold maxLen; omega) (by omega) hb
  obtain ⟨ad', cap', rfl⟩ : ∃ ad' cap', v' = .slice ad' (n + 1) cap' := by
    rcases h2.2 with ⟨e, h0⟩ | ⟨g, cap, cur, e, -⟩
    · omega
    · exact ⟨_, _, e⟩
  unfold Oper.wp execOp
  simp only [ho, resolve, invoke, builtin, Sem.run_bind, Sem.run_pure, Result.andThen_ok, List.map_toArray, List.map_cons, List.map_nil, hs, hx, hr]
  exact h ad' cap' w' h2 h3
theorem lit_cellsM (w : World) (t : TypeId) (L : List Value) : ∀ j u, L[j]? = some u → (w.alloc (.cells L.toArray t)).cell? ((⟨w.heap.size, 0, none⟩ : Addr).add j) = some u := by
  intro j u h
  rw [addr_add, cell_of_row _ _ _ _ _ _ (heap_alloc_new w _), List.getElem?_toArray, Nat.zero_add]
  exact h
theorem evs_take (L : List E3) (k : Nat) (h : k < L.length) : evCells (L.take (k + 1)) = evCells (L.take k) ++ e3L (L[k]'h) := by
  unfold evCells
  rw [take_snoc L k h, List.flatMap_append, List.flatMap_singleton]
set_option maxHeartbeats 4000000 in
set_option maxRecDepth 100000 in
theorem backEvents_any (ad : Option Addr) (cap : Nat) (L : List E3) (w : World) (hL : EL w ad L) (hl : L.length ≤ 1000) :
    Calls Tryz.prog 25 #[.slice ad L.length cap] w fun e w' => ∃ ad' cap', e = .returned (.slice ad' L.length cap') ∧ EL w' ad' L ∧ Below w.heap.size w w' := by
  have HL := hid hL
  clear hL
  go_enter Tryz.func25, Tryz.ntmps25
  go_wp2_with fail
  go_loopw [3, 4] (fun v i wr => ∃ k : Nat, k ≤ L.length ∧ i = .int .i64 (k : Int) ∧ wr.ownsRow w.heap.size 132 3 v k (evCells (L.take k)) ∧ Below w.heap.size w wr) (fun _ i _ => L.length - (intOf i).toNat)
  case atStart => exact ⟨0, Nat.zero_le _, rfl, World.ownsRow_nil _ _ _ _, Below.refl _ _⟩
  case round =>
    obtain ⟨k, hk, rfl, hown, hb⟩ := hrel
    have HB := hid hb
    by_cases hlt : k < L.length
    · obtain ⟨b, o, rfl, y0, y1, y2⟩ := HL.out k hlt
      obtain ⟨⟨es, ed, ep⟩, HS⟩ : ∃ e, Hid (L[k]'hlt = e) := ⟨_, rfl⟩
      rw [HS.out] at y0 y1 y2
      replace y0 := cell_later hb y0
      replace y1 := cell_later hb y1
      replace y2 := cell_later hb y2
      obtain ⟨W2, HW2⟩ : ∃ W2, Hid (wr.drew.alloc (.cells #[.int .i64 es, .int .i64 ed, .int .i64 ep] 132) = W2) := ⟨_, rfl⟩
      have hW2 := HW2.out
      have HB2 : Hid (Below wr.heap.size wr W2) := by rw [← HW2.out]; exact (Below.refl _ _).drew.alloc (Nat.le_refl _) _
      have HO : Hid (W2.ownsRow w.heap.size 132 3 u3 k (evCells (L.take k))) := own_later hown HB2.out (Nat.le_refl _)
      have HLit : Hid (∀ j u, (e3L ⟨es, ed, ep⟩)[j]? = some u → W2.cell? ((⟨wr.heap.size, 0, none⟩ : Addr).add j) = some u) := by rw [← HW2.out]; exact lit_cellsM wr.drew 132 (e3L ⟨es, ed, ep⟩)
      have HTk := hid (evs_take L k hlt)
      rw [HS.out] at HTk
      have hbs : w.heap.size ≤ W2.heap.size := Nat.le_trans hb.size HB2.out.size
      have hk60 : k ≤ 1000000000000 := by omega
      have HBo : Hid (∀ w', W2.grownBy w' u3.ownBlock → Below w.heap.size w w') := fun w' hg => Below.grown (below_trans HB.out HB2.out) hg hbs (fun q hq => (HO.out.lt q hq).1)
      clear hb hown
      go_wp2_with fail
      go_region_law ((refine step_append_me1 (by rfl) _ _ (by rfl) w.heap.size k u3 (evCells (L.take k)) ⟨wr.heap.size, 0, none⟩ 1 ⟨es, ed, ep⟩ (by rfl) (by rfl) (by exact HO.out) (by exact HLit.out) hk60 hbs ?_; intro ad' cap' w' hown hg; have HS2 := hid (And.intro hown (HBo.out w' hg)); clear hown hg))
      all_goals go_wp2_with fail
      all_goals go_roundw
      all_goals first | (simp [intOf]; omega) | skip
      all_goals exact ⟨k + 1, by omega, by go_num, by rw [HTk.out]; exact HS2.out.1, HS2.out.2⟩
    · obtain rfl : k = L.length := by omega
      rw [List.take_length] at hown
      obtain ⟨adO, capO, rfl, -, -, hO⟩ := own_el hown
      have HOw := hid hO
      have hk2 : ¬ ((L.length : Int) < (L.length : Int)) := by omega
      clear hown hb hO
      go_wp2_with fail
      go_ret
      exact ⟨_, ⟨_, rfl⟩, HOw.out, HB.out⟩
theorem own_base {w : World} {b b' : Nat} {e : TypeId} {size n : Nat} {v : Value} {xs : List Value} (h : w.ownsRow b e size v n xs) (hb : b' ≤ b) : w.ownsRow b' e size v n xs := by
  refine ⟨h.1, ?_⟩
  rcases h.2 with hn | ⟨g, cap, cur, rfl, hb', rest⟩
  · exact .inl hn
  · exact .inr ⟨g, cap, cur, rfl, Nat.le_trans hb hb', rest⟩
theorem OwnF.base {w : World} {b b' : Nat} {v : Value} {L : List F9} (h : OwnF w b v L) (hb : b' ≤ b) : OwnF w b' v L := by
  rcases h with h | ⟨g, o, cap, cur, rfl, hb', rest⟩
  · exact .inl h
  · exact .inr ⟨g, o, cap, cur, rfl, Nat.le_trans hb hb', rest⟩
section
variable {w0 w1 w w' : World} {C C' Ca Cb : Nat → Nat} {X Xa Xb : XB} {m ma mb : Nat} {zs : List Int} {V Va Vb : PX}
theorem WD.rebase (h : WD w1 w C X zs V m) (hb : Below w0.heap.size w0 w) (hs : w0.heap.size ≤ w1.heap.size) : WD w0 w C X zs V m := by
  refine ⟨hb, h.row, h.ws, h.ns, fun i hi => ?_, h.brk, h.fly.base hs, own_base h.evs hs, h.cx, h.cw, h.cn, h.cm, h.cf, h.ce, h.lt, fun x hx => Nat.le_trans hs (h.low x hx), h.inv⟩
  have n := h.nds i hi
  have p := n.sp
  have j := p.jp
  exact ⟨n.row, ⟨⟨hb, j.jr, j.pl, j.jp, j.jq, Nat.le_trans hs j.j0, Nat.le_trans hs j.p0, Nat.le_trans hs j.q0, j.l0, j.l1, j.sz, j.s6⟩, p.sr, p.ns, p.nm, p.sm, Nat.le_trans hs p.s0, Nat.le_trans hs p.m0⟩, n.lds, n.cn, n.cs, n.cj, n.cm, n.cp, n.cq, n.cl, Nat.le_trans hs n.n0⟩
def Apt (Ca Cb : Nat → Nat) : Prop := ∀ x, Ca x < 2000 → 2000 ≤ Cb x
theorem Apt.symm (h : Apt Ca Cb) : Apt Cb Ca := fun x hx => by
  rcases Nat.lt_or_ge (Ca x) 2000 with q | q
  · have := h x q; omega
  · exact q
theorem Apt.step (hB : WD w0 w Cb Xb zs Vb mb) (hd : Apt Ca Cb) (hc : ∀ x, x < w.heap.size → C' x = Ca x) : Apt C' Cb := fun x hx => by
  rcases Nat.lt_or_ge (Cb x) 2000 with q | q
  · have h1 := hB.lt x q
    rw [hc x h1] at hx
    have := hd x hx
    omega
  · exact q
end
theorem me_neq (s d p : Int) (w : World) : (binOp .neq 132 (.agg #[.int .i64 s, .int .i64 d, .int .i64 p]) (.agg #[.int .i64 s, .int .i64 d, .int .i64 p])).run Tryz.prog w = .ok (.bool false) w := by
  go_simp
set_option maxHeartbeats 2000000 in
set_option maxRecDepth 100000 in
theorem sameEvents_yes (a1 a2 : Option Addr) (c1 c2 : Nat) (L : List E3) (w : World) (h1 : EL w a1 L) (h2 : EL w a2 L) (hl : L.length ≤ 1000) :
    Calls Tryz.prog 24 #[.slice a1 L.length c1, .slice a2 L.length c2] w fun e w' => e = .returned (.bool true) ∧ Below w.heap.size w w' := by
  have HBk := hid (backEvents_any a1 c1 L w h1 hl)
  have H2 := hid h2
  have hne : ((L.length : Int) != (L.length : Int)) = false := by simp
  clear h1 h2
  go_enter Tryz.func24, Tryz.ntmps24
  go_wp2_with fail
  refine HBk.out.mono ?_
  rintro e w1 ⟨ad, cap, rfl, hel, hb⟩
  have HE := hid hel
  have HB := hid hb
  clear hel hb
  go_wp2_with fail
  go_loopw [6] (fun i wr => ∃ k : Nat, k ≤ L.length ∧ i = .int .i64 (k : Int) ∧ Hid (Below w1.heap.size w1 wr)) (fun i _ => L.length - (intOf i).toNat)
  case atStart => exact ⟨0, Nat.zero_le _, rfl, Below.refl _ _⟩
  case round =>
    obtain ⟨k, hk, rfl, HI⟩ := hrel
    by_cases hlt : k < L.length
    · obtain ⟨b1, o1, rfl, x0, x1, x2⟩ := (HE.out.later HI.out) k hlt
      obtain ⟨b2, o2, rfl, y0, y1, y2⟩ := ((H2.out.later HB.out).later HI.out) k hlt
      obtain ⟨⟨es, ed, ep⟩, HS⟩ : ∃ e, Hid (L[k]'hlt = e) := ⟨_, rfl⟩
      rw [HS.out] at x0 x1 x2 y0 y1 y2
      have hq := me_neq es ed ep
      go_wp2_with fail
      go_quiet (fail)
      go_wp2_with fail
      go_roundw
      case rel => exact ⟨k + 1, by omega, by go_num, below_drewN HI.out _⟩
      case measure => simp [intOf]; omega
    · have hlt2 : ¬ ((k : Int) < (L.length : Int)) := by omega
      have HB2 := hid (below_trans HB.out HI.out)
      go_wp2_with fail
      go_ret
      exact ⟨rfl, HB2.out⟩
set_option maxHeartbeats 1000000 in
set_option maxRecDepth 100000 in
theorem sameFrames_yes (v1 v2 : Value) (L : List F9) (w : World) (h1 : IsFr w v1 L) (h2 : IsFr w v2 L) (hl : L.length ≤ 1000000000000) :
    Calls Tryz.prog 22 #[v1, v2] w fun e w' => e = .returned (.bool true) ∧ Below w.heap.size w w' := by
  obtain ⟨a1, c1, rfl, f1⟩ := h1
  obtain ⟨a2, c2, rfl, f2⟩ := h2
  have H1 := hid f1
  have H2 := hid f2
  obtain ⟨n, hn⟩ : ∃ n, Hid (L.length = n) := ⟨_, rfl⟩
  have hne : ((L.length : Int) != (L.length : Int)) = false := by simp
  rw [hn.out] at hne hl ⊢
  clear f1 f2
  go_enter Tryz.func22, Tryz.ntmps22
  go_wp2_with fail
  go_loopw [5] (fun i wr => ∃ k : Nat, k ≤ n ∧ i = .int .i64 (k : Int) ∧ Below w.heap.size w wr) (fun i _ => n - (intOf i).toNat)
  case atStart => exact ⟨0, Nat.zero_le _, rfl, Below.refl _ _⟩
  case round =>
    obtain ⟨k, hk, rfl, hb⟩ := hrel
    have HB := hid hb
    by_cases hlt : k < n
    · have hkL : k < L.length := by rw [hn.out]; exact hlt
      obtain ⟨b1, o1, rfl, q1⟩ := (H1.out.later hb) k hkL
      obtain ⟨b2, o2, rfl, q2⟩ := (H2.out.later hb) k hkL
      obtain ⟨x, HX⟩ : ∃ x, Hid (L[k]'hkL = x) := ⟨_, rfl⟩
      rw [HX.out] at q1 q2
      obtain ⟨s0, s1, s2, s3, s4, s5, s6, s7, s8⟩ := nineO q1
      obtain ⟨t0, t1, t2, t3, t4, t5, t6, t7, t8⟩ := nineO q2
      have hq := fr_neq x.f x.t x.d x.k x.a x.y x.ph x.pr x.pa
      have hk0 : (0 : Int) ≤ (k : Int) := by omega
      have hk1 : (k : Int) < (n : Int) := by omega
      clear hb q1 q2
      go_wp2_with fail
      go_quiet (fail)
      rename Nat => nq
      go_wp2_with fail
      go_roundw
      case rel => exact ⟨k + 1, by omega, by go_num, below_drewN HB.out nq⟩
      case measure => simp [intOf]; omega
    · obtain rfl : k = n := by omega
      clear hb
      go_wp2_with fail
      go_ret
      exact ⟨rfl, HB.out⟩
set_option maxRecDepth 100000 in
theorem sl_nilF (b off n cap : Nat) (w : World) : (binOp .eql 49 (.slice (some ⟨b, off, none⟩) n cap) (.slice none 0 0)).run Tryz.prog w = .ok (.bool false) w := by
  rfl
set_option maxRecDepth 100000 in
theorem sl_nilF0 (w : World) : (binOp .eql 49 (.slice none 0 0) (.slice none 0 0)).run Tryz.prog w = .ok (.bool true) w := by
  rfl
set_option maxRecDepth 100000 in
theorem sl_nilE0 (w : World) : (binOp .eql 41 (.slice none 0 0) (.slice none 0 0)).run Tryz.prog w = .ok (.bool true) w := by
  rfl
set_option maxRecDepth 100000 in
theorem sl_nilE (b off n cap : Nat) (w : World) : (binOp .eql 41 (.slice (some ⟨b, off, none⟩) n cap) (.slice none 0 0)).run Tryz.prog w = .ok (.bool false) w := by
  rfl
set_option maxHeartbeats 1000000 in
set_option maxRecDepth 100000 in
theorem cloneFrs_any (base : Nat) (v : Value) (L : List F9) (w : World) (hv : OwnF w base v L) (hl : L.length ≤ 1000000000000) :
    Calls Tryz.prog 69 #[v] w fun e w' => ∃ v', e = .returned v' ∧ w'.ownsRow w.heap.size 130 9 v' L.length (frCells L) ∧ Below w.heap.size w w' := by
  have hf := hv.isFr
  rcases hv with ⟨e, h0⟩ | ⟨g, o, cap, cur, e, -⟩
  · subst e
    subst h0
    clear hf
    have hnil := sl_nilF0
    go_enter Tryz.func69, Tryz.ntmps69
    go_wp2_with fail
    go_ret
    exact ⟨_, rfl, World.ownsRow_nil _ _ _ _, Below.refl _ _⟩
  · subst e
    have hnil := sl_nilF g o L.length cap
    have HF := hid (hf.later ((Below.refl w.heap.size w).alloc (Nat.le_refl _) (.cells #[] 130)))
    have HOw : Hid ((w.alloc (.cells #[] 130)).ownsRow w.heap.size 130 9 (.slice (some ⟨w.heap.size, 0, none⟩) 0 0) 0 []) := World.ownsRow_lit w #[] 0 (Nat.le_refl _) (by unfold maxLen; omega) rfl
    clear hf
    go_enter Tryz.func69, Tryz.ntmps69
    go_wp2_with (at_builtin; refine wpList_append_frs rfl _ _ rfl w.heap.size 0 (.slice (some ⟨w.heap.size, 0, none⟩) 0 0) (.slice (some ⟨g, o, none⟩) L.length cap) [] L rfl rfl HOw.out HF.out (by omega) (by simp) ?_; intro ad' cap' w1 hown hg ho; have HS := hid (And.intro hown hg); clear hown hg ho)
    go_ret
    refine ⟨_, rfl, ?_, ((Below.refl w.heap.size w).alloc (Nat.le_refl _) (.cells #[] 130)).grown HS.out.2 (by simp) (fun j hj => (HOw.out.lt j hj).1)⟩
    have := HS.out.1
    simpa using this
theorem wpList_append_evs {w : World} {ops : Array Oper} {rest : List Oper} {o : Oper} {a : Act} {Q : Exit → Act → World → Prop} (hgd : o.guard = none) (s x : Operand)
    (ho : o.op = .call { callee := .builtin .append, args := #[s, x], argTypes := #[41, 41] })
    (base n : Nat) (v : Value) (ad : Addr) (c : Nat) (xs : List Value) (L : List E3) (hs : a.eval s = v) (hx : a.eval x = .slice (some ad) L.length c) (hown : w.ownsRow base 45 3 v n xs) (hu : ∀ j u, (evCells L)[j]? = some u → w.cell? (ad.add j) = some u) (hn : n + L.length ≤ 1000000000000) (hb : base ≤ w.heap.size)
    (h : ∀ ad' cap' w', w'.ownsRow base 45 3 (.slice ad' (n + L.length) cap') (n + L.length) (xs ++ evCells L) → w.grownBy w' v.ownBlock → wpList Tryz.prog ops Q rest (a.put o.dst (.slice ad' (n + L.length) cap')) w') :
    wpList Tryz.prog ops Q (o :: rest) a w := by
  obtain ⟨i0, hi0, hz0, hz1, hz2⟩ := info_parts Tryz.infoEv
  refine wpList_append_own_at w hgd s x 41 ho base 45 i0 _ 3 24 Tryz.underlying41 hi0 hz0 hz1 hz2 rfl (by decide) v n xs hs hown ad L.length c (evCells L) hx (evCells_length L) hu (fun u hu => ?_) (by unfold maxLen; omega) (by omega) hb ?_
  · unfold evCells at hu
    obtain ⟨y, -, hy⟩ := List.mem_flatMap.1 hu
    exact e3_one y u hy
  · intro v' w' h2 h3 _ h5
    obtain ⟨ad', cap', rfl⟩ : ∃ ad' cap', v' = .slice ad' (n + L.length) cap' := by
      rcases h2.2 with ⟨e, h0⟩ | ⟨g, cap, cur, e, -⟩
      · exact ⟨none, 0, by rw [e, h0]⟩
      · exact ⟨_, _, e⟩
    exact h ad' cap' w' h2 h3
set_option maxHeartbeats 1000000 in
set_option maxRecDepth 100000 in
theorem cloneEvs_any (base : Nat) (v : Value) (L : List E3) (w : World) (hv : w.ownsRow base 45 3 v L.length (evCells L)) (hl : L.length ≤ 1000000000000) :
    Calls Tryz.prog 67 #[v] w fun e w' => ∃ v', e = .returned v' ∧ w'.ownsRow w.heap.size 45 3 v' L.length (evCells L) ∧ Below w.heap.size w w' := by
  rcases hv.2 with ⟨e, h0⟩ | ⟨g, cap, cur, e, -⟩
  · subst e
    obtain rfl : L = [] := List.length_eq_zero_iff.1 h0
    clear hv h0
    have hnil := sl_nilE0
    go_enter Tryz.func67, Tryz.ntmps67
    go_wp2_with fail
    go_ret
    exact ⟨_, rfl, World.ownsRow_nil _ _ _ _, Below.refl _ _⟩
  · subst e
    have hnil := sl_nilE g 0 L.length cap
    have HF : Hid (∀ j u, (evCells L)[j]? = some u → (w.alloc (.cells #[] 45)).cell? ((⟨g, 0, none⟩ : Addr).add j) = some u) := fun j u hu => cell_alloc _ (hv.cells rfl j u hu)
    have HOw : Hid ((w.alloc (.cells #[] 45)).ownsRow w.heap.size 45 3 (.slice (some ⟨w.heap.size, 0, none⟩) 0 0) 0 []) := World.ownsRow_lit w #[] 0 (Nat.le_refl _) (by unfold maxLen; omega) rfl
    clear hv
    go_enter Tryz.func67, Tryz.ntmps67
    go_wp2_with (at_builtin; refine wpList_append_evs rfl _ _ rfl w.heap.size 0 (.slice (some ⟨w.heap.size, 0, none⟩) 0 0) ⟨g, 0, none⟩ cap [] L rfl rfl HOw.out HF.out (by omega) (by simp) ?_; intro ad' cap' w1 hown hg; have HS := hid (And.intro hown hg); clear hown hg)
    go_ret
    refine ⟨_, rfl, ?_, ((Below.refl w.heap.size w).alloc (Nat.le_refl _) (.cells #[] 45)).grown HS.out.2 (by simp) (fun j hj => (HOw.out.lt j hj).1)⟩
    have := HS.out.1
    simpa using this
section
variable {w0 w w' : World} {C C' : Nat → Nat} {K : NB} {X : XB} {i m m' : Nat} {zs : List Int} {N : PN} {V V' : PX} {A : Nat → Addr}
set_option maxRecDepth 100000 in
theorem flying_any (h : WD w0 w C X zs V m) (hm : m ≤ 100000000) :
    Calls Tryz.prog 23 #[.pointer (some ⟨X.xb, 0, none⟩)] w fun e w' => ∃ v', e = .returned v' ∧ w'.ownsRow w.heap.size 130 9 v' V.fly.length (frCells V.fly) ∧ Below w.heap.size w w' := by
  obtain ⟨-, -, -, c3, -⟩ := h.cells
  have HC := hid (cloneFrs_any w0.heap.size X.fv V.fly w h.fly (by have := h.inv.fl; omega))
  generalize X.fv = fv at c3 HC
  clear h
  go_enter Tryz.func23, Tryz.ntmps23
  go_wp2_with fail
  refine HC.out.mono ?_
  rintro e w1 ⟨v', rfl, h1, h2⟩
  have HH := hid (And.intro h1 h2)
  clear h1 h2
  go_wp2_with fail
  go_ret
  exact ⟨_, rfl, HH.out⟩
set_option maxRecDepth 100000 in
theorem events_any (h : WD w0 w C X zs V m) :
    Calls Tryz.prog 19 #[.pointer (some ⟨X.xb, 0, none⟩)] w fun e w' => ∃ v', e = .returned v' ∧ w'.ownsRow w.heap.size 45 3 v' V.evs.length (evCells V.evs) ∧ Below w.heap.size w w' := by
  obtain ⟨-, -, -, -, c4⟩ := h.cells
  have HC := hid (cloneEvs_any w0.heap.size X.ev V.evs w h.evs (by have := h.inv.ev; omega))
  generalize X.ev = fv at c4 HC
  clear h
  go_enter Tryz.func19, Tryz.ntmps19
  go_wp2_with fail
  refine HC.out.mono ?_
  rintro e w1 ⟨v', rfl, h1, h2⟩
  have HH := hid (And.intro h1 h2)
  clear h1 h2
  go_wp2_with fail
  go_ret
  exact ⟨_, rfl, HH.out⟩
end
theorem stP_B {n : Nat} (h : n < 4) : stP n = stB n := by
  have : n = 0 ∨ n = 1 ∨ n = 2 ∨ n = 3 := by omega
  rcases this with rfl | rfl | rfl | rfl <;> rfl
section
variable {w0 v0 w w1 w' : World} {C D : Nat → Nat} {X : XB} {Y : YB} {aw : Option Addr} {i n cap m m' : Nat} {zs : List Int} {V : PX} {A : Nat → Addr}
set_option maxHeartbeats 4000000 in
set_option maxRecDepth 100000 in
theorem asWorld_any (h : WD w0 w C X zs V m) (k : RW v0 w D Y aw cap zs V m') (hE : Held9 w0 A) (hm : m ≤ 100000000) :
    Calls Tryz.prog 16 #[.pointer (some ⟨X.xb, 0, none⟩), .pointer (some ⟨Y.xb, 0, none⟩)] w fun e w' => e = .returned (.bool true) ∧ Below w.heap.size w w' := by
  have HW := hid h
  have HR := hid k
  have HE := hid hE
  have HEw := hid (h.held hE)
  have n7 := h.n7
  obtain ⟨ae, ce, hev, -, -, hel⟩ := own_el k.evs
  obtain ⟨af, cf, hfv, hfl⟩ := IsFr.owned k.fly
  obtain ⟨-, c1, -, c3, c4⟩ := k.cells
  rw [hev] at c4
  rw [hfv] at c3
  have HEL := hid hel
  have HFL := hid hfl
  have hle : V.evs.length ≤ 500 := h.inv.ev
  have hlf : V.fly.length ≤ 1000000000000 := by have := h.inv.fl; omega
  have HEv : Hid (∀ W', Below w.heap.size w W' → Calls Tryz.prog 19 #[.pointer (some ⟨X.xb, 0, none⟩)] W' fun e w' => ∃ a1 cp1, e = .returned (.slice a1 V.evs.length cp1) ∧ EL w' a1 V.evs ∧ Below w.heap.size w w') := fun W' hb => by
    refine (events_any (HW.out.later hb)).mono ?_
    rintro e w1 ⟨v', rfl, ho, hb1⟩
    obtain ⟨a1, cp1, rfl, -, -, he⟩ := own_el ho
    exact ⟨a1, cp1, rfl, he, hb.trans (hb1.mono hb.size)⟩
  have HFy : Hid (∀ W', Below w.heap.size w W' → Calls Tryz.prog 23 #[.pointer (some ⟨X.xb, 0, none⟩)] W' fun e w' => ∃ a1 cp1, e = .returned (.slice a1 V.fly.length cp1) ∧ FL w' a1 V.fly ∧ Below w.heap.size w w') := fun W' hb => by
    refine (flying_any (HW.out.later hb) hm).mono ?_
    rintro e w1 ⟨v', rfl, ho, hb1⟩
    obtain ⟨a1, cp1, rfl, he⟩ := IsFr.owned ho
    exact ⟨a1, cp1, rfl, he, hb.trans (hb1.mono hb.size)⟩
  have HSe : Hid (∀ W' a1 cp1, Below w.heap.size w W' → EL W' a1 V.evs → Calls Tryz.prog 24 #[.slice a1 V.evs.length cp1, .slice ae V.evs.length ce] W' fun e w' => e = .returned (.bool true) ∧ Below w.heap.size w w') := fun W' a1 cp1 hb he => by
    refine (sameEvents_yes a1 ae cp1 ce V.evs W' he (HEL.out.later hb) (by omega)).mono ?_
    rintro e w1 ⟨rfl, hb1⟩
    exact ⟨rfl, hb.trans (hb1.mono hb.size)⟩
  have HSf : Hid (∀ W' a1 cp1, Below w.heap.size w W' → FL W' a1 V.fly → Calls Tryz.prog 22 #[.slice a1 V.fly.length cp1, .slice af V.fly.length cf] W' fun e w' => e = .returned (.bool true) ∧ Below w.heap.size w w') := fun W' a1 cp1 hb he => by
    refine (sameFrames_yes _ _ V.fly W' ⟨a1, cp1, rfl, he⟩ ⟨af, cf, rfl, HFL.out.later hb⟩ hlf).mono ?_
    rintro e w1 ⟨rfl, hb1⟩
    exact ⟨rfl, hb.trans (hb1.mono hb.size)⟩
  obtain ⟨le, hle2⟩ : ∃ le, Hid (V.evs.length = le) := ⟨_, rfl⟩
  obtain ⟨lf, hlf2⟩ : ∃ lf, Hid (V.fly.length = lf) := ⟨_, rfl⟩
  obtain ⟨z, hz⟩ : ∃ z, Hid (zs.length = z) := ⟨_, rfl⟩
  rw [hle2.out] at HEv HSe c4
  rw [hlf2.out] at HFy HSf c3
  rw [hz.out] at c1 n7
  clear h k hE hel hfl hle hlf hev hfv
  go_enter Tryz.func16, Tryz.ntmps16
  go_wp2_with fail
  go_region_held3 (fun V => V.cell? ⟨Y.xb, 4, none⟩ = some (.slice ae le ce) ∧ V.cell? ⟨Y.xb, 3, none⟩ = some (.slice af lf cf)) (go_keep) (first | (go_at_call 19; (with_reducible refine (HEv.out _ (Below.refl _ _).drew).mono ?_); rintro e w1 ⟨a1, cp1, rfl, he1, hb1⟩; have p1 := cell_later hb1 c4; have p2 := cell_later hb1 c3; have HS1 := hid (HSe.out w1 a1 cp1 hb1 he1); have HB1 := hid hb1; clear he1 hb1) | (go_at_call 24; (with_reducible refine HS1.out.mono ?_); rintro e w2 ⟨rfl, hb2⟩; have p3 := cell_later hb2 c4; have p4 := cell_later hb2 c3; have HB2 := hid hb2; clear hb2) | (go_at_call 23; (with_reducible refine (HFy.out _ HB2.out).mono ?_); rintro e w3 ⟨a3, cp3, rfl, he3, hb3⟩; have p5 := cell_later hb3 c4; have p6 := cell_later hb3 c3; have HS3 := hid (HSf.out w3 a3 cp3 hb3 he3); clear he3 hb3) | (go_at_call 22; (with_reducible refine HS3.out.mono ?_); rintro e w4 ⟨rfl, hb4⟩; have p7 := cell_later hb4 c4; have p8 := cell_later hb4 c3; have HB4 := hid hb4; clear hb4))
  go_wp2_with fail
  clear p1 p2 p3 p4 p5 p6 p7 p8
  go_loopw [5] (fun v wr => ∃ k : Nat, k ≤ z ∧ v = .int .i64 (k : Int) ∧ Below w.heap.size w wr) (fun v _ => z - (intOf v).toNat)
  case atStart => exact ⟨0, Nat.zero_le _, rfl, HB4.out⟩
  case round =>
    obtain ⟨k, hk, rfl, hb⟩ := hrel
    rename_i wr
    have HB := hid hb
    have HWr := hid (HW.out.later hb)
    have HRr := hid (HR.out.later hb)
    have c1r := cell_later hb c1
    clear hb
    by_cases hlt : k < z
    · have hkz : k < zs.length := by rw [hz.out]; exact hlt
      obtain ⟨u, HU⟩ : ∃ u, Hid (upN (V.nd k) = u) := ⟨_, rfl⟩
      have HIs := hid (is_ok k HWr.out hkz)
      rw [HU.out] at HIs
      have e1 := HRr.out.ns k hkz
      obtain ⟨d0, -, -, -⟩ := (HRr.out.nds k hkz).cells
      unfold rsV at d0
      rw [HU.out] at d0
      have hkI : (k : Int) < (z : Int) := by omega
      have HKz := hid hkz
      clear hkz
      go_wp2_with fail
      refine HIs.out.mono ?_
      rintro e w5 ⟨rfl, hx5⟩
      subst w5
      cases u
      all_goals first
        | rw [if_pos rfl] at d0
        | rw [if_neg (by decide)] at d0
      all_goals
        go_wp2_with fail
        go_loopw [8] (fun v wx => ∃ q : Nat, q ≤ 6 ∧ v = .int .i64 (q : Int) ∧ Below w.heap.size w wx) (fun v _ => 6 - (intOf v).toNat)
        case atStart => exact ⟨0, Nat.zero_le _, rfl, HB.out⟩
        case round =>
          obtain ⟨q, hq, rfl, hbq⟩ := hrel
          rename_i wx
          have HBq := hid hbq
          have HWq := hid (HW.out.later hbq)
          have HRq := hid (HR.out.later hbq)
          clear hbq
          by_cases hlq : q < 6
          · obtain ⟨⟨h1, h2, h3⟩, HST⟩ : ∃ x, Hid (stN (V.nd k) q = x) := ⟨_, rfl⟩
            have HSt := hid (wstate_ok k q h1 h2 h3 HWq.out HE.out HKz.out hlq HST.out)
            go_wp2_with fail
            refine HSt.out.mono ?_
            rintro e w6 ⟨rfl, hb6⟩
            obtain ⟨W7, HW7⟩ : ∃ W7, Hid (w6.alloc (.cells #[.int .i64 (h1 : Int), .int .i64 (h2 : Int), .int .i64 (h3 : Int)] 113) = W7) := ⟨_, rfl⟩
            have hW7 := HW7.out
            have HB7 : Hid (Below w.heap.size w W7) := by rw [← HW7.out]; exact (HBq.out.trans (hb6.mono HBq.out.size)).alloc (HBq.out.trans (hb6.mono HBq.out.size)).size _
            have HR7 : Hid (W7.heap[w6.heap.size]? = some (.cells #[.int .i64 (h1 : Int), .int .i64 (h2 : Int), .int .i64 (h3 : Int)] 113 (0, 0))) := by rw [← HW7.out]; exact heap_alloc_new w6 _
            have a0 : W7.cell? ⟨w6.heap.size, 0, none⟩ = some (.int .i64 (h1 : Int)) := by rw [cell_of_row _ _ _ _ _ _ HR7.out]; rfl
            have a1 : W7.cell? ⟨w6.heap.size, 1, none⟩ = some (.int .i64 (h2 : Int)) := by rw [cell_of_row _ _ _ _ _ _ HR7.out]; rfl
            have a2 : W7.cell? ⟨w6.heap.size, 2, none⟩ = some (.int .i64 (h3 : Int)) := by rw [cell_of_row _ _ _ _ _ _ HR7.out]; rfl
            obtain ⟨tx, HTx⟩ : ∃ tx, Hid (leadT (V.nd k) q = tx) := ⟨_, rfl⟩
            have HLd := hid (lead_ok k q (HW.out.later HB7.out) HKz.out hlq)
            rw [HTx.out] at HLd
            have HRs : Hid (∀ W', Below w.heap.size w W' → Calls Tryz.prog 63 #[.pointer (some ⟨Y.xb, 0, none⟩), .int .i64 (k : Int), .int .i64 (q : Int)] W' fun e w' => e = .returned (.agg #[.int .i64 (h1 : Int), .int .i64 (h2 : Int), .int .i64 (h3 : Int)]) ∧ Below W'.heap.size W' w' ∧ Below w.heap.size w w') := fun W' hb => by
              refine (rstate_is k q h1 h2 h3 (HR.out.later hb) HKz.out hlq HST.out).mono ?_
              rintro e w' ⟨rfl, hb'⟩
              exact ⟨rfl, hb', hb.trans (hb'.mono hb.size)⟩
            have HRl : Hid (∀ W', Below w.heap.size w W' → Calls Tryz.prog 64 #[.pointer (some ⟨Y.xb, 0, none⟩), .int .i64 (k : Int), .int .i64 (q : Int)] W' fun e w' => e = .returned (.string tx) ∧ w' = W') := fun W' hb => by
              refine (rleadOf_is k q (HR.out.later hb) HKz.out hlq).mono ?_
              rintro e w' ⟨⟨b, rfl, hbb⟩, rfl⟩
              refine ⟨?_, rfl⟩
              have hh := (HW.out.inv.nd k HKz.out).ld q
              rw [hbb, ← HTx.out]
              unfold leadT
              cases hx : (V.nd k).ld q with
              | none => rfl
              | some x => simp only [stP_B (hh x hx).2.2.1]
            have hne := st_neq (h1 : Int) (h2 : Int) (h3 : Int)
            clear hb6
            go_wp2_with fail
            refine HLd.out.mono ?_
            rintro e w8 ⟨rfl, hx8⟩
            subst w8
            go_wp2_with fail
            go_region_held3 (fun V => V.cell? ⟨w6.heap.size, 0, none⟩ = some (.int .i64 (h1 : Int)) ∧ V.cell? ⟨w6.heap.size, 1, none⟩ = some (.int .i64 (h2 : Int)) ∧ V.cell? ⟨w6.heap.size, 2, none⟩ = some (.int .i64 (h3 : Int))) (go_keep) (first | (go_at_call 63; (with_reducible refine (HRs.out _ HB7.out.drew).mono ?_); rintro e w9 ⟨rfl, hb9, hb9'⟩; have p1 := cell_later hb9 a0; have p2 := cell_later hb9 a1; have p3 := cell_later hb9 a2; have HB9 := hid hb9'; clear hb9 hb9') | (go_at_call 64; (with_reducible refine (HRl.out _ HB9.out).mono ?_); rintro e w10 ⟨rfl, hx10⟩; subst w10))
            go_wp2_with fail
            go_roundw
            case rel => exact ⟨q + 1, by omega, by go_num, HB9.out⟩
            case measure => simp [intOf]; omega
          · obtain rfl : q = 6 := by omega
            go_wp2_with fail
            refine ⟨⟨k + 1, by omega, by go_num, HBq.out⟩, ?_⟩
            simp [intOf]; omega
    · obtain rfl : k = z := by omega
      have HNo := hid (is_no (k : Int) HWr.out HE.out (by rw [hz.out]; omega))
      go_wp2_with fail
      refine HNo.out.mono ?_
      rintro e w5 ⟨rfl, hb5⟩
      have HB5 := hid (HB.out.trans (hb5.mono HB.out.size))
      have HSn := hid (wstate_no (w := w5) 0 6 (HW.out.later HB5.out) HE.out (by omega))
      clear hb5
      go_wp2_with fail
      refine HSn.out.mono ?_
      rintro e w6 ⟨rfl, hb6⟩
      have HB7 : Hid (Below w.heap.size w (w6.alloc (.cells #[.int .i64 0, .int .i64 0, .int .i64 0] 113))) := (HB5.out.trans (hb6.mono HB5.out.size)).alloc (HB5.out.trans (hb6.mono HB5.out.size)).size _
      have HLn := hid (lead_no (w := w6.alloc (.cells #[.int .i64 0, .int .i64 0, .int .i64 0] 113)) (-1) 0 (HW.out.later HB7.out) HE.out (by omega))
      clear hb6
      go_wp2_with fail
      refine HLn.out.mono ?_
      rintro e w8 ⟨rfl, hb8⟩
      have HB8 := hid (HB7.out.trans (hb8.mono HB7.out.size))
      have HC1 := hid (coded_ev A 2 w8 (HEw.out.later HB8.out) (by decide))
      clear hb8
      go_wp2_with fail
      refine HC1.out.mono ?_
      rintro e w9 ⟨rfl, hb9⟩
      have HB9 := hid (HB8.out.trans (hb9.mono HB8.out.size))
      have HC2 := hid (coded_ev A 2 w9 (HEw.out.later HB9.out) (by decide))
      clear hb9
      go_wp2_with fail
      refine HC2.out.mono ?_
      rintro e w10 ⟨rfl, hb10⟩
      have HB10 := hid (HB9.out.trans (hb10.mono HB9.out.size))
      have HC3 := hid (coded_ev A 2 w10 (HEw.out.later HB10.out) (by decide))
      clear hb10
      go_wp2_with fail
      refine HC3.out.mono ?_
      rintro e w11 ⟨rfl, hb11⟩
      have HB11 := hid (HB10.out.trans (hb11.mono HB10.out.size))
      clear hb11
      go_wp2_with fail
      go_ret
      exact ⟨rfl, HB11.out⟩
end
end Go.Proofs.YtbaamegnmeohoacGreatDoor
