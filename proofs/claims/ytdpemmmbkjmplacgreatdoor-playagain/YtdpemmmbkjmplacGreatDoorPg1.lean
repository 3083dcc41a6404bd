/-
  FRAMES IN MEMORY: the document's SameFrames of any two lists that are the same.
  WALK of the laws' backEvents.
  Two worlds side by side; frames and events that are the same.
  THE LAW PlayAgain.
  A slice of integers that came in.
  Numbers that came in: a slice, and each is one of the language.
  Numbers that came in: their room.
  WHAT THE CELL 'laid' GIVES THE WALKS: each listed error variable holds a pointer of its own to a string, no two the same.
  FROM 'laid' TO WHAT THE WALKS ASK: package api's nine error variables hold nine different errors, errors.errorType its handle; the door's own heap meets the condition (the witness).
-/
import Derived.Test.YtdpemmmbkjmplacGreatDoorBa1
import Derived.Test.YtdpemmmbkjmplacGreatDoorBa7
import Derived.Test.YtdpemmmbkjmplacGreatDoorBa6
import Derived.Test.YtdpemmmbkjmplacGreatDoorBa12
import Derived.Test.YtdpemmmbkjmplacGreatDoorBa13
import Derived.Test.YtdpemmmbkjmplacGreatDoorRows
import Derived.Test.YtdpemmmbkjmplacGreatDoorBa2
import Derived.BigRegion
import Derived.RegionTactic
import Derived.Laws.StructEq
import Derived.Deep.RegionLaw
import Derived.BigQuiet
import Derived.WalkKit
import Derived.ProofKit
import Derived.LaidLaws
import Derived.LaidMore
import Derived.LaidSub
import Derived.LaidHandle
import Derived.MakeChecks
namespace Go.Proofs.YtdpemmmbkjmplacGreatDoor
open Go.RowKit

theorem fr_neq9 (f t d k a : Int) (y : Bool) (ph pr pa : Int) (w : World) : (binOp .neq 118 (frV f t d k a y ph pr pa) (frV f t d k a y ph pr pa)).run Tryz.prog w = .ok (.bool false) w := by
  go_simp
set_option maxHeartbeats 1000000 in
set_option maxRecDepth 100000 in
theorem same_list (v1 v2 : Value) (L : List F9) (w : World) (h1 : IsFr w v1 L) (h2 : IsFr w v2 L) (hl : L.length ≤ 1000) :
    Calls Tryz.prog 21 #[v1, v2] w fun e w' => e = .returned (.bool true) ∧ Below w.heap.size w w' := by
  obtain ⟨a1, c1, rfl, l1⟩ := h1
  obtain ⟨a2, c2, rfl, l2⟩ := h2
  have H1 := hid l1
  have H2 := hid l2
  clear l1 l2
  go_enter Tryz.func21, Tryz.ntmps21
  go_wp2_with fail
  go_loopw [5] (fun i wr => ∃ n : Nat, n ≤ L.length ∧ i = .int .i64 (n : Int) ∧ Below w.heap.size w wr) (fun i _ => L.length - (intOf i).toNat)
  case atStart => exact ⟨0, Nat.zero_le _, rfl, Below.refl _ _⟩
  case round =>
    obtain ⟨n, hn, rfl, hb⟩ := hrel
    have HB := hid hb
    by_cases hlt : n < L.length
    · obtain ⟨b1, o1, rfl, q1⟩ := (H1.out.later hb) n hlt
      obtain ⟨b2, o2, rfl, q2⟩ := (H2.out.later hb) n hlt
      generalize L[n]'hlt = x at q1 q2
      obtain ⟨xf, xt, xd, xk, xa, xy, xph, xpr, xpa⟩ := x
      obtain ⟨a0, a1, a2, a3, a4, a5, a6, a7, a8⟩ := nineO q1
      obtain ⟨b0, b1, b2, b3, b4, b5, b6, b7, b8⟩ := nineO q2
      simp only at a0 a1 a2 a3 a4 a5 a6 a7 a8 b0 b1 b2 b3 b4 b5 b6 b7 b8
      have hne := fr_neq9 xf xt xd xk xa xy xph xpr xpa
      clear hb q1 q2
      go_wp2_with fail
      go_region
      all_goals go_wp2_with fail
      all_goals go_roundw
      case rel => exact ⟨n + 1, by omega, by go_num, HB.out.drew⟩
      case measure => simp [intOf]; omega
    · obtain rfl : n = L.length := by omega
      go_wp2_with fail
      go_ret
      exact ⟨rfl, HB.out⟩
end Go.Proofs.YtdpemmmbkjmplacGreatDoor
namespace Go.Proofs.YtdpemmmbkjmplacGreatDoor
open Go.RowKit

theorem Tryz.infoME : (Tryz.prog.info? 120).map (fun i => (i.zero, i.size, i.bytes)) = some (some (.agg #[.int .i64 0, .int .i64 0, .int .i64 0]), 3, 24) := by kernel_rfl
theorem me3_one (x : E3) : ∀ u ∈ e3L x, u.oneCell' = true := by
  intro u hu
  simp [e3L] at hu
  rcases hu with rfl | rfl | rfl <;> rfl
theorem step_append_me1 {w : World} {ops : Array Oper} {o : Oper} {a : Act} {K : Act → World → Prop} {Q : Exit → Act → World → Prop} {E : Prop} (hgd : o.guard = none) (s x : Operand)
    (ho : o.op = .call { callee := .builtin .append, args := #[s, x], argTypes := #[52, 52] })
    (base n : Nat) (v : Value) (xs : List Value) (ad : Addr) (c : Nat) (F : E3) (hs : a.eval s = v) (hx : a.eval x = .slice (some ad) 1 c) (hown : w.ownsRow base 120 3 v n xs) (hu : ∀ j u, (e3L F)[j]? = some u → w.cell? (ad.add j) = some u) (hn : n ≤ 1000000000000) (hb : base ≤ w.heap.size)
    (h : ∀ ad' cap' w', w'.ownsRow base 120 3 (.slice ad' (n + 1) cap') (n + 1) (xs ++ e3L F) → w.grownBy w' v.ownBlock → K (a.put o.dst (.slice ad' (n + 1) cap')) w') :
    if Region.wanted o (yielded ops a.tmps) = true then Oper.wp Tryz.prog o a w K Q else E := by
  have hw : Region.wanted o (yielded ops a.tmps) = true := by simp [Region.wanted, hgd]
  rw [if_pos hw]
  obtain ⟨i0, hi0, hz0, hz1, hz2⟩ := info_parts Tryz.infoME
  obtain ⟨v', w', hr, h2, h3, -, -⟩ := run_append_own_at (P := Tryz.prog) w base 52 o.type 120 i0 _ 3 24 Tryz.underlying52 hi0 hz0 hz1 hz2 rfl (by decide) v n xs hown ad 1 c (e3L F) rfl hu (me3_one F) (by unfold maxLen; omega) (by omega) hb
  obtain ⟨ad', cap', rfl⟩ : ∃ ad' cap', v' = .slice ad' (n + 1) cap' := by
    rcases h2.2 with ⟨e, h0⟩ | ⟨g, cap, cur, e, -⟩
    · omega
    · exact ⟨_, _, e⟩
  unfold Oper.wp execOp
  simp only [ho, resolve, invoke, builtin, Sem.run_bind, Sem.run_pure, Result.andThen_ok, List.map_toArray, List.map_cons, List.map_nil, hs, hx, hr]
  exact h ad' cap' w' h2 h3
theorem lit_cellsM (w : World) (t : TypeId) (L : List Value) : ∀ j u, L[j]? = some u → (w.alloc (.cells L.toArray t)).cell? ((⟨w.heap.size, 0, none⟩ : Addr).add j) = some u := by
  intro j u h
  rw [addr_add, cell_of_row _ _ _ _ _ _ (heap_alloc_new w _), List.getElem?_toArray, Nat.zero_add]
  exact h
theorem evs_take (L : List E3) (k : Nat) (h : k < L.length) : evCells (L.take (k + 1)) = evCells (L.take k) ++ e3L (L[k]'h) := by
  unfold evCells
  rw [take_snoc L k h, List.flatMap_append, List.flatMap_singleton]
set_option maxHeartbeats 4000000 in
set_option maxRecDepth 100000 in
theorem backEvents_any (ad : Option Addr) (cap : Nat) (L : List E3) (w : World) (hL : EL w ad L) (hl : L.length ≤ 1000) :
    Calls Tryz.prog 24 #[.slice ad L.length cap] w fun e w' => ∃ ad' cap', e = .returned (.slice ad' L.length cap') ∧ EL w' ad' L ∧ Below w.heap.size w w' := by
  have HL := hid hL
  clear hL
  go_enter Tryz.func24, Tryz.ntmps24
  go_wp2_with fail
  go_loopw [3, 4] (fun v i wr => ∃ k : Nat, k ≤ L.length ∧ i = .int .i64 (k : Int) ∧ wr.ownsRow w.heap.size 120 3 v k (evCells (L.take k)) ∧ Below w.heap.size w wr) (fun _ i _ => L.length - (intOf i).toNat)
  case atStart => exact ⟨0, Nat.zero_le _, rfl, World.ownsRow_nil _ _ _ _, Below.refl _ _⟩
  case round =>
    obtain ⟨k, hk, rfl, hown, hb⟩ := hrel
    have HB := hid hb
    by_cases hlt : k < L.length
    · obtain ⟨b, o, rfl, y0, y1, y2⟩ := HL.out k hlt
      obtain ⟨⟨es, ed, ep⟩, HS⟩ : ∃ e, Hid (L[k]'hlt = e) := ⟨_, rfl⟩
      rw [HS.out] at y0 y1 y2
      replace y0 := cell_later hb y0
      replace y1 := cell_later hb y1
      replace y2 := cell_later hb y2
      obtain ⟨W2, HW2⟩ : ∃ W2, Hid (wr.drew.alloc (.cells #[.int .i64 es, .int .i64 ed, .int .i64 ep] 120) = W2) := ⟨_, rfl⟩
      have hW2 := HW2.out
      have HB2 : Hid (Below wr.heap.size wr W2) := by rw [← HW2.out]; exact (Below.refl _ _).drew.alloc (Nat.le_refl _) _
      have HO : Hid (W2.ownsRow w.heap.size 120 3 u3 k (evCells (L.take k))) := own_later hown HB2.out (Nat.le_refl _)
      have HLit : Hid (∀ j u, (e3L ⟨es, ed, ep⟩)[j]? = some u → W2.cell? ((⟨wr.heap.size, 0, none⟩ : Addr).add j) = some u) := by rw [← HW2.out]; exact lit_cellsM wr.drew 120 (e3L ⟨es, ed, ep⟩)
      have HTk := hid (evs_take L k hlt)
      rw [HS.out] at HTk
      have hbs : w.heap.size ≤ W2.heap.size := Nat.le_trans hb.size HB2.out.size
      have hk60 : k ≤ 1000000000000 := by omega
      have HBo : Hid (∀ w', W2.grownBy w' u3.ownBlock → Below w.heap.size w w') := fun w' hg => Below.grown (below_trans HB.out HB2.out) hg hbs (fun q hq => (HO.out.lt q hq).1)
      clear hb hown
      go_wp2_with fail
      go_region_law ((refine step_append_me1 (by rfl) _ _ (by rfl) w.heap.size k u3 (evCells (L.take k)) ⟨wr.heap.size, 0, none⟩ 1 ⟨es, ed, ep⟩ (by rfl) (by rfl) (by exact HO.out) (by exact HLit.out) hk60 hbs ?_; intro ad' cap' w' hown hg; have HS2 := hid (And.intro hown (HBo.out w' hg)); clear hown hg))
      all_goals go_wp2_with fail
      all_goals go_roundw
      all_goals first | (simp [intOf]; omega) | skip
      all_goals exact ⟨k + 1, by omega, by go_num, by rw [HTk.out]; exact HS2.out.1, HS2.out.2⟩
    · obtain rfl : k = L.length := by omega
      rw [List.take_length] at hown
      obtain ⟨adO, capO, rfl, -, -, hO⟩ := own_el hown
      have HOw := hid hO
      have hk2 : ¬ ((L.length : Int) < (L.length : Int)) := by omega
      clear hown hb hO
      go_wp2_with fail
      go_ret
      exact ⟨_, ⟨_, rfl⟩, HOw.out, HB.out⟩
end Go.Proofs.YtdpemmmbkjmplacGreatDoor
namespace Go.Proofs.YtdpemmmbkjmplacGreatDoor
open Go.RowKit

set_option maxHeartbeats 1000000 in
set_option maxRecDepth 100000 in
theorem same_long (v1 v2 : Value) (L : List F9) (w : World) (h1 : IsFr w v1 L) (h2 : IsFr w v2 L) (hl : L.length ≤ 1000000000) :
    Calls Tryz.prog 21 #[v1, v2] w fun e w' => e = .returned (.bool true) ∧ Below w.heap.size w w' := by
  obtain ⟨a1, c1, rfl, l1⟩ := h1
  obtain ⟨a2, c2, rfl, l2⟩ := h2
  have H1 := hid l1
  have H2 := hid l2
  clear l1 l2
  go_enter Tryz.func21, Tryz.ntmps21
  go_wp2_with fail
  go_loopw [5] (fun i wr => ∃ n : Nat, n ≤ L.length ∧ i = .int .i64 (n : Int) ∧ Below w.heap.size w wr) (fun i _ => L.length - (intOf i).toNat)
  case atStart => exact ⟨0, Nat.zero_le _, rfl, Below.refl _ _⟩
  case round =>
    obtain ⟨n, hn, rfl, hb⟩ := hrel
    have HB := hid hb
    by_cases hlt : n < L.length
    · obtain ⟨b1, o1, rfl, q1⟩ := (H1.out.later hb) n hlt
      obtain ⟨b2, o2, rfl, q2⟩ := (H2.out.later hb) n hlt
      generalize L[n]'hlt = x at q1 q2
      obtain ⟨xf, xt, xd, xk, xa, xy, xph, xpr, xpa⟩ := x
      obtain ⟨a0, a1, a2, a3, a4, a5, a6, a7, a8⟩ := nineO q1
      obtain ⟨b0, b1, b2, b3, b4, b5, b6, b7, b8⟩ := nineO q2
      simp only at a0 a1 a2 a3 a4 a5 a6 a7 a8 b0 b1 b2 b3 b4 b5 b6 b7 b8
      have hne := fr_neq9 xf xt xd xk xa xy xph xpr xpa
      clear hb q1 q2
      go_wp2_with fail
      go_region
      all_goals go_wp2_with fail
      all_goals go_roundw
      case rel => exact ⟨n + 1, by omega, by go_num, HB.out.drew⟩
      case measure => simp [intOf]; omega
    · obtain rfl : n = L.length := by omega
      go_wp2_with fail
      go_ret
      exact ⟨rfl, HB.out⟩
set_option maxHeartbeats 1000000 in
theorem sameI_yes (v1 v2 : Value) (l : List Int) (w : World) (h1 : IsSl w v1 l) (h2 : IsSl w v2 l) (hl : l.length ≤ 1000) :
    Calls Tryz.prog 20 #[v1, v2] w fun e w' => e = .returned (.bool true) ∧ Below w.heap.size w w' := by
  obtain ⟨a1, c1, rfl, -, -, g1⟩ := h1
  obtain ⟨a2, c2, rfl, -, -, g2⟩ := h2
  have G1 := hid g1
  have G2 := hid g2
  clear g1 g2
  have hne : ((l.length : Int) != (l.length : Int)) = false := by simp
  go_enter Tryz.func20, Tryz.ntmps20
  go_wp2
  go_loopw [5] (fun i wr => ∃ k : Nat, k ≤ l.length ∧ i = .int .i64 k ∧ Below w.heap.size w wr) (fun i _ => l.length - (intOf i).toNat)
  case atStart => exact ⟨0, Nat.zero_le _, rfl, Below.refl _ _⟩
  case round =>
    obtain ⟨k, hk, rfl, hnx⟩ := hrel
    by_cases hlt : k < l.length
    · obtain ⟨b1, o1, e1, d1⟩ := G1.out (by omega)
      obtain ⟨b2, o2, e2, d2⟩ := G2.out (by omega)
      subst e1
      subst e2
      have d1k := cell_later hnx (d1 k hlt)
      have d2k := cell_later hnx (d2 k hlt)
      rw [getD_lt l k hlt] at d1k d2k
      generalize hz : l[k] = z at d1k d2k
      have hzz : (z != z) = false := by simp
      clear d1 d2 hz
      go_wp2
      go_quiet (fail)
      go_wp2
      go_roundw
      case rel => exact ⟨k + 1, by omega, by go_num, below_drewN hnx _⟩
      case measure => simp [intOf]; omega
    · go_wp2
      go_ret
      exact ⟨rfl, hnx⟩

theorem own_base {w : World} {b b' : Nat} {e : TypeId} {size n : Nat} {v : Value} {xs : List Value} (h : w.ownsRow b e size v n xs) (hb : b' ≤ b) : w.ownsRow b' e size v n xs := by
  refine ⟨h.1, ?_⟩
  rcases h.2 with hn | ⟨g, cap, cur, rfl, hb', rest⟩
  · exact .inl hn
  · exact .inr ⟨g, cap, cur, rfl, Nat.le_trans hb hb', rest⟩
theorem OwnF.base {w : World} {b b' : Nat} {v : Value} {L : List F9} (h : OwnF w b v L) (hb : b' ≤ b) : OwnF w b' v L := by
  rcases h with h | ⟨g, o, cap, cur, rfl, hb', rest⟩
  · exact .inl h
  · exact .inr ⟨g, o, cap, cur, rfl, Nat.le_trans hb hb', rest⟩
section
variable {w0 w1 w w' : World} {C C' Ca Cb : Nat → Nat} {X Xa Xb : XB} {m ma mb : Nat} {zs : List Int} {V Va Vb : PX}
/-- A world that began later, told from an earlier time. -/
theorem WD.rebase (h : WD w1 w C X zs V m) (hb : Below w0.heap.size w0 w) (hs : w0.heap.size ≤ w1.heap.size) : WD w0 w C X zs V m := by
  refine ⟨hb, h.row, h.ws, h.ns, fun i hi => ?_, h.brk, h.fly.base hs, own_base h.evs hs, h.cx, h.cw, h.cn, h.cm, h.cf, h.ce, h.lt, fun x hx => Nat.le_trans hs (h.low x hx), h.inv⟩
  have n := h.nds i hi
  have p := n.sp
  have j := p.jp
  exact ⟨n.row, ⟨⟨hb, j.jr, j.pl, j.jp, j.jq, Nat.le_trans hs j.j0, Nat.le_trans hs j.p0, Nat.le_trans hs j.q0, j.l0, j.l1, j.sz, j.s6⟩, p.sr, p.ns, p.nm, p.sm, Nat.le_trans hs p.s0, Nat.le_trans hs p.m0⟩, n.lds, n.cn, n.cs, n.cj, n.cm, n.cp, n.cq, n.cl, Nat.le_trans hs n.n0⟩
/-- Two worlds have no block in common. -/
def Apt (Ca Cb : Nat → Nat) : Prop := ∀ x, Ca x < 2000 → 2000 ≤ Cb x
theorem Apt.symm (h : Apt Ca Cb) : Apt Cb Ca := fun x hx => by
  rcases Nat.lt_or_ge (Ca x) 2000 with q | q
  · have := h x q; omega
  · exact q
/-- One was written: the other is as it was. -/
theorem WD.beside (hB : WD w0 w Cb Xb zs Vb mb) (hA : WD w0 w Ca Xa zs Va ma) (hd : Apt Ca Cb) (k : Kept (OwnX Ca) w w') : WD w0 w' Cb Xb zs Vb mb :=
  hB.far k hd (fun x hx => hA.low x hx)
theorem Apt.step (hB : WD w0 w Cb Xb zs Vb mb) (hd : Apt Ca Cb) (hc : ∀ x, x < w.heap.size → C' x = Ca x) : Apt C' Cb := fun x hx => by
  rcases Nat.lt_or_ge (Cb x) 2000 with q | q
  · have h1 := hB.lt x q
    rw [hc x h1] at hx
    have := hd x hx
    omega
  · exact q
end
theorem me_neq (s d p : Int) (w : World) : (binOp .neq 120 (.agg #[.int .i64 s, .int .i64 d, .int .i64 p]) (.agg #[.int .i64 s, .int .i64 d, .int .i64 p])).run Tryz.prog w = .ok (.bool false) w := by
  go_simp
set_option maxHeartbeats 2000000 in
set_option maxRecDepth 100000 in
theorem sameEvents_yes (a1 a2 : Option Addr) (c1 c2 : Nat) (L : List E3) (w : World) (h1 : EL w a1 L) (h2 : EL w a2 L) (hl : L.length ≤ 1000) :
    Calls Tryz.prog 23 #[.slice a1 L.length c1, .slice a2 L.length c2] w fun e w' => e = .returned (.bool true) ∧ Below w.heap.size w w' := by
  have HBk := hid (backEvents_any a1 c1 L w h1 hl)
  have H2 := hid h2
  have hne : ((L.length : Int) != (L.length : Int)) = false := by simp
  clear h1 h2
  go_enter Tryz.func23, Tryz.ntmps23
  go_wp2_with fail
  refine HBk.out.mono ?_
  rintro e w1 ⟨ad, cap, rfl, hel, hb⟩
  have HE := hid hel
  have HB := hid hb
  clear hel hb
  go_wp2_with fail
  go_loopw [6] (fun i wr => ∃ k : Nat, k ≤ L.length ∧ i = .int .i64 (k : Int) ∧ Hid (Below w1.heap.size w1 wr)) (fun i _ => L.length - (intOf i).toNat)
  case atStart => exact ⟨0, Nat.zero_le _, rfl, Below.refl _ _⟩
  case round =>
    obtain ⟨k, hk, rfl, HI⟩ := hrel
    by_cases hlt : k < L.length
    · obtain ⟨b1, o1, rfl, x0, x1, x2⟩ := (HE.out.later HI.out) k hlt
      obtain ⟨b2, o2, rfl, y0, y1, y2⟩ := ((H2.out.later HB.out).later HI.out) k hlt
      obtain ⟨⟨es, ed, ep⟩, HS⟩ : ∃ e, Hid (L[k]'hlt = e) := ⟨_, rfl⟩
      rw [HS.out] at x0 x1 x2 y0 y1 y2
      have hq := me_neq es ed ep
      go_wp2_with fail
      go_quiet (fail)
      go_wp2_with fail
      go_roundw
      case rel => exact ⟨k + 1, by omega, by go_num, below_drewN HI.out _⟩
      case measure => simp [intOf]; omega
    · have hlt2 : ¬ ((k : Int) < (L.length : Int)) := by omega
      have HB2 := hid (below_trans HB.out HI.out)
      go_wp2_with fail
      go_ret
      exact ⟨rfl, HB2.out⟩
end Go.Proofs.YtdpemmmbkjmplacGreatDoor
namespace Go.Proofs.YtdpemmmbkjmplacGreatDoor
open Go.RowKit

theorem isSl_take {w : World} {b off cap n : Nat} {vs : List Int} (h : IsSl w (.slice (some ⟨b, off, none⟩) n cap) vs) (hn : vs.length = n) (k c : Nat) (hk : k ≤ n) : IsSl w (.slice (some ⟨b, off, none⟩) k c) (vs.take k) := by
  have hl : (vs.take k).length = k := by rw [List.length_take]; omega
  obtain ⟨a, cp, e, hm, -, hc⟩ := h
  injection e with e1 e2 e3
  subst e1
  refine ⟨_, c, by rw [hl], by rw [hl]; omega, (fun h => by cases h), fun h0 => ?_⟩
  rw [hl] at h0
  obtain ⟨b', off', e4, hcell⟩ := hc (by omega)
  refine ⟨b', off', e4, fun i hi => ?_⟩
  rw [hl] at hi
  rw [hcell i (by omega)]
  congr 2
  simp [List.getD, hi]
theorem isSl_drop {w : World} {b off cap n : Nat} {vs : List Int} (h : IsSl w (.slice (some ⟨b, off, none⟩) n cap) vs) (hn : vs.length = n) (k c o2 : Nat) (hk : k ≤ n) (ho : k < n → o2 = off + k) : IsSl w (.slice (some ⟨b, o2, none⟩) (n - k) c) (vs.drop k) := by
  have hl : (vs.drop k).length = n - k := by rw [List.length_drop]; omega
  obtain ⟨a, cp, e, hm, -, hc⟩ := h
  injection e with e1 e2 e3
  subst e1
  refine ⟨_, c, by rw [hl], by rw [hl]; omega, (fun h => by cases h), fun h0 => ?_⟩
  rw [hl] at h0
  obtain ⟨b', off', e4, hcell⟩ := hc (by omega)
  have e5 := Option.some.inj e4
  injection e5 with e6 e7
  subst e6 e7
  refine ⟨b, o2, rfl, fun i hi => ?_⟩
  rw [hl] at hi
  rw [ho (by omega), Nat.add_assoc, hcell (k + i) (by omega)]
  congr 2
  simp [List.getD]
/-- append of one own row of numbers to another. -/
theorem wpList_append_is {w : World} {ops : Array Oper} {rest : List Oper} {o : Oper} {a : Act} {Q : Exit → Act → World → Prop} (hgd : o.guard = none) (s x : Operand)
    (ho : o.op = .call { callee := .builtin .append, args := #[s, x], argTypes := #[22, 22] })
    (base n : Nat) (v u : Value) (xs : List Value) (ys : List Int) (b2 : Nat) (hs : a.eval s = v) (hx : a.eval x = u) (hown : w.ownsRow base 3 1 v n xs) (hu : w.ownsRow b2 3 1 u ys.length (ys.map (Value.int .i64))) (hn : n + ys.length ≤ 1000000000000) (hb : base ≤ w.heap.size)
    (h : ∀ ad' cap' w', w'.ownsRow base 3 1 (.slice ad' (n + ys.length) cap') (n + ys.length) (xs ++ ys.map (Value.int .i64)) → w.grownBy w' v.ownBlock → wpList Tryz.prog ops Q rest (a.put o.dst (.slice ad' (n + ys.length) cap')) w') :
    wpList Tryz.prog ops Q (o :: rest) a w := by
  obtain ⟨i0, hi0, hz0, hz1, hz2⟩ := info_parts Tryz.infoInt
  have form : ∀ {v' : Value} {w' : World} {k : Nat} {zs : List Value}, w'.ownsRow base 3 1 v' k zs → ∃ ad' cap', v' = .slice ad' k cap' := fun {v' w' k zs} h2 => by
    rcases h2.2 with ⟨e, h0⟩ | ⟨g, cap, cur, e, -⟩
    · exact ⟨none, 0, by rw [e, h0]⟩
    · exact ⟨_, _, e⟩
  rcases hu.2 with ⟨e, h0⟩ | ⟨g, cap, cur, e, -⟩
  · have hy : ys = [] := List.length_eq_zero_iff.1 h0
    subst hy
    obtain ⟨ad', cap', hv'⟩ := form hown
    refine wpList_append_own_none hgd s x 22 ho base 3 i0 1 Tryz.underlying22 hi0 v n xs hs hown (by rw [hx, e]) ?_
    have := h ad' cap' w (by simpa [← hv'] using hown) ⟨rfl, rfl, rfl, Nat.le_refl _, fun _ _ _ => rfl⟩
    rw [hv']
    simpa using this
  · have hcell := hu
    rw [e] at hcell
    refine wpList_append_own_at w hgd s x 22 ho base 3 i0 _ 1 8 Tryz.underlying22 hi0 hz0 hz1 hz2 rfl (by decide) v n xs hs hown ⟨g, 0, none⟩ ys.length cap (ys.map (Value.int .i64)) (by rw [hx, e]) (by simp) (fun j z hz => hcell.cells rfl j z hz) (fun z hz => by obtain ⟨y, -, rfl⟩ := List.mem_map.1 hz; rfl) (by unfold maxLen; omega) (by omega) hb ?_
    intro v' w' h2 h3 _ _
    obtain ⟨ad', cap', rfl⟩ := form h2
    exact h ad' cap' w' h2 h3
theorem slice_hi (b off l cap k : Nat) (hk : k ≤ cap) (w : World) : (Instr.slice 22 (.slice (some ⟨b, off, none⟩) l cap) none (some (.int .i64 (k : Int))) none).run Tryz.prog w = .ok (.slice (some ⟨b, off, none⟩) k cap) w := by
  have h1 : (k : Int) ≤ (cap : Int) := by omega
  go_simp
theorem slice_lo (b off l cap k : Nat) (hk : k ≤ l) (w : World) : (Instr.slice 22 (.slice (some ⟨b, off, none⟩) l cap) (some (.int .i64 (k : Int))) none none).run Tryz.prog w = .ok (.slice (some ⟨b, if cap = k then off else off + k, none⟩) (l - k) (cap - k)) w := by
  have h1 : (k : Int) ≤ (l : Int) := by omega
  by_cases h : cap = k
  · rw [if_pos h]
    go_simp
  · rw [if_neg h]
    go_simp
theorem slice_no (au : Option Addr) (w : World) : (Instr.slice 22 (.slice au 0 0) none (some (.int .i64 0)) none).run Tryz.prog w = .ok (.slice au 0 0) w ∧ (Instr.slice 22 (.slice au 0 0) (some (.int .i64 0)) none none).run Tryz.prog w = .ok (.slice au 0 0) w := by
  cases au with
  | none => exact ⟨by go_simp, by go_simp⟩
  | some x => exact ⟨by go_simp, by go_simp⟩
theorem RuI.whole {w0 w wr : World} {C C' : Nat → Nat} {X X' : XB} {zs vs : List Int} {V : PX} {m : Nat} {u : Value} (h : RuI w0 w wr C X zs vs V m vs.length u C' X') : WD w0 wr C' X' zs (runX zs vs V) (m + 42 * vs.length) ∧ wr.ownsRow w.heap.size 3 1 u vs.length ((runA zs vs V).map (Value.int .i64)) := by
  have h1 := h.wd
  have h2 := h.own
  rw [List.take_length] at h1 h2
  exact ⟨h1, h2⟩
set_option maxHeartbeats 8000000 in
set_option maxRecDepth 100000 in
theorem pagain_any (A : Nat → Addr) (v : Value) (au : Option Addr) (capu : Nat) (zs vs : List Int) (x : Int) (w : World) (hE : Held9 w A) (hv : IsSl w v zs) (hu : IsSl w (.slice au vs.length capu) vs) (hcp : vs.length ≤ capu) (hcm : capu ≤ 9223372036854775807) (hfo : capu = 0 ∨ ∃ b off, au = some ⟨b, off, none⟩) (hr : ∀ y, y ∈ vs → y ≤ 9223372036854775807) :
    Calls Tryz.prog 6 #[v, .slice au vs.length capu, .int .i64 x] w fun e w' => e = .returned (.bool true) ∧ Below w.heap.size w w' := by
  have HE := hid hE
  have HV := hid hv
  have HU := hid hu
  have HR := hid hr
  have HFo := hid hfo
  obtain ⟨av, capv, rfl, hzm, -, -⟩ := hv
  unfold maxLen at hzm
  obtain ⟨n, HN⟩ : ∃ n, Hid (zs.length = n) := ⟨_, rfl⟩
  obtain ⟨l, HL⟩ : ∃ l, Hid (vs.length = l) := ⟨_, rfl⟩
  rw [HN.out] at HV hzm ⊢
  rw [HL.out] at HU hcp ⊢
  clear hE hr hu hfo
  by_cases he : errW zs = 0
  · by_cases h200 : 200 < l
    · have e2 : (200 : Int) < (l : Int) := by omega
      go_enter Tryz.func6, Tryz.ntmps6
      go_wp2_with fail
      refine (born_any A w HE.out).mono ?_
      rintro e w1 ⟨rfl, hb⟩
      have HB1 := hid hb
      have HWe := hid (rErr_any _ zs w1 (HV.out.later hb))
      rw [he, show ((0 : Nat) : Int) = 0 from rfl] at HWe
      clear hb
      go_wp2_with fail
      refine HWe.out.mono ?_
      rintro e w2 ⟨rfl, hx⟩
      subst w2
      go_wp2_with fail
      go_ret
      exact ⟨rfl, HB1.out⟩
    · have e2 : ¬ (200 : Int) < (l : Int) := by omega
      by_cases hx0 : x < 0
      · go_enter Tryz.func6, Tryz.ntmps6
        go_wp2_with fail
        refine (born_any A w HE.out).mono ?_
        rintro e w1 ⟨rfl, hb⟩
        have HB1 := hid hb
        have HWe := hid (rErr_any _ zs w1 (HV.out.later hb))
        rw [he, show ((0 : Nat) : Int) = 0 from rfl] at HWe
        clear hb
        go_wp2_with fail
        refine HWe.out.mono ?_
        rintro e w2 ⟨rfl, hx⟩
        subst w2
        go_wp2_with fail
        go_ret
        exact ⟨rfl, HB1.out⟩
      · obtain ⟨k, rfl⟩ := Int.eq_ofNat_of_zero_le (show 0 ≤ x by omega)
        by_cases hxl : l < k
        · have e4 : (l : Int) < (k : Int) := by omega
          go_enter Tryz.func6, Tryz.ntmps6
          go_wp2_with fail
          refine (born_any A w HE.out).mono ?_
          rintro e w1 ⟨rfl, hb⟩
          have HB1 := hid hb
          have HWe := hid (rErr_any _ zs w1 (HV.out.later hb))
          rw [he, show ((0 : Nat) : Int) = 0 from rfl] at HWe
          clear hb
          go_wp2_with fail
          refine HWe.out.mono ?_
          rintro e w2 ⟨rfl, hx⟩
          subst w2
          go_wp2_with fail
          go_ret
          exact ⟨rfl, HB1.out⟩
        · have e4 : ¬ (l : Int) < (k : Int) := by omega
          have hkl : k ≤ l := by omega
          obtain ⟨n1, n7, -, -⟩ := errW_zero he
          rw [HN.out] at n1 n7
          have htl : (vs.take k).length = k := by rw [List.length_take, HL.out]; omega
          have hdl : (vs.drop k).length = l - k := by rw [List.length_drop, HL.out]
          have HTl := hid htl
          have HDl := hid hdl
          have HApp : Hid (vs.take k ++ vs.drop k = vs) := List.take_append_drop k vs
          have HR1 : Hid (∀ y, y ∈ vs.take k → y ≤ 9223372036854775807) := fun y hy => HR.out y (List.mem_of_mem_take hy)
          have HR2 : Hid (∀ y, y ∈ vs.drop k → y ≤ 9223372036854775807) := fun y hy => HR.out y (List.mem_of_mem_drop hy)
          obtain ⟨S1, S2, HS1, HS2, hsl1, hsl2⟩ : ∃ S1 S2 : Value, Hid (IsSl w S1 (vs.take k)) ∧ Hid (IsSl w S2 (vs.drop k)) ∧ (∀ w', (Instr.slice 22 (.slice au l capu) none (some (.int .i64 (k : Int))) none).run Tryz.prog w' = .ok S1 w') ∧ (∀ w', (Instr.slice 22 (.slice au l capu) (some (.int .i64 (k : Int))) none none).run Tryz.prog w' = .ok S2 w') := by
            rcases HFo.out with h0 | ⟨b, off, rfl⟩
            · subst h0
              obtain rfl : l = 0 := by omega
              obtain rfl : k = 0 := by omega
              have hvs : vs = [] := List.length_eq_zero_iff.1 HL.out
              subst hvs
              refine ⟨_, _, HU.out, HU.out, fun w' => (slice_no au w').1, fun w' => (slice_no au w').2⟩
            · refine ⟨_, _, isSl_take HU.out HL.out k capu hkl, isSl_drop HU.out HL.out k (capu - k) (if capu = k then off else off + k) hkl (fun h => if_neg (by omega)), fun w' => slice_hi b off l capu k (by omega) w', fun w' => slice_lo b off l capu k hkl w'⟩
          clear htl hdl
          go_enter Tryz.func6, Tryz.ntmps6
          go_wp2_with fail
          refine (born_any A w HE.out).mono ?_
          rintro e w1 ⟨rfl, hb⟩
          have HB1 := hid hb
          have HWe := hid (rErr_any _ zs w1 (HV.out.later hb))
          rw [he, show ((0 : Nat) : Int) = 0 from rfl] at HWe
          have HOwn := hid (ownInts_any _ zs w1 (HV.out.later hb) (by rw [HN.out]; omega))
          clear hb
          go_wp2_with fail
          refine HWe.out.mono ?_
          rintro e w2 ⟨rfl, hx⟩
          subst w2
          go_wp2_with fail
          refine HOwn.out.mono ?_
          rintro e w2 ⟨v2, rfl, hv2, hb2⟩
          have HV2 := hid hv2
          have HB2 := hid (below_trans HB1.out hb2)
          have HNew := hid (wnew_ok v2 HV2.out (HE.out.later HB2.out) he)
          clear hv2 hb2
          go_wp2_with fail
          refine HNew.out.mono ?_
          rintro e w3 ⟨Ca, Xa, rfl, h3⟩
          have H3 := hid h3
          have HB3 := hid (below_trans HB2.out h3.bel)
          have HOw2 := hid (ownInts_any _ zs w3 (HV.out.later HB3.out) (by rw [HN.out]; omega))
          clear h3
          go_wp2_with fail
          refine HOw2.out.mono ?_
          rintro e w4 ⟨v4, rfl, hv4, hb4⟩
          have HB34 := hid hb4
          have HB4 := hid (below_trans HB3.out hb4)
          have HNew2 := hid (wnew_ok v4 hv4 (HE.out.later HB4.out) he)
          clear hv4 hb4
          go_wp2_with fail
          refine HNew2.out.mono ?_
          rintro e w5 ⟨Cb, Xb, rfl, h5⟩
          have HB35 := hid (below_trans HB34.out h5.bel)
          have HA5 := hid (H3.out.later HB35.out)
          have HBb5 := hid (h5.rebase HA5.out.bel (Nat.le_trans H3.out.bel.size HB34.out.size))
          have HAp5 : Hid (Apt Ca Cb) := fun y hy => by
            have h1 := H3.out.lt y hy
            have h2 := HB34.out.size
            rcases Nat.lt_or_ge (Cb y) 2000 with q | q
            · have := h5.low y q; omega
            · exact q
          have HB5 := hid (below_trans HB2.out HA5.out.bel)
          have HOw3 := hid (ownInts_long _ vs w5 (HU.out.later HB5.out) (by rw [HL.out]; omega))
          clear h5
          go_wp2_with fail
          refine HOw3.out.mono ?_
          rintro e w6 ⟨v6, rfl, ho6, hb6⟩
          have HA6 := hid (HA5.out.later hb6)
          have HBb6 := hid (HBb5.out.later hb6)
          have HRun := hid (run_any v6 w5.heap.size HA6.out (HE.out.later HB2.out) ho6 (by rw [HL.out]; omega) HR.out (by rw [HL.out]; omega) (own_new HA5.out ho6))
          clear ho6 hb6
          go_wp2_with fail
          refine HRun.out.mono ?_
          rintro e w7 ⟨u7, Ca7, Xa7, rfl, h7⟩
          have HA7 := hid h7.whole.1
          have HO7 := hid h7.whole.2
          have HKa := hid h7.ky
          have HBb7 := hid (HBb6.out.beside HA6.out HAp5.out h7.kept)
          have HAp7 := hid (HAp5.out.step HBb6.out h7.col)
          have HB7 := hid (below_trans HB2.out h7.wd.bel)
          have Hs67 := hid h7.kept.size
          clear h7
          rw [HL.out] at HA7 HO7
          have HOw4 := hid (ownInts_long S1 (vs.take k) w7 (HS1.out.later HB7.out) (by rw [HTl.out]; omega))
          go_wp2_with fail
          refine HOw4.out.mono ?_
          rintro e w8 ⟨v8, rfl, ho8, hb8⟩
          have HA8 := hid (HA7.out.later hb8)
          have HBb8 := hid (HBb7.out.later hb8)
          have HO8 := hid (own_later HO7.out hb8 (Nat.le_refl _))
          have Hs78 := hid hb8.size
          have HRun2 := hid (run_any v8 w7.heap.size HBb8.out (HE.out.later HB2.out) ho8 (by rw [HTl.out]; omega) HR1.out (by rw [HTl.out]; omega) (own_new HBb7.out ho8))
          clear ho8 hb8
          go_wp2_with fail
          refine HRun2.out.mono ?_
          rintro e w9 ⟨u9, Cb9, Xb9, rfl, h9⟩
          have HBb9 := hid h9.whole.1
          have HO9 := hid h9.whole.2
          have HF9 := hid h9.far
          have HKb := hid h9.ky
          have HCol9 := hid h9.col
          have HA9 := hid (HA8.out.beside HBb8.out HAp7.out.symm h9.kept)
          have HAp9 := hid (HAp7.out.symm.step HA8.out h9.col)
          have HFa : Hid (∀ g, u7.ownBlock = some g → 2000 ≤ Cb g ∧ g < w8.heap.size) := fun g hg => by
            have h1 := HO8.out.lt g hg
            refine ⟨?_, h1.2⟩
            rcases Nat.lt_or_ge (Cb g) 2000 with q | q
            · have := HBb6.out.lt g q; omega
            · exact q
          have HO9a := hid (own_kept HO8.out h9.kept (fun g hg e => by have h1 := (HFa.out g hg).1; have h2 : Cb g < 2000 := e; omega))
          have Hs89 := hid h9.kept.size
          clear h9
          rw [HTl.out] at HBb9 HO9
          have HB9 := hid (below_trans HB2.out HBb9.out.bel)
          have HOw5 := hid (ownInts_long S2 (vs.drop k) w9 (HS2.out.later HB9.out) (by rw [HDl.out]; omega))
          go_wp2_with fail
          refine HOw5.out.mono ?_
          rintro e w10 ⟨v10, rfl, ho10, hb10⟩
          have HA10 := hid (HA9.out.later hb10)
          have HBb10 := hid (HBb9.out.later hb10)
          have HO10 := hid (own_later HO9.out hb10 (Nat.le_refl _))
          have HO10a := hid (own_later HO9a.out hb10 (Nat.le_refl _))
          have Hs910 := hid hb10.size
          have HRun3 := hid (run_any v10 w9.heap.size HBb10.out (HE.out.later HB2.out) ho10 (by rw [HDl.out]; omega) HR2.out (by rw [HDl.out]; omega) (own_new HBb9.out ho10))
          rw [key_xb HKb.out] at HRun3
          clear ho10 hb10
          go_wp2_with fail
          refine HRun3.out.mono ?_
          rintro e w11 ⟨u11, Cb11, Xb11, rfl, h11⟩
          have HBb11 := hid h11.whole.1
          have HO11c := hid h11.whole.2
          have HKb11 := hid (h11.ky.trans HKb.out)
          have HA11 := hid (HA10.out.beside HBb10.out HAp9.out h11.kept)
          have HO11 := hid (own_kept HO10.out h11.kept (fun g hg e => by have h1 := HF9.out g hg; have h2 : Cb9 g < 2000 := e; omega))
          have HO11a := hid (own_kept HO10a.out h11.kept (fun g hg e => by have h1 := HFa.out g hg; have h2 : Cb9 g < 2000 := e; rw [HCol9.out g h1.2] at h2; omega))
          have HF11 : Hid (∀ g, u9.ownBlock = some g → 2000 ≤ Cb11 g ∧ w8.heap.size ≤ g) := fun g hg => by
            have h1 := HO10.out.lt g hg
            refine ⟨?_, h1.1⟩
            rw [h11.col g h1.2]; exact HF9.out g hg
          have Hs1011 := hid h11.kept.size
          clear h11
          rw [← runX_app, HApp.out] at HBb11
          obtain ⟨LA, HLA⟩ : ∃ LA, Hid (runA zs vs newX = LA) := ⟨_, rfl⟩
          obtain ⟨xs, Hxs⟩ : ∃ xs, Hid (runA zs (vs.take k) newX = xs) := ⟨_, rfl⟩
          obtain ⟨ys, Hys⟩ : ∃ ys, Hid (runA zs (vs.drop k) (runX zs (vs.take k) newX) = ys) := ⟨_, rfl⟩
          have HLe : Hid (LA = xs ++ ys) := by rw [← HLA.out, ← Hxs.out, ← Hys.out, ← runA_app, HApp.out]; exact rfl
          have hyl : ys.length = l - k := by rw [← Hys.out, runA_length, HDl.out]
          have hLl : LA.length = l := by rw [← HLA.out, runA_length, HL.out]
          have HLl := hid hLl
          have HYl := hid hyl
          rw [HDl.out, ← HYl.out, Hys.out] at HO11c
          rw [Hxs.out] at HO11
          rw [HLA.out] at HO11a
          have hb8s : w8.heap.size ≤ w11.heap.size := Nat.le_trans Hs89.out (Nat.le_trans Hs910.out Hs1011.out)
          obtain ⟨VV, HVV⟩ : ∃ VV, Hid (runX zs vs newX = VV) := ⟨_, rfl⟩
          rw [HVV.out] at HBb11 HA11
          obtain ⟨mb, hmb, HBc⟩ : ∃ mb, mb ≤ 8400 ∧ Hid (WD w2 w11 Cb11 Xb11 zs VV mb) := ⟨_, by rw [HDl.out]; omega, HBb11.out⟩
          obtain ⟨ma, hma, HAc⟩ : ∃ ma, ma ≤ 8400 ∧ Hid (WD w2 w11 Ca7 Xa7 zs VV ma) := ⟨_, by omega, HA11.out⟩
          obtain ⟨yl, HYy⟩ : ∃ yl, Hid (ys.length = yl) := ⟨_, rfl⟩
          clear hyl hLl
          go_wp2_with (at_builtin; refine wpList_append_is rfl _ _ rfl w8.heap.size k u9 u11 (xs.map (Value.int .i64)) ys w10.heap.size rfl rfl HO11.out HO11c.out (by rw [HYl.out]; omega) hb8s ?_; intro ad' cap' w12 hown hg; rw [HYy.out] at hown; rw [HYy.out]; have HS12 := hid (And.intro hown hg); clear hown hg)
          have HA12 := hid (HAc.out.far (grown_kept HS12.out.2) (fun y hy => by
            have h1 := (HF11.out y hy).2
            rcases Nat.lt_or_ge (Ca7 y) 2000 with q | q
            · have := HA7.out.lt y q; have := Hs78.out; omega
            · exact q) (fun y hy => by
            have h1 := (HF11.out y hy).2
            have h2 := HBb8.out.bel.size
            omega))
          have HB12 := hid (HBc.out.far (grown_kept HS12.out.2) (fun y hy => (HF11.out y hy).1) (fun y hy => by
            have h1 := (HF11.out y hy).2
            have h2 := HBb8.out.bel.size
            omega))
          have HI1 : Hid (IsSl w12 u7 LA) := by
            have h1 := own_kept HO11a.out (grown_kept HS12.out.2) (fun g hg e => by have h1 := (HFa.out g hg).2; have h2 := (HF11.out g e).2; omega)
            exact IsSl.owned (by rw [HLl.out]; exact h1) (by rw [HLl.out]; unfold maxLen; omega)
          have HI2 : Hid (IsSl w12 (.slice ad' (k + yl) cap') LA) := by
            refine IsSl.owned (base := w8.heap.size) ?_ (by rw [HLl.out]; unfold maxLen; omega)
            have e1 : LA.length = k + yl := by rw [HLl.out, ← HYy.out, HYl.out]; omega
            rw [e1, HLe.out, List.map_append]
            exact HS12.out.1
          have HSI := hid (sameI_yes u7 _ LA w12 HI1.out HI2.out (by rw [HLl.out]; omega))
          go_wp2_with fail
          refine HSI.out.mono ?_
          rintro e w13 ⟨rfl, hb13⟩
          have HA13 := hid (HA12.out.later hb13)
          have HB13 := hid (HB12.out.later hb13)
          have HFl := hid (flying_any HA13.out (by omega))
          rw [key_xb HKa.out] at HFl
          clear hb13
          go_wp2_with fail
          refine HFl.out.mono ?_
          rintro e w14 ⟨v14, rfl, ho14, hb14⟩
          have HA14 := hid (HA13.out.later hb14)
          have HB14 := hid (HB13.out.later hb14)
          have HO14 := hid ho14
          have HFl2 := hid (flying_any HB14.out (by omega))
          rw [key_xb HKb11.out] at HFl2
          clear ho14 hb14
          go_wp2_with fail
          refine HFl2.out.mono ?_
          rintro e w15 ⟨v15, rfl, ho15, hb15⟩
          have HA15 := hid (HA14.out.later hb15)
          have HB15 := hid (HB14.out.later hb15)
          have HSF := hid (same_long v14 v15 VV.fly w15 ((IsFr.owned HO14.out).later hb15) (IsFr.owned ho15) (by have := HA15.out.inv.fl; omega))
          clear ho15 hb15
          go_wp2_with fail
          refine HSF.out.mono ?_
          rintro e w16 ⟨rfl, hb16⟩
          have HA16 := hid (HA15.out.later hb16)
          have HB16 := hid (HB15.out.later hb16)
          have HEv := hid (events_any HA16.out)
          rw [key_xb HKa.out] at HEv
          have hev := HA16.out.inv.ev
          obtain ⟨E, HEE⟩ : ∃ E, Hid (VV.evs = E) := ⟨_, rfl⟩
          rw [HEE.out] at HEv hev
          clear hb16
          go_wp2_with fail
          refine HEv.out.mono ?_
          rintro e w17 ⟨v17, rfl, ho17, hb17⟩
          obtain ⟨ad17, cap17, rfl, -, -, hel17⟩ := own_el ho17
          have HEl17 := hid hel17
          have HB17 := hid (HB16.out.later hb17)
          have HEv2 := hid (events_any HB17.out)
          rw [key_xb HKb11.out, HEE.out] at HEv2
          clear ho17 hb17 hel17
          go_wp2_with fail
          refine HEv2.out.mono ?_
          rintro e w18 ⟨v18, rfl, ho18, hb18⟩
          obtain ⟨ad18, cap18, rfl, -, -, hel18⟩ := own_el ho18
          have HB18 := hid (HB17.out.later hb18)
          have HEl18 := hid (HEl17.out.later hb18)
          have HBk := hid (backEvents_any ad18 cap18 E w18 hel18 (by omega))
          clear ho18 hb18 hel18
          go_wp2_with fail
          refine HBk.out.mono ?_
          rintro e w19 ⟨ad19, cap19, rfl, hel19, hb19⟩
          have HSE := hid (sameEvents_yes ad17 ad19 cap17 cap19 E w19 (HEl18.out.later hb19) hel19 (by omega))
          have HB19 := hid (HB18.out.later hb19)
          clear hel19 hb19
          go_wp2_with fail
          refine HSE.out.mono ?_
          rintro e w20 ⟨rfl, hb20⟩
          have HB20 := hid (below_trans HB2.out (below_trans HB19.out.bel hb20))
          clear hb20
          go_wp2_with fail
          go_ret
          exact ⟨rfl, HB20.out⟩
  · obtain ⟨c, hc⟩ : ∃ c, errW zs = c := ⟨_, rfl⟩
    have k0 : (0 : Int) < (c : Int) := by omega
    go_enter Tryz.func6, Tryz.ntmps6
    go_wp2_with fail
    refine (born_any A w HE.out).mono ?_
    rintro e w1 ⟨rfl, hb⟩
    have HB1 := hid hb
    have HWe := hid (rErr_any _ zs w1 (HV.out.later hb))
    rw [hc] at HWe
    clear hb
    go_wp2_with fail
    refine HWe.out.mono ?_
    rintro e w2 ⟨rfl, hx⟩
    subst w2
    go_wp2_with fail
    go_ret
    exact ⟨rfl, HB1.out⟩
end Go.Proofs.YtdpemmmbkjmplacGreatDoor
namespace Go.Proofs.YtdpemmmbkjmplacGreatDoor
open Go.ChangeShapes Go.WideShapes Go.RowKit

/-- A slice of integers that came in is a slice of numbers. -/
theorem isSl_of_trod {H : Type} {enc : TypeId × Value → H} {W : World} {a : Option Addr} {len cap fuel : Nat} {d : DataW H} {p : List MemPlace} {sp : Nat → Bool} {held : Bool}
    (hf : DataW.trod enc Tryz.prog W 0 sp held fuel 22 (Value.slice a len cap).cells.toList = some (d, p)) : ∃ zs, IsSl W (.slice a len cap) zs := by
  rcases open_ints Tryz.underlying22 Tryz.underlying3 (by kernel_rfl) hf with ⟨hcs, _⟩ | ⟨x, l, c, zs, hcs, _, hl, hm, hz, _, hcell, hwz⟩
  · simp [Value.cells] at hcs
    obtain ⟨rfl, rfl, rfl⟩ := hcs
    exact ⟨[], none, 0, rfl, by simp, fun _ => rfl, fun h => by cases h⟩
  · simp [Value.cells] at hcs
    obtain ⟨rfl, rfl, rfl⟩ := hcs
    have hzl : len ≤ zs.length := by rw [hz]; split <;> omega
    have hlen : (zs.take len).length = len := by rw [List.length_take]; omega
    refine ⟨zs.take len, some x, cap, by rw [hlen], by omega, (fun h => by cases h), fun h0 => ?_⟩
    rw [hlen] at h0
    have hx := hcell 0 (by omega)
    have hsp : x.spot = none := by
      cases hq : x.spot with
      | none => rfl
      | some k => unfold World.cell? Addr.add at hx; simp [hq] at hx; revert hx; split <;> simp
    obtain ⟨b, off, sp⟩ := x
    simp at hsp
    subst hsp
    refine ⟨b, off, rfl, fun i hi => ?_⟩
    rw [hlen] at hi
    have := hcell i (by omega)
    have e : (⟨b, off, none⟩ : Addr).add i = ⟨b, off + i, none⟩ := by unfold Addr.add; split <;> simp_all
    rw [e] at this
    rw [this]
    simp [List.getD, hi]
end Go.Proofs.YtdpemmmbkjmplacGreatDoor
namespace Go.Proofs.YtdpemmmbkjmplacGreatDoor
open Go.ChangeShapes Go.WideShapes Go.RowKit

theorem int_top {n : Int} (w3 : (Lit.int .i64 n).wf = true) : n ≤ 9223372036854775807 := by
  have hmx : IntKind.i64.max = 9223372036854775807 := by decide
  have hw : decide (IntKind.i64.min ≤ n) = true ∧ decide (n ≤ IntKind.i64.max) = true := by simpa only [Lit.wf, Bool.and_eq_true] using w3
  have h2 := of_decide_eq_true hw.2
  rw [hmx] at h2
  exact h2
theorem isSlIn_of_trod {H : Type} {enc : TypeId × Value → H} {W : World} {a : Option Addr} {len cap fuel : Nat} {d : DataW H} {p : List MemPlace} {sp : Nat → Bool} {held : Bool}
    (hf : DataW.trod enc Tryz.prog W 0 sp held fuel 22 (Value.slice a len cap).cells.toList = some (d, p)) : ∃ zs, IsSl W (.slice a len cap) zs ∧ ∀ x, x ∈ zs → x ≤ 9223372036854775807 := by
  rcases open_ints Tryz.underlying22 Tryz.underlying3 (by kernel_rfl) hf with ⟨hcs, _⟩ | ⟨x, l, c, zs, hcs, _, hl, hm, hz, _, hcell, hwz⟩
  · simp [Value.cells] at hcs
    obtain ⟨rfl, rfl, rfl⟩ := hcs
    exact ⟨[], ⟨none, 0, rfl, by simp, fun _ => rfl, fun h => by cases h⟩, fun x h => by cases h⟩
  · simp [Value.cells] at hcs
    obtain ⟨rfl, rfl, rfl⟩ := hcs
    have hzl : len ≤ zs.length := by rw [hz]; split <;> omega
    have hlen : (zs.take len).length = len := by rw [List.length_take]; omega
    refine ⟨zs.take len, ⟨some x, cap, by rw [hlen], by omega, (fun h => by cases h), fun h0 => ?_⟩, fun x hx => int_top (hwz x (List.mem_of_mem_take hx))⟩
    rw [hlen] at h0
    have hx := hcell 0 (by omega)
    have hsp : x.spot = none := by
      cases hq : x.spot with
      | none => rfl
      | some k => unfold World.cell? Addr.add at hx; simp [hq] at hx; revert hx; split <;> simp
    obtain ⟨b, off, sp⟩ := x
    simp at hsp
    subst hsp
    refine ⟨b, off, rfl, fun i hi => ?_⟩
    rw [hlen] at hi
    have := hcell i (by omega)
    have e : (⟨b, off, none⟩ : Addr).add i = ⟨b, off + i, none⟩ := by unfold Addr.add; split <;> simp_all
    rw [e] at this
    rw [this]
    simp [List.getD, hi]
end Go.Proofs.YtdpemmmbkjmplacGreatDoor
namespace Go.Proofs.YtdpemmmbkjmplacGreatDoor
open Go.ChangeShapes Go.WideShapes Go.RowKit

/-- The same, with what is known of its room. -/
theorem isSlCap_of_trod {H : Type} {enc : TypeId × Value → H} {W : World} {a : Option Addr} {len cap fuel : Nat} {d : DataW H} {p : List MemPlace} {held : Bool}
    (hf : DataW.trod enc Tryz.prog W 0 (fun _ => true) held fuel 22 (Value.slice a len cap).cells.toList = some (d, p)) : len ≤ cap ∧ cap ≤ 9223372036854775807 ∧ (cap = 0 ∨ ∃ b off, a = some ⟨b, off, none⟩) := by
  rcases open_ints Tryz.underlying22 Tryz.underlying3 (by kernel_rfl) hf with ⟨hcs, _⟩ | ⟨x, l, c, zs, hcs, _, hl, hm, hz, _, hcell, hwz⟩
  · simp [Value.cells] at hcs
    obtain ⟨rfl, rfl, rfl⟩ := hcs
    exact ⟨Nat.le_refl _, by omega, .inl rfl⟩
  · simp [Value.cells] at hcs
    obtain ⟨rfl, rfl, rfl⟩ := hcs
    refine ⟨hl, by unfold maxLen at hm; omega, ?_⟩
    by_cases h0 : cap = 0
    · exact .inl h0
    · right
      have hx := hcell 0 (by rw [hz]; simp; omega)
      have hsp : x.spot = none := by
        cases hq : x.spot with
        | none => rfl
        | some k => unfold World.cell? Addr.add at hx; simp [hq] at hx; revert hx; split <;> simp
      obtain ⟨b, off, sp⟩ := x
      simp at hsp
      subst hsp
      exact ⟨b, off, rfl⟩
end Go.Proofs.YtdpemmmbkjmplacGreatDoor
namespace Go.Proofs.YtdpemmmbkjmplacGreatDoor
open Go.ChangeShapes Go.WideShapes Go.RowKit

theorem own : ownKnob Tryz.prog.godebug = none := by kernel_rfl
theorem laidOut : laidOutB Tryz.prog = true := by kernel_rfl
theorem star : "*" ++ "errors.errorString" = "*errors.errorString" := by decide
theorem rowErrS (u : TypeId) (h : Tryz.prog.typeName? 3 u = some "*errors.errorString") : u = 266 :=
  typeName_ptr_named (nm := "errors.errorString") (by rw [star]; kernel_rfl) (by kernel_rfl) (by decide) u (by rw [star]; exact h)
theorem cellsErrS : Tryz.prog.cellsOf 285 = 1 := by kernel_rfl
theorem cellsString : Tryz.prog.cellsOf 9 = 1 := by kernel_rfl

/-- An error of errors.New, read through. -/
def errD (text : List UInt8) : DataW Unit := .iface "*errors.errorString" (.ptr (.agg [.lit (.string text)]))

/-- What a listed error variable (number g) and its address a have. -/
structure Sent (W : World) (g : Nat) (a : Addr) : Prop where
  var : W.cell? ⟨g, 0, none⟩ = some (.iface 266 (.pointer (some a)))
  str : ∃ s, W.cell? a = some (.string s)
  row : ∃ c t, W.heap[a.block]? = some (.cells c t (0, 0))

set_option maxRecDepth 100000 in
theorem sents {W : World} : ∀ (l : List (String × DataW Unit)) (gs : List Nat) (texts : List (List UInt8)),
    l.map (fun x => Tryz.prog.globalNamed x.1) = gs.map some → (∀ g ∈ gs, (Tryz.prog.globals[g]?).map (·.type) = some 27) → l.map (·.2) = texts.map errD →
    ∀ ps, DataW.LaidVars Tryz.prog W l ps → ps.Nodup →
    (∀ b off, MemPlace.cell b off ∈ ps → (∃ c t, W.heap[b]? = some (.cells c t (0, 0))) ∧ ∀ u v, W.cell? ⟨b, off, none⟩ = some (.iface u v) → Value.okWide Tryz.prog W .any 0 u v) →
    ∃ ads : List Addr, ads.length = gs.length ∧ ads.Nodup ∧ (∀ a ∈ ads, MemPlace.cell a.block a.off ∈ ps ∧ a.spot = none) ∧ ∀ (i g : Nat) (a : Addr), gs[i]? = some g → ads[i]? = some a → Sent W g a
  | [], [], _, _, _, _, _, _, _, _ => ⟨[], rfl, List.nodup_nil, (fun a h => by cases h), fun i g a h => by simp at h⟩
  | [], _ :: _, _, h, _, _, _, _, _, _ => by simp at h
  | _ :: _, [], _, h, _, _, _, _, _, _ => by simp at h
  | _ :: _, _ :: _, [], _, _, h, _, _, _, _ => by simp at h
  | (n, d) :: l, g :: gs, text :: texts, hg, ht, hd, ps, hl, hnd, hrows => by
    simp only [List.map_cons, List.cons.injEq] at hg hd
    obtain ⟨hg0, hg⟩ := hg
    obtain ⟨hd0, hd⟩ := hd
    obtain ⟨g', t, cs, fuel, p, q, e1, e2, e3, e4, e5, rfl⟩ := hl
    obtain rfl := Option.some.inj (hg0.symm.trans e1)
    obtain rfl := Option.some.inj ((ht g (List.mem_cons_self)).symm.trans e2)
    subst hd0
    obtain ⟨l0⟩ := cs
    have hvc : ∀ v, l0 = [v] → W.cell? ⟨g, 0, none⟩ = some v := fun v e => by subst e; simpa using World.var?_cell hg0 e3 0
    have ok0 : ∀ u v, l0 = [.iface u v] → Value.okWide Tryz.prog W .any 0 u v := fun u v e => (hrows g 0 (by subst e; simp [MemPlace.row])).2 u v (hvc _ e)
    obtain ⟨a0, s0, rfl, hc0, hs0, hz0, rfl⟩ := errorString_of_trod Tryz.underlying27 rowErrS Tryz.underlying266 Tryz.underlying285 rfl rfl Tryz.underlying9 cellsErrS cellsString e4 ok0
    have hr0 := (hrows a0.block a0.off (by simp [MemPlace.row])).1
    obtain ⟨ads, h1, h2, h3, h4⟩ := sents l gs texts hg (fun g' hm => ht g' (List.mem_cons_of_mem _ hm)) hd q e5 (hnd.sublist (List.sublist_append_right _ _)) (fun b off hm => hrows b off (List.mem_append_right _ hm))
    have hsp : a0.spot = none := by
      cases hq : a0.spot with
      | none => rfl
      | some k => unfold World.cell? at hc0; rw [hq] at hc0; revert hc0; split <;> simp
    refine ⟨a0 :: ads, by simp [h1], ?_, ?_, ?_⟩
    · refine List.nodup_cons.2 ⟨fun hm => ?_, h2⟩
      have hq := (h3 a0 hm).1
      rw [List.append_assoc] at hnd
      have h5 := (List.nodup_append.1 (List.nodup_append.1 hnd).2.1).2.2 (MemPlace.cell a0.block a0.off) (by simp [MemPlace.row]) _ hq
      exact h5 rfl
    · intro a hm
      rcases List.mem_cons.1 hm with rfl | hm
      · exact ⟨by simp [MemPlace.row], hsp⟩
      · exact ⟨List.mem_append_right _ (h3 a hm).1, (h3 a hm).2⟩
    · intro i g' a hgi hai
      cases i with
      | zero =>
        simp at hgi hai
        subst hgi; subst hai
        exact ⟨hvc _ rfl, ⟨s0, hc0⟩, hr0⟩
      | succ i => exact h4 i g' a (by simpa using hgi) (by simpa using hai)
def textOf : DataW Unit → List UInt8
  | .iface _ (.ptr (.agg [.lit (.string t)])) => t
  | _ => []
end Go.Proofs.YtdpemmmbkjmplacGreatDoor
namespace Go.Proofs.YtdpemmmbkjmplacGreatDoor
open Go.ChangeShapes Go.WideShapes Go.RowKit

theorem door_met9 (os : Os) (args : Array Value) : laidMetH Tryz.prog Rows.worldStepsRow.laid ((World.doorLaid Tryz.prog 187 os).forCall (fun _ _ => 0) ⟨#[], args, []⟩).memory :=
  laidMetH_of_parts3 (fuel := 8) (laidMet_of_run' 8 (by kernel_rfl) (by kernel_rfl)) (by kernel_rfl) (by kernel_rfl)
theorem plainOf : (Rows.worldStepsRow.laid.filter fun x => x.2.handleName?.isNone).map (fun x => Tryz.prog.globalNamed x.1) = [4, 0, 2, 3, 5, 6, 7, 1, 8].map some := by kernel_rfl
theorem textsOf : (Rows.worldStepsRow.laid.filter fun x => x.2.handleName?.isNone).map (·.2) = ((Rows.worldStepsRow.laid.filter fun x => x.2.handleName?.isNone).map fun x => textOf x.2).map errD := by kernel_rfl
theorem typesOf : ([4, 0, 2, 3, 5, 6, 7, 1, 8].all fun g => ((Tryz.prog.globals[g]?).map (·.type)) == some 27) = true := by kernel_rfl
theorem handleOf : (Rows.worldStepsRow.laid.filter fun x => x.2.handleName?.isSome) = Rows.worldStepsRow.laid.take 1 := by kernel_rfl
theorem gErrT : Tryz.prog.globalNamed (Rows.worldStepsRow.laid.map (·.1)).head! = some 9 := by kernel_rfl
theorem rtypeT : (Tryz.prog.cutTypes.find? (·.1 == "internal/reflectlite.rtype")).map (·.2) = some 219 := by kernel_rfl
theorem oneRow : ((List.range 297).filter fun t => Tryz.prog.rowNamed t [101, 114, 114, 111, 114]) = [27] := by kernel_rfl
theorem sizeT : Tryz.prog.types.size = 297 := by kernel_rfl
theorem handleErr : typeHandle Tryz.prog 27 = .pointer (some ⟨10, 27, none⟩) := by kernel_rfl

theorem handle_of {W : World} (h : handlesMet Tryz.prog (Rows.worldStepsRow.laid.filter fun x => x.2.handleName?.isSome) W) : W.cell? ⟨9, 0, none⟩ = some (.iface 219 (.agg #[.pointer (some ⟨10, 27, none⟩)])) := by
  rw [handleOf] at h
  obtain ⟨name, u, ty, e1, e2, e3, e4, e5⟩ := h _ (List.mem_singleton.2 rfl)
  have en : name = [101, 114, 114, 111, 114] := (Option.some.inj e1).symm
  subst en
  obtain rfl := Option.some.inj (rtypeT.symm.trans e2)
  have hm : ty ∈ (List.range 297).filter fun t => Tryz.prog.rowNamed t [101, 114, 114, 111, 114] := List.mem_filter.2 ⟨List.mem_range.2 (by rw [← sizeT]; exact e3), e4⟩
  rw [oneRow] at hm
  obtain rfl := List.mem_singleton.1 hm
  rw [handleErr] at e5
  simpa using World.var?_cell gErrT e5 0

theorem held9_of_laid {W : World} (h : laidMetH Tryz.prog Rows.worldStepsRow.laid W) : ∃ A, Held9 W A := by
  obtain ⟨⟨ps, h1, h2, h3⟩, hh⟩ := laidMetH_iff.1 h
  obtain ⟨ads, hl, hnd, -, hs⟩ := sents _ [4, 0, 2, 3, 5, 6, 7, 1, 8] _ plainOf
    (fun g hg => by simpa using List.all_eq_true.1 typesOf g hg) textsOf ps h1 h2 h3
  have hlen : ads.length = 9 := by rw [hl]; rfl
  have hgs : ∀ i, i < 9 → [4, 0, 2, 3, 5, 6, 7, 1, 8][i]? = some (gN i) := by
    intro i hi
    have : i = 0 ∨ i = 1 ∨ i = 2 ∨ i = 3 ∨ i = 4 ∨ i = 5 ∨ i = 6 ∨ i = 7 ∨ i = 8 := by omega
    rcases this with rfl | rfl | rfl | rfl | rfl | rfl | rfl | rfl | rfl <;> rfl
  have hat : ∀ i (hi : i < 9), ads[i]? = some (ads.getD i ⟨0, 0, none⟩) := by
    intro i hi
    rw [List.getD_eq_getElem?_getD, List.getElem?_eq_getElem (by omega)]; rfl
  refine ⟨fun i => ads.getD i ⟨0, 0, none⟩, fun i hi => (hs i (gN i) _ (hgs i hi) (hat i hi)).var, ?_, fun i hi => (hs i (gN i) _ (hgs i hi) (hat i hi)).row, handle_of hh⟩
  intro i j hi hj hne e
  have e1 := hat i hi
  have e2 := hat j hj
  rw [e] at e1
  exact hne ((List.getElem?_inj (by omega) hnd).1 (e1.trans e2.symm))
end Go.Proofs.YtdpemmmbkjmplacGreatDoor
