/-
  THE LAW's CLOSED FACT: a deal begins.
  WHAT STANDS ALONG THE LAW WorldAgrees: a world in which nobody decides otherwise, and what its sites' phases were.
-/
import Derived.Test.YtmolmmhkbfehgabGreatDoorBa9
import Derived.Test.YtmolmmhkbfehgabGreatDoorBa12
import Derived.Test.YtmolmmhkbfehgabGreatDoorBa8
namespace Go.Proofs.YtmolmmhkbfehgabGreatDoor
open Go.RowKit

theorem stN_new (i d : Nat) (hd : d < 6) : stN (newX.nd i) d = ⟨0, 0, 0⟩ := by
  show (dealL (zeroB 512).data.toList d).2 = _
  rw [deal_zero 512 d (by omega)]
  rfl
theorem held_new (n d : Nat) (hd : d < 6) : heldX n newX d = false := by
  unfold heldX
  rw [List.any_eq_false]
  intro i _
  rw [stN_new i d hd]
  show ¬ ((false || !decide (0 = 0 ∧ 0 = 0 ∧ 0 = 0)) = true)
  decide
theorem beg_new : cBeg 3 newX 1 0 = 0 := by
  unfold cBeg
  rw [if_pos (by decide), if_pos (by decide), if_neg (by rw [held_new 3 _ (by decide)]; decide)]
theorem beg_held (zs : List Int) : cBeg 3 (beginX zs newX 1 0) 0 0 = 8 := by
  unfold cBeg
  rw [if_pos (by decide), if_pos (by rfl), if_pos ?_]
  unfold heldX
  rw [List.any_eq_true]
  exact ⟨1, by decide, rfl⟩
set_option maxHeartbeats 2000000 in
set_option maxRecDepth 100000 in
theorem born_any (A : Nat → Addr) (w : World) (hE : Held9 w A) : Calls Tryz.prog 7 #[] w fun e w' => e = .returned (.bool true) ∧ Below w.heap.size w w' := by
  obtain ⟨W, HW⟩ : ∃ W, Hid (w.alloc (.cells #[.int .i64 1, .int .i64 1, .int .i64 1] 3) = W) := ⟨_, rfl⟩
  have hW := HW.out
  have HB : Hid (Below w.heap.size w W) := by rw [← HW.out]; exact (Below.refl _ _).alloc (Nat.le_refl _) _
  have HE := hid (hE.later HB.out)
  have HR := hid (heap_alloc_new w (.cells #[.int .i64 1, .int .i64 1, .int .i64 1] 3))
  rw [HW.out] at HR
  have HSl : Hid (IsSl W (.slice (some ⟨w.heap.size, 0, none⟩) 3 3) [1, 1, 1]) := by
    refine ⟨_, 3, rfl, by decide, (fun x => by cases x), fun _ => ⟨w.heap.size, 0, rfl, fun i hi => ?_⟩⟩
    have h3 : i = 0 ∨ i = 1 ∨ i = 2 := by have : i < 3 := hi; omega
    rcases h3 with rfl | rfl | rfl <;> rw [cell_of_row _ _ _ _ _ _ HR.out] <;> rfl
  clear hE
  go_enter Tryz.func7, Tryz.ntmps7
  go_wp2_with fail
  refine (wnew_ok _ HSl.out HE.out (by decide)).mono ?_
  rintro e w1 ⟨C, X, rfl, h1⟩
  have H1 := hid h1
  clear h1
  go_wp2_with fail
  refine (begin_any 1 0 0 H1.out HE.out (by decide) beg_new).mono ?_
  rintro e w2 ⟨rfl, C2, X2, g1, g2, g3, g4⟩
  rw [if_pos rfl, show ((1 : Int).toNat) = 1 from rfl, show ((0 : Int).toNat) = 0 from rfl] at g1
  rw [show ev A 0 = .nilIface from rfl]
  have H2 := hid g1
  have HX2 := hid (key_xb g2)
  clear g1 g2 g3 g4
  have HLd := hid (lead_ok 1 0 H2.out (by decide) (by decide))
  have HFl := hid (flying_any H2.out (by decide))
  rw [HX2.out] at HLd HFl
  rw [show ((1 : Nat) : Int) = 1 from rfl, show ((0 : Nat) : Int) = 0 from rfl, show leadT ((beginX [1, 1, 1] newX 1 0).nd 1) 0 = ⟨#[97, 115, 107, 105, 110, 103]⟩ from rfl] at HLd
  go_wp2_with fail
  refine HLd.out.mono ?_
  rintro e w3 ⟨rfl, hx⟩
  subst w3
  go_wp2_with fail
  refine HFl.out.mono ?_
  rintro e w3 ⟨v3, rfl, ho3, hb3⟩
  obtain ⟨ad, cap, rfl⟩ : ∃ ad cap, v3 = .slice ad 3 cap := by
    rcases ho3.2 with ⟨_, h0⟩ | ⟨g, cap, cur, e, -⟩
    · cases h0
    · exact ⟨_, _, e⟩
  have H3 := hid (H2.out.later hb3)
  have HBg := hid (begin_any 0 0 8 H3.out HE.out (by decide) (beg_held [1, 1, 1]))
  rw [HX2.out, show ev A 8 = .iface 219 (.pointer (some (A 7))) from rfl] at HBg
  clear ho3 hb3
  go_wp2_with fail
  refine HBg.out.mono ?_
  rintro e w4 ⟨rfl, C4, X4, g1, -, -, -⟩
  have H4 := hid g1
  clear g1
  go_wp2_with fail
  refine (coded_at A 7 8 w4 (H4.out.held HE.out) (by decide)).mono ?_
  rintro e w5 ⟨rfl, hb5⟩
  have HB5 := hid (below_trans (below_trans HB.out H4.out.bel) hb5)
  clear hb5
  rw [show (((7 : Nat) : Int) + 1 == 8) = true from rfl]
  go_wp2_with fail
  go_ret
  exact ⟨rfl, HB5.out⟩
end Go.Proofs.YtmolmmhkbfehgabGreatDoor
namespace Go.Proofs.YtmolmmhkbfehgabGreatDoor
open Go.RowKit

/-- A step as it came in. -/
structure Step4 where
  k : ByteArray
  s : Int
  d : Int
  n : Int
def SIn (w : World) (a : Option Addr) (L : List Step4) : Prop :=
  ∀ i (h : i < L.length), (L[i]'h).n ≤ 9223372036854775807 ∧ ∃ b off, a = some ⟨b, off, none⟩ ∧ w.cell? ⟨b, off + i * 4, none⟩ = some (.string (L[i]'h).k) ∧ w.cell? ⟨b, off + i * 4 + 1, none⟩ = some (.int .i64 (L[i]'h).s) ∧ w.cell? ⟨b, off + i * 4 + 2, none⟩ = some (.int .i64 (L[i]'h).d) ∧ w.cell? ⟨b, off + i * 4 + 3, none⟩ = some (.int .i64 (L[i]'h).n)
theorem SIn.later {w w' : World} {a : Option Addr} {L : List Step4} (h : SIn w a L) (hb : Below w.heap.size w w') : SIn w' a L := fun i hi => by
  obtain ⟨hn, b, off, ha, h0, h1, h2, h3⟩ := h i hi
  exact ⟨hn, b, off, ha, cell_later hb h0, cell_later hb h1, cell_later hb h2, cell_later hb h3⟩
/-- What the phases were, in memory. -/
def wasC (n : Nat) (F : Nat → Nat) : List Value := (List.range (6 * n)).map fun j => .int .i64 (F j : Int)
def setF (F : Nat → Nat) (q p : Nat) : Nat → Nat := fun j => if j = q then p else F j
theorem wasC_get (n : Nat) (F : Nat → Nat) {q : Nat} (h : q < 6 * n) : (wasC n F)[q]? = some (.int .i64 (F q : Int)) := by
  unfold wasC
  rw [List.getElem?_map, List.getElem?_range h]
  rfl
theorem wasC_set (n : Nat) (F : Nat → Nat) {q p : Nat} : (wasC n F).set q (.int .i64 (p : Int)) = wasC n (setF F q p) := by
  refine List.ext_getElem? fun j => ?_
  rw [List.getElem?_set]
  by_cases e : q = j
  · subst e
    rw [if_pos rfl]
    by_cases hq : q < 6 * n
    · rw [if_pos (by unfold wasC; simpa using hq), wasC_get n _ hq]
      unfold setF
      rw [if_pos rfl]
    · rw [if_neg (by unfold wasC; simpa using hq)]
      exact (List.getElem?_eq_none (by unfold wasC; simpa using hq)).symm
  · rw [if_neg e]
    unfold wasC setF
    rw [List.getElem?_map, List.getElem?_map]
    by_cases hj : j < 6 * n
    · rw [List.getElem?_range hj]
      show some (Value.int .i64 (F j : Int)) = some (.int .i64 ((if j = q then p else F j : Nat) : Int))
      rw [if_neg (fun x : j = q => e x.symm)]
    · rw [List.getElem?_eq_none (by simpa using hj)]
      rfl
section
variable {w0 w w' : World} {C C' : Nat → Nat} {X : XB} {m m' : Nat} {zs : List Int} {V V' : PX} {A : Nat → Addr}
/-- Blocks that are not the world's are written. -/
theorem WD.far {S : Nat → Prop} (h : WD w0 w C X zs V m) (k : Kept S w w') (hS : ∀ x, S x → 2000 ≤ C x) (hb : ∀ x, S x → w0.heap.size ≤ x) : WD w0 w' C X zs V m := by
  obtain ⟨D, hD, hh⟩ := h.brk
  have n7 := h.n7
  have e1 := h.cx; have e2 := h.cw; have e3 := h.cn; have e4 := h.cm
  have no : ∀ x, C x < 2000 → ¬ S x := fun x hx hs => by have := hS x hs; omega
  exact ⟨k.below h.bel.size hb h.bel, k.row h.row (no _ (by omega)), fun i hi => cell_kept (h.ws i hi) k (no _ (by show C X.wb < 2000; omega)), fun i hi => cell_kept (h.ns i hi) k (no _ (by show C X.nb < 2000; omega)), fun i hi => (h.nds i hi).kept k (fun x _ hx => no x (by omega)) hb,
    ⟨D, ownsMap_kept hD k (no _ (by omega)), hh⟩, own_kept h.fly k (fun g hg => no g (by have := h.cf g hg; omega)), own_kept h.evs k (fun g hg => no g (by have := h.ce g hg; omega)), h.cx, h.cw, h.cn, h.cm, h.cf, h.ce, fun x hx => Nat.lt_of_lt_of_le (h.lt x hx) k.size, h.low, h.inv⟩
/-- What stands along the law. -/
structure AgI (w0 w : World) (zs : List Int) (xb wb : Nat) (V : PX) (m : Nat) (F : Nat → Nat) (C : Nat → Nat) (X : XB) : Prop where
  ax : AX zs V
  wd : WD w0 w C X zs V m
  xb : X.xb = xb
  col : 2000 ≤ C wb
  row : w.heap[wb]? = some (.cells (wasC zs.length F).toArray 3 (0, 0))
  low : w0.heap.size ≤ wb
  may : ∀ s d, s < zs.length → d < 6 → mayN (F (d * zs.length + s)) (stN (V.nd s) d).ph
variable {xb wb : Nat} {F : Nat → Nat}
theorem AgI.later (h : AgI w0 w zs xb wb V m F C X) (hb : Below w.heap.size w w') : AgI w0 w' zs xb wb V m F C X :=
  ⟨h.ax, h.wd.later hb, h.xb, h.col, row_later hb h.row, h.low, h.may⟩
theorem AgI.act (h : AgI w0 w zs xb wb V m F C X) (hm : m < 800000) (ho : StpOut w0 w w' C X zs V m) : ∃ V' C' X', AgI w0 w' zs xb wb V' (m + 42) F C' X' ∧ Kept (OwnX C) w w' ∧ ∀ x, x < w.heap.size → C' x = C x := by
  obtain ⟨V', hs, C', X', g1, g2, g3, g4⟩ := ho
  obtain ⟨a1, a2⟩ := hs.ax h.ax h.wd.inv (by omega)
  have hlt := row_ltJ h.row
  have hcol := h.col
  exact ⟨V', C', X', ⟨a1, g1, (key_xb g2).trans h.xb, by rw [g4 _ hlt]; exact hcol, g3.row h.row (fun e => by have e2 : C wb < 2000 := e; omega), h.low, fun s d hs hd => mayN_trans (h.may s d hs hd) (a2 s d hs hd)⟩, g3, g4⟩
theorem idx_ne {n d s e t : Nat} (hs : s < n) (ht : t < n) (h : d * n + s = e * n + t) : d = e ∧ s = t := by
  have h1 : (d * n + s) / n = d := by rw [Nat.mul_comm, Nat.mul_add_div (by omega), Nat.div_eq_of_lt hs]; omega
  have h2 : (e * n + t) / n = e := by rw [Nat.mul_comm, Nat.mul_add_div (by omega), Nat.div_eq_of_lt ht]; omega
  have h3 : d = e := by rw [← h1, ← h2, h]
  subst h3
  exact ⟨rfl, by omega⟩
theorem AgI.store (h : AgI w0 w zs xb wb V m F C X) {s d q p : Nat} (hs : s < zs.length) (hd : d < 6) (hq : d * zs.length + s = q) (hp : (stN (V.nd s) d).ph = p) :
    AgI w0 (w.setCell ⟨wb, q, none⟩ (.int .i64 (p : Int))) zs xb wb V m (setF F q p) C X ∧ Kept (In1 wb) w (w.setCell ⟨wb, q, none⟩ (.int .i64 (p : Int))) := by
  have k : Kept (In1 wb) w (w.setCell ⟨wb, q, none⟩ (.int .i64 (p : Int))) := (Kept.refl _ _).set1 q _
  have hcol := h.col
  have hlow := h.low
  refine ⟨⟨h.ax, h.wd.far k (fun x hx => by have e : x = wb := hx; rw [e]; exact hcol) (fun x hx => by have e : x = wb := hx; rw [e]; exact hlow), h.xb, h.col, ?_, h.low, fun t e ht he => ?_⟩, k⟩
  · rw [heap_setCell_same w wb q _ _ _ h.row, List.setIfInBounds_toArray, wasC_set]
  · unfold setF
    split
    · rename_i hc
      obtain ⟨h1, h2⟩ := idx_ne ht hs (hc.trans hq.symm)
      subst h1
      subst h2
      rw [hp]
      have h5 := ((h.wd.inv.nd t hs).gd e hd).1
      have h6 : (stN (V.nd t) e).ph ≤ 5 := h5
      rw [hp] at h6
      exact ⟨h6, h6, .inl rfl⟩
    · exact h.may t e ht he
end
theorem FltV.nil {w : World} {A : Nat → Addr} {k base : Nat} {v : Value} (h : FltV w A 0 k v base) : v = .nilIface := by
  rcases h with ⟨-, h⟩ | ⟨x, _, h, -⟩
  · exact h
  · cases h
/-- No two states of a deal are different ends. -/
theorem ax_agree {zs : List Int} {V : PX} (hA : AX zs V) {d : Nat} (hd : d < 6) : AgF (stsL V d zs.length) 0 zs.length := by
  obtain ⟨g, hg⟩ := hA.gx d hd
  refine ⟨fun j hj _ => ?_, .inl ⟨rfl, (stsL_length V d zs.length).symm⟩⟩
  have hjn : j < zs.length := by rw [stsL_length] at hj; exact hj
  unfold disB
  rw [stsL_get]
  cases hf : finS ⟨((stN (V.nd j) d).ph : Int), (stN (V.nd j) d).pr, (stN (V.nd j) d).at_⟩ with
  | false => rfl
  | true =>
    rw [Bool.true_and, List.any_eq_false]
    intro q hq
    rw [Bool.and_eq_true, decide_eq_true_eq]
    rintro ⟨h1, h2⟩
    obtain ⟨i, hi, rfl⟩ := List.getElem_of_mem (List.mem_of_mem_take hq)
    rw [stsL_get] at h1 h2
    have hin : i < zs.length := by rw [stsL_length] at hi; exact hi
    have e1 := of_decide_eq_true hf
    have e2 := of_decide_eq_true h1
    simp only at e1 e2 h2
    have s2 := hg.co.s2
    have s3 := hg.co.s3
    rcases e1 with e1 | e1 <;> rcases e2 with e2 | e2
    · omega
    · exact hg.co.split (s2 j hjn (by show (stN (V.nd j) d).ph = 2; omega)) (s3 i hin (by show (stN (V.nd i) d).ph = 3; omega))
    · exact hg.co.split (s2 i hin (by show (stN (V.nd i) d).ph = 2; omega)) (s3 j hjn (by show (stN (V.nd j) d).ph = 3; omega))
    · omega
/-- Where one has committed, or is to, all had voted. -/
theorem ax_all {zs : List Int} {V : PX} (hA : AX zs V) {d i k : Nat} (hd : d < 6) (hi : i < zs.length) (hk : k < zs.length) (h : (stN (V.nd i) d).ph = 2 ∨ (stN (V.nd i) d).ph = 4) : (stN (V.nd k) d).ph ≠ 0 := by
  obtain ⟨g, hg⟩ := hA.gx d hd
  rcases h with h | h
  · obtain ⟨a, ha, -⟩ := hg.co.s2 i hi h
    exact hg.co.al a ha k hk
  · have h1 := (hg.co.s4 i hi (.inl h)).1
    have h2 : g.val (stN (V.nd i) d).at_ = (stN (V.nd i) d).ph := h1
    exact hg.co.al _ (h2.trans h) k hk
/-- The events are well. -/
theorem ax_events {zs : List Int} {V : PX} (hA : AX zs V) : EvF zs.length V.evs 0 V.evs.length := by
  refine ⟨fun j hj _ => ?_, .inl ⟨rfl, rfl⟩⟩
  obtain ⟨i, d, p, h1, h2, h3, h4, h5⟩ := hA.ex.at_ (V.evs[j]'hj) (List.getElem_mem hj)
  have hpre : ∀ q, q ∈ V.evs.take j → q ∈ V.evs ∧ ¬ (q.s = (V.evs[j]'hj).s ∧ q.d = (V.evs[j]'hj).d) := by
    intro q hq
    refine ⟨List.mem_of_mem_take hq, ?_⟩
    have hp := hA.ex.once
    rw [← List.take_append_drop j V.evs, List.pairwise_append] at hp
    exact hp.2.2 q hq _ (by rw [List.drop_eq_getElem_cons hj]; exact List.mem_cons_self)
  obtain ⟨g, hg⟩ := hA.gx d h3
  have hb : bdB zs.length (V.evs[j]'hj) = true := by rw [h1]; exact decide_eq_true ⟨⟨by simp only; omega, by simp only; omega⟩, ⟨by simp only; omega, by simp only; omega⟩, by simp only; omega⟩
  have hs : spB (V.evs.take j) (V.evs[j]'hj) = false := by
    unfold spB
    rw [List.any_eq_false]
    intro q hq hx
    obtain ⟨x1, x2⟩ := of_decide_eq_true hx
    obtain ⟨i', d', p', g1, g2, g3, g4, g5⟩ := hA.ex.at_ q (hpre q hq).1
    rw [h1, g1] at x1 x2
    simp only at x1 x2
    have ed : d' = d := by omega
    subst ed
    have s2 := hg.co.s2
    have s3 := hg.co.s3
    rcases h4 with h4 | h4 <;> rcases g4 with g4 | g4
    · omega
    · exact hg.co.split (s2 i h2 (by show (stN (V.nd i) d').ph = 2; omega)) (s3 i' g2 (by show (stN (V.nd i') d').ph = 3; omega))
    · exact hg.co.split (s2 i' g2 (by show (stN (V.nd i') d').ph = 2; omega)) (s3 i h2 (by show (stN (V.nd i) d').ph = 3; omega))
    · omega
  have hh : heB (V.evs.take j) (V.evs[j]'hj) = false := by
    unfold heB
    rw [List.any_eq_false]
    intro q hq hx
    obtain ⟨x1, x2⟩ := of_decide_eq_true hx
    exact (hpre q hq).2 ⟨x2, x1⟩
  unfold evC
  rw [if_neg (by rw [hb]; decide), if_neg (by rw [hs]; decide), if_neg (by rw [hh]; decide)]
end Go.Proofs.YtmolmmhkbfehgabGreatDoor
