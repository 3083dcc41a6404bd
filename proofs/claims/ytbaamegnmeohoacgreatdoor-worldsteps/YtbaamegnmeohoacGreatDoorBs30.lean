/-
  On the way to WStepsProof: XQ XR XS.
-/
import Derived.Test.YtbaamegnmeohoacGreatDoorBs29
import Derived.Test.YtbaamegnmeohoacGreatDoorBs18
namespace Go.Proofs.YtbaamegnmeohoacGreatDoor
open Go.RowKit
def noteL (F : List E3) (i : Nat) (g : Nat → Bool) (p : Nat → Nat) : Nat → List E3
  | 0 => F
  | k + 1 => if g k = false ∧ finB (p k) = true ∧ (noteL F i g p k).length < 500 then noteL F i g p k ++ [⟨i, k, p k⟩] else noteL F i g p k
def noteG (g : Nat → Bool) (p : Nat → Nat) (k : Nat) : Nat → Bool := fun e => if e < k then g e || finB (p e) else g e
theorem noteL_skip {F : List E3} {i : Nat} {g : Nat → Bool} {p : Nat → Nat} {k : Nat} (h : g k = finB (p k)) : noteL F i g p (k + 1) = noteL F i g p k := by
  rw [noteL, if_neg]
  rintro ⟨h1, h2, -⟩
  rw [h, h2] at h1; cases h1
theorem noteL_below {F : List E3} {i d : Nat} {g : Nat → Bool} {p : Nat → Nat} (h : ∀ e, e < d → g e = finB (p e)) : ∀ k, k ≤ d → noteL F i g p k = F
  | 0, _ => rfl
  | k + 1, hk => (noteL_skip (h k (by omega))).trans (noteL_below h k (by omega))
theorem noteL_above {F : List E3} {i d : Nat} {g : Nat → Bool} {p : Nat → Nat} (h : ∀ e, d < e → e < 6 → g e = finB (p e)) : ∀ j, d + 1 + j ≤ 6 → noteL F i g p (d + 1 + j) = noteL F i g p (d + 1)
  | 0, _ => rfl
  | j + 1, hk => (noteL_skip (h (d + 1 + j) (by omega) (by omega))).trans (noteL_above h j (by omega))
theorem noteL_one {F : List E3} {i d was : Nat} {g : Nat → Bool} {p : Nat → Nat} (hd : d < 6) (ho : ∀ e, e < 6 → e ≠ d → g e = finB (p e)) (hg : g d = finB was) (hw : finB was = true → p d = was) : noteL F i g p 6 = noteE F i d was (p d) := by
  obtain ⟨j, hj⟩ : ∃ j, 6 = d + 1 + j := ⟨5 - d, by omega⟩
  rw [hj, noteL_above (fun e h1 h2 => ho e h2 (by omega)) j (by omega), noteL, noteL_below (fun e h1 => ho e (by omega) (by omega)) d (Nat.le_refl _)]
  unfold noteE
  by_cases q : finB (p d) = true ∧ F.length < 500
  · by_cases w : finB was = true
    · rw [if_neg (by rw [hg, w]; simp), if_neg (fun x => x.1 (hw w))]
    · rw [if_pos ⟨by rw [hg]; simpa using w, q⟩, if_pos ⟨fun e => w (by rw [← e]; exact q.1), q⟩]
  · rw [if_neg (fun x => q x.2), if_neg (fun x => q x.2)]
theorem noteL_none {F : List E3} {i : Nat} {g : Nat → Bool} {p : Nat → Nat} (ho : ∀ e, e < 6 → g e = finB (p e)) : noteL F i g p 6 = F := noteL_below ho 6 (Nat.le_refl _)
theorem noteG_zero (g : Nat → Bool) (p : Nat → Nat) : noteG g p 0 = g := funext fun e => by unfold noteG; rw [if_neg (by omega)]
theorem noteG_skip {g : Nat → Bool} {p : Nat → Nat} {k : Nat} (h : g k = true ∨ finB (p k) = false) : noteG g p (k + 1) = noteG g p k := funext fun e => by
  unfold noteG
  by_cases q : e = k
  · subst q
    rw [if_pos (by omega), if_neg (by omega)]
    rcases h with h | h <;> rw [h] <;> simp
  · by_cases r : e < k
    · rw [if_pos (by omega), if_pos r]
    · rw [if_neg (by omega), if_neg r]
theorem noteG_mark {g : Nat → Bool} {p : Nat → Nat} {k : Nat} (h : finB (p k) = true) : noteG g p (k + 1) = updB (noteG g p k) k true := funext fun e => by
  unfold noteG updB
  by_cases q : e = k
  · subst q
    rw [if_pos (by omega), if_pos rfl, h]; simp
  · rw [if_neg q]
    show _ = if e < k then g e || finB (p e) else g e
    by_cases r : e < k
    · rw [if_pos (by omega), if_pos r]
    · rw [if_neg (by omega), if_neg r]
theorem noteG_at (g : Nat → Bool) (p : Nat → Nat) (k : Nat) : noteG g p k k = g k := by unfold noteG; rw [if_neg (by omega)]
theorem noteG_six {g : Nat → Bool} {p : Nat → Nat} {e : Nat} (he : e < 6) (h : g e = true → finB (p e) = true) : noteG g p 6 e = finB (p e) := by
  unfold noteG
  rw [if_pos he]
  cases hg : g e with
  | true => rw [h hg]; rfl
  | false => rfl
structure NT (b0 : Nat) (w : World) (C : Nat → Nat) (Y : YB) (K : RB) (aw : Option Addr) (cap n i : Nat) (g : Nat → Bool) (E : Nat → Nat × St) (F : List E3) : Prop where
  row : w.heap[Y.xb]? = some (.cells (rwC Y aw n cap).toArray 72 (0, 0))
  ns : w.cell? ⟨Y.nb, i, none⟩ = some (.pointer (some ⟨K.nd, 0, none⟩))
  nd : w.cell? ⟨K.nd, 0, none⟩ = some (.pointer (some ⟨K.t, 0, none⟩))
  dd : w.cell? ⟨K.nd, 3, none⟩ = some (.slice (some ⟨K.dn, 0, none⟩) 6 6)
  st : w.cell? ⟨K.t, 1, none⟩ = some (.pointer (some ⟨K.m, 0, none⟩))
  js : ∃ cs, w.cell? ⟨K.m, 2, none⟩ = some (.slice (some ⟨K.gs, 0, none⟩) 6 cs)
  ph : ∀ d, d < 6 → w.cell? ⟨K.gs, d * 3, none⟩ = some (.int .i64 ((E d).2.ph : Int))
  drow : VR w K.dn g
  evs : w.ownsRow b0 132 3 Y.ev F.length (evCells F)
  le : F.length ≤ 500
  i7 : i < 7
  cx : C Y.xb = 1001
  cn : C Y.nb = 1003
  c1 : C K.nd = 100 * i + 1
  c2 : C K.t = 100 * i + 2
  c3 : C K.m = 100 * i + 3
  c5 : C K.gs = 100 * i + 5
  c9 : C K.dn = 100 * i + 9
  ce : ∀ g, Y.ev.ownBlock = some g → C g = 1006
  lt : ∀ x, C x < 2000 → x < w.heap.size
def InN (C : Nat → Nat) (i : Nat) (x : Nat) : Prop := C x = 1001 ∨ C x = 1006 ∨ C x = 100 * i + 9
section
variable {b0 : Nat} {w w' : World} {C C' : Nat → Nat} {Y : YB} {K : RB} {aw : Option Addr} {cap n i k : Nat} {g : Nat → Bool} {E : Nat → Nat × St} {F : List E3}
theorem NT.later (h : NT b0 w C Y K aw cap n i g E F) (hb : Below w.heap.size w w') : NT b0 w' C Y K aw cap n i g E F := by
  have k : Kept (fun _ => False) w w' := Kept.of_below hb
  obtain ⟨cs, js⟩ := h.js
  exact ⟨k.row h.row (fun x => x), cell_kept h.ns k (fun x => x), cell_kept h.nd k (fun x => x), cell_kept h.dd k (fun x => x), cell_kept h.st k (fun x => x), ⟨cs, cell_kept js k (fun x => x)⟩, fun d hd => cell_kept (h.ph d hd) k (fun x => x), k.row h.drow (fun x => x), own_kept h.evs k (fun _ _ x => x), h.le, h.i7, h.cx, h.cn, h.c1, h.c2, h.c3, h.c5, h.c9, h.ce, fun x hx => Nat.lt_of_lt_of_le (h.lt x hx) hb.size⟩
theorem NT.cells (h : NT b0 w C Y K aw cap n i g E F) : w.cell? ⟨Y.xb, 1, none⟩ = some (.slice (some ⟨Y.nb, 0, none⟩) n Y.nc) ∧ w.cell? ⟨Y.xb, 4, none⟩ = some Y.ev ∧ w.frozen? ⟨Y.xb, 4, none⟩ = false :=
  ⟨by rw [cell_of_row _ _ _ _ _ _ h.row]; rfl, by rw [cell_of_row _ _ _ _ _ _ h.row]; rfl, frozen_of_row _ _ _ _ _ h.row⟩
theorem NT.mark (h : NT b0 w C Y K aw cap n i g E F) (hk : k < 6) : NT b0 (w.setCell ⟨K.dn, k, none⟩ (.bool true)) C Y K aw cap n i (updB g k true) E F := by
  have q : Kept (In1 K.dn) w (w.setCell ⟨K.dn, k, none⟩ (.bool true)) := (Kept.refl _ w).set1 k _
  have i7 := h.i7; have cx := h.cx; have cn := h.cn; have c1 := h.c1; have c2 := h.c2; have c3 := h.c3; have c5 := h.c5; have c9 := h.c9
  have no : ∀ x, C x ≠ 100 * i + 9 → ¬ In1 K.dn x := fun x r hx => r (by rw [show x = K.dn from hx]; exact c9)
  obtain ⟨cs, js⟩ := h.js
  exact ⟨q.row h.row (no _ (by omega)), cell_kept h.ns q (no Y.nb (by omega)), cell_kept h.nd q (no K.nd (by omega)), cell_kept h.dd q (no K.nd (by omega)), cell_kept h.st q (no K.t (by omega)), ⟨cs, cell_kept js q (no K.m (by omega))⟩, fun d hd => cell_kept (h.ph d hd) q (no K.gs (by omega)), h.drow.set hk true, own_kept h.evs q (fun x hx => no x (by have := h.ce x hx; omega)), h.le, h.i7, h.cx, h.cn, h.c1, h.c2, h.c3, h.c5, h.c9, h.ce, fun x hx => by simpa using h.lt x hx⟩
def NTo (b0 : Nat) (w w' : World) (C : Nat → Nat) (Y : YB) (K : RB) (aw : Option Addr) (cap n i : Nat) (g : Nat → Bool) (E : Nat → Nat × St) (F : List E3) : Prop :=
  ∃ C' v, NT b0 w' C' { Y with ev := v } K aw cap n i g E F ∧ Kept (InN C i) w w' ∧ ∀ x, x < w.heap.size → C' x = C x
theorem NTo.step {w1 w2 : World} {C1 : Nat → Nat} {v1 : Value} {g' : Nat → Bool} {F' : List E3} (hk : Kept (InN C i) w w1) (hc : ∀ x, x < w.heap.size → C1 x = C x) (h2 : NTo b0 w1 w2 C1 { Y with ev := v1 } K aw cap n i g' E F') : NTo b0 w w2 C Y K aw cap n i g' E F' := by
  obtain ⟨C', v, g1, g3, g4⟩ := h2
  refine ⟨C', v, g1, ?_, fun x hx => (g4 x (Nat.lt_of_lt_of_le hx hk.size)).trans (hc x hx)⟩
  refine ⟨g3.os.trans hk.os, g3.tape.trans hk.tape, g3.output.trans hk.output, Nat.le_trans hk.size g3.size, fun y hy hn => ?_⟩
  refine (g3.block y (Nat.lt_of_lt_of_le hy hk.size) (fun e => hn ?_)).trans (hk.block y hy hn)
  unfold InN at e ⊢
  rw [← hc y hy]
  exact e
theorem NT.push {v' : Value} {e : E3} (h : NT b0 w C Y K aw cap n i g E F) (hown : w'.ownsRow b0 132 3 v' (F.length + 1) (evCells F ++ e3L e)) (hg : w.grownBy w' Y.ev.ownBlock) (ho : v'.ownBlock = Y.ev.ownBlock ∨ v'.ownBlock = some w.heap.size) (hl : F.length < 500) :
    NTo b0 w (w'.setCell ⟨Y.xb, 4, none⟩ v') C Y K aw cap n i g E (F ++ [e]) := by
  have i7 := h.i7; have cx := h.cx; have cn := h.cn; have c1 := h.c1; have c2 := h.c2; have c3 := h.c3; have c5 := h.c5; have c9 := h.c9
  have hx := row_ltJ h.row
  have hk := grown_kept hg
  have hrow : w'.heap[Y.xb]? = some (.cells (rwC Y aw n cap).toArray 72 (0, 0)) := hk.row h.row (fun q => by have := h.ce _ q; omega)
  have hK2 : Kept (InN C i) w (w'.setCell ⟨Y.xb, 4, none⟩ v') := (hk.mono (fun x hx => .inr (.inl (h.ce x hx)))).setCell (.inl cx) v'
  have no : ∀ x, C x ≠ 1001 → C x ≠ 1006 → C x ≠ 100 * i + 9 → ¬ InN C i x := fun x h1 h2 h3 hx => by rcases hx with q | q | q <;> omega
  have hK3 : Kept (fun x => x = Y.xb ∨ Y.ev.ownBlock = some x) w (w'.setCell ⟨Y.xb, 4, none⟩ v') := (hk.mono (fun x hx => .inr hx)).setCell (.inl rfl) v'
  have hdn : ¬ (K.dn = Y.xb ∨ Y.ev.ownBlock = some K.dn) := fun q => by
    rcases q with q | q
    · rw [q] at c9; omega
    · have := h.ce _ q; omega
  have hr2 : (w'.setCell ⟨Y.xb, 4, none⟩ v').heap[Y.xb]? = some (.cells (rwC { Y with ev := v' } aw n cap).toArray 72 (0, 0)) := by
    rw [heap_setCell_same w' Y.xb 4 _ _ _ hrow]; rfl
  have hne : ∀ x, v'.ownBlock = some x → x ≠ Y.xb := fun x hx2 q => by
    rcases ho with o | o
    · rw [o] at hx2; have := h.ce x hx2; rw [q] at this; omega
    · rw [o] at hx2; have := Option.some.inj hx2; omega
  have he : (w'.setCell ⟨Y.xb, 4, none⟩ v').ownsRow b0 132 3 v' (F ++ [e]).length (evCells (F ++ [e])) := by
    have := own_kept hown ((Kept.refl (In1 Y.xb) w').set1 4 v') (fun x hx2 q => hne x hx2 q)
    rw [List.length_append, show evCells (F ++ [e]) = evCells F ++ e3L e by unfold evCells; simp]
    exact this
  obtain ⟨C1, hC1, hl1, hce1⟩ : ∃ C1 : Nat → Nat, (∀ x, x < w.heap.size → C1 x = C x) ∧ (∀ x, w.heap.size ≤ x → C1 x < 2000 → x < (w'.setCell ⟨Y.xb, 4, none⟩ v').heap.size) ∧ ∀ x, v'.ownBlock = some x → C1 x = 1006 := by
    rcases ho with o | o
    · exact ⟨C, fun _ _ => rfl, fun x hx hc => by have := h.lt x hc; omega, fun x hx => h.ce x (by rw [← o]; exact hx)⟩
    · refine ⟨paint C w.heap.size 1006, fun x hx => paint_ne (by omega), fun x hx hc => ?_, fun x hx => ?_⟩
      · by_cases q : x = w.heap.size
        · rw [q]; have := (hown.lt _ o).2; simpa using this
        · rw [paint_ne q] at hc
          have := h.lt x hc; omega
      · rw [o] at hx
        obtain rfl := Option.some.inj hx
        exact paint_at _ _ _
  obtain ⟨cs, js⟩ := h.js
  have o : ∀ {x c : Nat}, C x = c → c < 2000 → C1 x = c := fun {x c} q hc => (hC1 x (h.lt x (by omega))).trans q
  refine ⟨C1, v', ⟨hr2, cell_kept h.ns hK2 (no Y.nb (by omega) (by omega) (by omega)), cell_kept h.nd hK2 (no K.nd (by omega) (by omega) (by omega)), cell_kept h.dd hK2 (no K.nd (by omega) (by omega) (by omega)), cell_kept h.st hK2 (no K.t (by omega) (by omega) (by omega)), ⟨cs, cell_kept js hK2 (no K.m (by omega) (by omega) (by omega))⟩, fun d hd => cell_kept (h.ph d hd) hK2 (no K.gs (by omega) (by omega) (by omega)), hK3.row h.drow hdn, he, by rw [List.length_append]; simp only [List.length_cons, List.length_nil]; omega, h.i7, o h.cx (by omega), o h.cn (by omega), o h.c1 (by omega), o h.c2 (by omega), o h.c3 (by omega), o h.c5 (by omega), o h.c9 (by omega), hce1, fun x hx => ?_⟩, hK2, hC1⟩
  rcases Nat.lt_or_ge x w.heap.size with q | q
  · exact Nat.lt_of_lt_of_le q hK2.size
  · exact hl1 x q hx
end
theorem Tryz.infoMEv : (Tryz.prog.info? 132).map (fun i => (i.zero, i.size, i.bytes)) = some (some (.agg #[.int .i64 0, .int .i64 0, .int .i64 0]), 3, 24) := by kernel_rfl
theorem wpList_append_mev {w : World} {ops : Array Oper} {rest : List Oper} {o : Oper} {a : Act} {Q : Exit → Act → World → Prop} (hgd : o.guard = none) (s x : Operand)
    (ho : o.op = .call { callee := .builtin .append, args := #[s, x], argTypes := #[52, 52] })
    (base n : Nat) (v : Value) (ad : Addr) (c : Nat) (xs : List Value) (e : E3) (hs : a.eval s = v) (hx : a.eval x = .slice (some ad) 1 c) (hown : w.ownsRow base 132 3 v n xs) (hu : ∀ j u, (e3L e)[j]? = some u → w.cell? (ad.add j) = some u) (hn : n ≤ 1000000000000) (hb : base ≤ w.heap.size)
    (h : ∀ ad' cap' w', w'.ownsRow base 132 3 (.slice ad' (n + 1) cap') (n + 1) (xs ++ e3L e) → w.grownBy w' v.ownBlock → ((Value.slice ad' (n + 1) cap').ownBlock = v.ownBlock ∨ (Value.slice ad' (n + 1) cap').ownBlock = some w.heap.size) → wpList Tryz.prog ops Q rest (a.put o.dst (.slice ad' (n + 1) cap')) w') :
    wpList Tryz.prog ops Q (o :: rest) a w := by
  obtain ⟨i0, hi0, hz0, hz1, hz2⟩ := info_parts Tryz.infoMEv
  refine wpList_append_own_at w hgd s x 52 ho base 132 i0 _ 3 24 Tryz.underlying52 hi0 hz0 hz1 hz2 rfl (by decide) v n xs hs hown ad 1 c (e3L e) hx rfl hu (e3_one e) (by unfold maxLen; omega) (by omega) hb ?_
  intro v' w' h2 h3 _ h5
  obtain ⟨ad', cap', rfl⟩ : ∃ ad' cap', v' = .slice ad' (n + 1) cap' := by
    rcases h2.2 with ⟨e, h0⟩ | ⟨g, cap, cur, e, -⟩
    · exact ⟨none, 0, by rw [e, h0]⟩
    · exact ⟨_, _, e⟩
  exact h ad' cap' w' h2 h3 h5
theorem own_slice {w : World} {base size n : Nat} {t : TypeId} {v : Value} {xs : List Value} (h : w.ownsRow base t size v n xs) : ∃ av cv, v = .slice av n cv := by
  rcases h.2 with ⟨e, h0⟩ | ⟨g, cp, cur, e, -⟩
  · exact ⟨none, 0, by rw [e, h0]⟩
  · exact ⟨_, _, e⟩
section
variable {b0 : Nat} {w w' : World} {C C' : Nat → Nat} {Y : YB} {K : RB} {aw : Option Addr} {cap n i k : Nat} {g : Nat → Bool} {E : Nat → Nat × St} {F : List E3}
set_option maxHeartbeats 4000000 in
set_option maxRecDepth 100000 in
theorem rnote_any (h : NT b0 w C Y K aw cap n i g E F) (hi : i < n) (hb : b0 ≤ w.heap.size) :
    Calls Tryz.prog 113 #[.pointer (some ⟨Y.xb, 0, none⟩), .int .i64 (i : Int)] w fun e w' => e = .returned (.tuple #[]) ∧ NTo b0 w w' C Y K aw cap n i (noteG g (fun d => (E d).2.ph) 6) E (noteL F i g (fun d => (E d).2.ph) 6) := by
  obtain ⟨c1, -, -⟩ := h.cells
  have cn := h.ns
  have H := hid h
  obtain ⟨p, HP⟩ : ∃ p : Nat → Nat, Hid ((fun d => (E d).2.ph) = p) := ⟨_, rfl⟩
  rw [HP.out]
  clear h
  go_enter Tryz.func113, Tryz.ntmps113
  go_wp2_with fail
  go_loopw [5] (fun d wr => ∃ k : Nat, k ≤ 6 ∧ d = .int .i64 (k : Int) ∧ NTo b0 w wr C Y K aw cap n i (noteG g p k) E (noteL F i g p k)) (fun d _ => 6 - (intOf d).toNat)
  case atStart => exact ⟨0, Nat.zero_le _, rfl, C, Y.ev, by rw [noteG_zero]; exact H.out, Kept.refl _ _, fun _ _ => rfl⟩
  case round =>
    obtain ⟨k, hk, rfl, C1, v1, hN, hkk, hC⟩ := hrel
    rename_i wr
    have HN := hid hN
    have HKK := hid hkk
    have HC := hid hC
    have d0 := hN.nd
    have hbr : Hid (b0 ≤ wr.heap.size) := Nat.le_trans hb hkk.size
    clear hkk hC
    by_cases hlt : k < 6
    · obtain ⟨cs, e1⟩ := hN.js
      have e0 := hN.st
      have e2 := hN.ph k hlt
      have d3 := hN.dd
      have g1 := hN.drow.at_ hlt
      have g2 := hN.drow.fz k
      rw [noteG_at] at g1
      have HPK : Hid ((E k).2.ph = p k) := by rw [← HP.out]; rfl
      rw [HPK.out] at e2
      obtain ⟨b, HB⟩ : ∃ b, Hid (finB (p k) = b) := ⟨_, rfl⟩
      have HF := hid (fun w => rfinal_is (p k) b w HB.out)
      obtain ⟨q, HQ⟩ : ∃ q, Hid (g k = q) := ⟨_, rfl⟩
      rw [HQ.out] at g1
      clear hN
      by_cases hskip : q = true ∨ b = false
      · have HX : Hid (NTo b0 w wr C Y K aw cap n i (noteG g p (k + 1)) E (noteL F i g p (k + 1))) := by
          have a1 : noteG g p (k + 1) = noteG g p k := noteG_skip (by rw [HQ.out, HB.out]; exact hskip)
          have a2 : noteL F i g p (k + 1) = noteL F i g p k := by
            rw [noteL, if_neg]
            rintro ⟨h1, h2, -⟩
            rw [HQ.out] at h1; rw [HB.out] at h2
            rcases hskip with e | e
            · rw [h1] at e; cases e
            · rw [h2] at e; cases e
          show NTo _ _ _ _ _ _ _ _ _ _ _ _ _
          rw [a1, a2]
          exact ⟨C1, v1, HN.out, HKK.out, HC.out⟩
        clear HN
        go_wp2_with fail
        refine (HF.out _).mono ?_
        rintro e w1 ⟨rfl, rfl⟩
        rcases hskip with rfl | rfl
        · go_wp2_with fail
          go_roundw
          case rel => exact ⟨k + 1, by omega, by go_num, HX.out⟩
          case measure => simp [intOf]; omega
        · cases q
          · go_wp2_with fail
            go_roundw
            case rel => exact ⟨k + 1, by omega, by go_num, HX.out⟩
            case measure => simp [intOf]; omega
          · go_wp2_with fail
            go_roundw
            case rel => exact ⟨k + 1, by omega, by go_num, HX.out⟩
            case measure => simp [intOf]; omega
      · obtain rfl : q = false := by cases q; rfl; exact (hskip (.inl rfl)).elim
        obtain rfl : b = true := by cases b; exact (hskip (.inr rfl)).elim; rfl
        clear hskip
        obtain ⟨W, HW⟩ : ∃ W, Hid (wr.setCell ⟨K.dn, k, none⟩ (.bool true) = W) := ⟨_, rfl⟩
        have HM : Hid (NT b0 W C1 { Y with ev := v1 } K aw cap n i (noteG g p (k + 1)) E (noteL F i g p k)) := by
          rw [← HW.out]; show NT _ _ _ _ _ _ _ _ _ _ _ _; rw [noteG_mark HB.out]; exact HN.out.mark hlt
        have HKW : Hid (Kept (InN C i) w W) := by
          rw [← HW.out]
          exact HKK.out.setCell (show InN C i K.dn from .inr (.inr (by have e := HN.out.c9; rw [← HC.out K.dn (H.out.lt _ (by have := H.out.c9; have := H.out.i7; omega))]; exact e))) _
        have hW := HW.out
        obtain ⟨-, x4, f4⟩ := HM.out.cells
        obtain ⟨av, cv, hv⟩ := own_slice HM.out.evs
        simp only at hv x4
        rw [hv] at x4
        have HV := hid hv
        obtain ⟨fl, HL⟩ : ∃ fl, Hid ((noteL F i g p k).length = fl) := ⟨_, rfl⟩
        have HLE : Hid (fl ≤ 500) := by rw [← HL.out]; exact HM.out.le
        rw [HL.out] at x4
        by_cases hfl : fl < 500
        · have HE2 : Hid (noteL F i g p (k + 1) = noteL F i g p k ++ [⟨i, k, p k⟩]) := by
            show noteL _ _ _ _ _ = _
            rw [noteL, if_pos ⟨HQ.out, HB.out, by rw [HL.out]; exact hfl⟩]
          obtain ⟨W2, HW2⟩ : ∃ W2, Hid (W.alloc (.cells #[.int .i64 (i : Int), .int .i64 (k : Int), .int .i64 ((p k : Nat) : Int)] 132) = W2) := ⟨_, rfl⟩
          have hW2 := HW2.out
          have HB2 : Hid (Below W.heap.size W W2) := by rw [← HW2.out]; exact (Below.refl _ _).alloc (Nat.le_refl _) _
          have HLc : Hid (∀ j u, (e3L ⟨i, k, p k⟩)[j]? = some u → W2.cell? ((⟨W.heap.size, 0, none⟩ : Addr).add j) = some u) := by rw [← HW2.out]; exact lit_cellsQ W 132 (e3L ⟨i, k, p k⟩)
          have HM2 := hid (HM.out.later HB2.out)
          have HO : Hid (W2.ownsRow b0 132 3 (.slice av fl cv) fl (evCells (noteL F i g p k))) := by
            have := HM2.out.evs
            simp only at this
            rw [HV.out, HL.out] at this; exact this
          have hb2 : b0 ≤ W2.heap.size := Nat.le_trans hb (Nat.le_trans HKW.out.size HB2.out.size)
          have HX : Hid (∀ ad' cap' w', w'.ownsRow b0 132 3 (.slice ad' (fl + 1) cap') (fl + 1) (evCells (noteL F i g p k) ++ e3L ⟨i, k, p k⟩) → W2.grownBy w' (Value.slice av fl cv).ownBlock → ((Value.slice ad' (fl + 1) cap').ownBlock = (Value.slice av fl cv).ownBlock ∨ (Value.slice ad' (fl + 1) cap').ownBlock = some W2.heap.size) → w'.cell? ⟨Y.xb, 4, none⟩ = some (.slice av fl cv) ∧ w'.frozen? ⟨Y.xb, 4, none⟩ = false ∧ NTo b0 w (w'.setCell ⟨Y.xb, 4, none⟩ (.slice ad' (fl + 1) cap')) C Y K aw cap n i (noteG g p (k + 1)) E (noteL F i g p (k + 1))) := by
            intro ad' cap' w' h1 h2 h3
            have hv2 := HV.out
            rw [HL.out] at hv2
            have q1 := (grown_kept h2).row HM2.out.row (fun e => by
              have h9 := HM2.out.ce _ (by simp only; rw [hv2]; exact e)
              have h8 := HM2.out.cx
              exact absurd (h9.symm.trans h8) (by decide))
            refine ⟨by rw [cell_of_row _ _ _ _ _ _ q1]; simp [rwC, hv2], frozen_of_row _ _ _ _ _ q1, ?_⟩
            refine NTo.step (C1 := C1) (v1 := v1) (HKW.out.trans (Kept.of_below HB2.out)) HC.out ?_
            rw [HE2.out]
            exact HM2.out.push (by rw [HL.out]; exact h1) (by simp only; rw [hv2]; exact h2) (by simp only; rw [hv2]; exact h3) (by rw [HL.out]; exact hfl)
          clear HN HM HM2
          go_wp2_with fail
          refine (HF.out _).mono ?_
          rintro e w1 ⟨rfl, rfl⟩
          go_wp2_with (at_builtin; refine wpList_append_mev rfl _ _ rfl b0 fl (.slice av fl cv) ⟨W.heap.size, 0, none⟩ 1 _ ⟨i, k, p k⟩ rfl rfl HO.out HLc.out (by omega) hb2 ?_; intro ad' cap' w' h1 h2 h3; obtain ⟨y2, z2, ho2⟩ := HX.out ad' cap' w' h1 h2 h3; have HZ := hid ho2; clear h1 h2 h3 ho2)
          go_roundw
          case rel => exact ⟨k + 1, by omega, by go_num, HZ.out⟩
          case measure => simp [intOf]; omega
        · have HX : Hid (NTo b0 w W C Y K aw cap n i (noteG g p (k + 1)) E (noteL F i g p (k + 1))) := by
            have a2 : noteL F i g p (k + 1) = noteL F i g p k := by rw [noteL, if_neg (by rw [HL.out]; omega)]
            show NTo _ _ _ _ _ _ _ _ _ _ _ _ _
            rw [a2]
            exact ⟨C1, v1, HM.out, HKW.out, HC.out⟩
          obtain rfl : fl = 500 := by have := HLE.out; omega
          clear HN HM
          go_wp2_with fail
          refine (HF.out _).mono ?_
          rintro e w1 ⟨rfl, rfl⟩
          go_wp2_with fail
          go_roundw
          case rel => exact ⟨k + 1, by omega, by go_num, HX.out⟩
          case measure => simp [intOf]; omega
    · obtain rfl : k = 6 := by omega
      clear hN
      go_wp2_with fail
      go_end0
      exact ⟨rfl, C1, v1, HN.out, HKK.out, HC.out⟩
end
theorem fin_stays {a b : Nat} (h : mayN a b) (hf : finB a = true) : b = a := by
  unfold mayN at h
  unfold finB at hf
  simp at hf
  omega
theorem oHN_off {n m : Nat} {N : PN} {f : F9} (h : NI n N m) (hu : N.l ≠ -2) (hf : FI n f) (hm : m < 4000000000) (hc : (oHN N f).c = 6) : (oHN N f).l = -2 := by
  have hov := h.up hu
  have hd : f.d.toNat < 6 := by have := hf.ok.2.2.1; omega
  have ha : f.a.toNat ≤ 1048576 := by have := hf.ok.2.2.2.2.1; omega
  have hp : f.ph.toNat ≤ 5 := by have := hf.ok.2.2.2.2.2.1; omega
  have hg := hear_good (stN N f.d.toNat) (N.R f.d.toNat) f.k.toNat f.a.toNat f.ph.toNat (h.gd _ hd) ha hp
  have hw : Well N.B false N.l m := ⟨h.gd, h.nm, fun _ => hu⟩
  have ho2 : pOut (dealL N.B.data.toList) false N.B N.l f.d.toNat (gHN N f).st.ph (gHN N f).st.pr (gHN N f).st.at_ = oHN N f := by rw [← hov]; rfl
  obtain ⟨-, -, q3⟩ := pOut_more (by have := h.sz; omega) hw hm hd hg.1 h.l0 h.l1 ho2
  rcases q3 with ⟨c, -⟩ | ⟨-, -, hl⟩
  · rw [hc] at c; cases c
  · exact hl
section
variable {w0 w w1 w' : World} {C C' : Nat → Nat} {K : RB} {Y : YB} {aw : Option Addr} {i n cap m m' : Nat} {zs : List Int} {N : PN} {V V' : PX}
theorem RW.both {S : Nat → Prop} {N : PN} {K : RB} {ev : Value} {E : List E3} (h : RW w0 w C Y aw cap zs V m) (k : Kept S w w') (hi : i < zs.length) (hS : ∀ x, S x → C x / 100 = i ∨ C x = 1001 ∨ C x = 1006) (hC : ∀ x, x < w.heap.size → C' x = C x) (hl : ∀ x, w.heap.size ≤ x → C' x < 2000 → x < w'.heap.size) (hr : w'.heap[Y.xb]? = some (.cells (rwC { Y with ev := ev } aw zs.length cap).toArray 72 (0, 0))) (he : w'.ownsRow w0.heap.size 132 3 ev E.length (evCells E)) (ce : ∀ g, ev.ownBlock = some g → C' g = 1006)
    (hN : RN w' C' K i zs.length cap aw N) (hK : K.nd = (Y.K i).nd) (hm : m ≤ m') (hI : XI zs { setNd V i N with evs := E } m') :
    RW w0 w' C' { Y with ev := ev, K := fun e => if e = i then K else Y.K e } aw cap zs { setNd V i N with evs := E } m' := by
  have n7 := h.n7.2
  have hs0 := h.bel.size
  have hlow : ∀ x, S x → w0.heap.size ≤ x := fun x hx => h.low x (by have := hS x hx; omega)
  have nS : ∀ x, C x / 100 ≠ i → C x ≠ 1001 → C x ≠ 1006 → ¬ S x := fun x h1 h2 h3 hs => by have := hS x hs; omega
  obtain ⟨L, b1, b2, b3⟩ := h.brk
  have cx := h.cx; have cn := h.cn
  have o : ∀ {x c : Nat}, C x = c → c < 2000 → C' x = c := fun {x c} e hc => (hC x (h.lt x (by omega))).trans e
  refine ⟨k.below h.bel.size hlow h.bel, hr, h.ws, fun e he => ?_, fun e he => ?_, ⟨L, own_kept b1 k (fun g hg => nS g (by have := h.cb g hg; omega) (by have := h.cb g hg; omega) (by have := h.cb g hg; omega)), b2, by omega⟩, own_kept h.fly k (fun g hg => nS g (by have := h.cf g hg; omega) (by have := h.cf g hg; omega) (by have := h.cf g hg; omega)), he, o h.cx (by omega), o h.cn (by omega), fun g hg => o (h.cb g hg) (by omega), fun g hg => o (h.cf g hg) (by omega), ce, fun x hx => ?_, fun x hx => ?_, hI⟩
  · have := cell_kept (h.ns e he) k (nS Y.nb (by omega) (by omega) (by omega))
    rw [this]
    by_cases g : e = i
    · subst g; simp [hK]
    · simp [g]
  · by_cases g : e = i
    · subst g
      simpa [setNd] using hN
    · have hcol := (h.nds e he).col (C' := C') hC
      have := hcol.kept (S := fun x => S x ∧ x < w.heap.size) (w' := w') ⟨k.os, k.tape, k.output, k.size, fun y hy hn => k.block y hy (fun hs => hn ⟨hs, hy⟩)⟩ (fun x hx hs => nS x (by rw [← hC x hs.2]; omega) (by rw [← hC x hs.2]; omega) (by rw [← hC x hs.2]; omega) hs.1)
      simpa [setNd, g] using this
  · rcases Nat.lt_or_ge x w.heap.size with q | q
    · exact Nat.lt_of_lt_of_le q k.size
    · exact hl x q hx
  · rcases Nat.lt_or_ge x w.heap.size with q | q
    · exact h.low x (by rw [← hC x q]; exact hx)
    · omega
theorem RN.heard {S : Nat → Prop} {B : ByteArray} {l : Int} {ov : Bool} (h : RN w C K i n cap aw N) (hu : upN N = true) (hl : l ≠ -2) (i7 : i < 7) (k : Kept S w w') (hS : ∀ x, S x → C x = 1001 ∨ C x = 1006 ∨ C x = 100 * i + 3 ∨ C x = 100 * i + 4 ∨ C x = 100 * i + 5 ∨ C x = 100 * i + 7 ∨ C x = 100 * i + 9) (hC : ∀ x, x < w.heap.size → C' x = C x) (hj : RK w' K.m K.gn K.gs K.r (dealL B.data.toList) ov B l) (hd : VR w' K.dn (fun d => finB (dealL B.data.toList d).2.ph)) :
    RN w' C' K i n cap aw { N with B := B, l := l, over := ov } := by
  have e1 := h.cn; have e2 := h.cr; have e3 := h.cl; have e4 := h.cd
  obtain ⟨c1, c2, c3, c4, c5⟩ := h.cu hu
  obtain ⟨u1, u2⟩ := h.up hu
  obtain ⟨t1, t2, t3, t4⟩ := u1.lts
  have no : ∀ x, (C x ≠ 1001 ∧ C x ≠ 1006 ∧ C x ≠ 100 * i + 3 ∧ C x ≠ 100 * i + 4 ∧ C x ≠ 100 * i + 5 ∧ C x ≠ 100 * i + 7 ∧ C x ≠ 100 * i + 9) → ¬ S x := fun x q hs => by have := hS x hs; omega
  have hru : upN { N with B := B, l := l, over := ov } = upN N := by rw [hu]; unfold upN; simpa using hl
  have hrc : rndC K { N with B := B, l := l, over := ov } = rndC K N := by unfold rndC rsV; rw [hru]
  refine ⟨by rw [hrc]; exact k.row h.row (no _ (by omega)), hj.rp, fun _ => ⟨hj, u2.kept k (no _ (by omega)) (no _ (by omega))⟩, k.row h.lrow (no _ (by omega)), hd, fun d hd x hx => ?_, (hC _ (row_ltJ h.row)).trans e1, (hC _ t4).trans e2, (hC _ (row_ltJ h.lrow)).trans e3, (hC _ (row_ltJ h.drow)).trans e4, fun _ => ⟨(hC _ (row_ltJ u2.row)).trans c1, (hC _ t1).trans c2, (hC _ t2).trans c3, (hC _ t3).trans c4, (hC _ (row_ltJ u2.refs)).trans c5⟩, fun d hd x hx => ?_⟩
  · obtain ⟨L, r1, r2⟩ := h.lds d hd x hx
    obtain ⟨b1, b2⟩ := h.ce d hd x hx
    exact ⟨L, r1, r2.kept k (no _ (by omega)) (fun g hg => no g (by have := b2 g hg; omega))⟩
  · obtain ⟨L, r1, r2⟩ := h.lds d hd x hx
    obtain ⟨b1, b2⟩ := h.ce d hd x hx
    exact ⟨(hC _ (row_ltJ r2.row)).trans b1, fun g hg => (hC _ ((r2.own.lt g hg).2)).trans (b2 g hg)⟩
theorem RW.nt {E : Nat → Nat × St} {ov : Bool} {B : ByteArray} {l : Int} (h : RW w0 w C Y aw cap zs V m) (hi : i < zs.length) (hu : upN (V.nd i) = true) (k : Kept (In4 (Y.K i).m (Y.K i).gn (Y.K i).gs (Y.K i).r) w w') (hj : RK w' (Y.K i).m (Y.K i).gn (Y.K i).gs (Y.K i).r E ov B l) :
    NT w0.heap.size w' C Y (Y.K i) aw cap zs.length i (fun d => finB (stN (V.nd i) d).ph) E V.evs := by
  have n7 := h.n7.2
  have hN := h.nds i hi
  have e1 := hN.cn; have e2 := hN.cr; have e3 := hN.cl; have e4 := hN.cd; have cx := h.cx; have cn := h.cn
  obtain ⟨c1, c2, c3, c4, c5⟩ := hN.cu hu
  obtain ⟨-, u2⟩ := hN.up hu
  obtain ⟨d0, -, -, d3⟩ := hN.cells
  unfold rsV at d0
  rw [hu, if_pos rfl] at d0
  obtain ⟨-, s1, -⟩ := u2.cells
  obtain ⟨cnn, cs, -, -, j2, -⟩ := hj.cells
  have no : ∀ x, C x ≠ 100 * i + 3 → C x ≠ 100 * i + 4 → C x ≠ 100 * i + 5 → C x ≠ 100 * i + 7 → ¬ In4 (Y.K i).m (Y.K i).gn (Y.K i).gs (Y.K i).r x := fun x h1 h2 h3 h4 hx => by
    rcases hx with rfl | rfl | rfl | rfl <;> omega
  exact ⟨k.row h.row (no _ (by omega) (by omega) (by omega) (by omega)), cell_kept (h.ns i hi) k (no Y.nb (by omega) (by omega) (by omega) (by omega)), cell_kept d0 k (no (Y.K i).nd (by omega) (by omega) (by omega) (by omega)), cell_kept d3 k (no (Y.K i).nd (by omega) (by omega) (by omega) (by omega)), cell_kept s1 k (no (Y.K i).t (by omega) (by omega) (by omega) (by omega)), ⟨cs, j2⟩, fun d hd => (hj.st hd).1, k.row hN.drow (no _ (by omega) (by omega) (by omega) (by omega)), own_kept h.evs k (fun g hg => no g (by have := h.ce g hg; omega) (by have := h.ce g hg; omega) (by have := h.ce g hg; omega) (by have := h.ce g hg; omega)), h.inv.ev, by omega, cx, cn, e1, c1, c2, c4, e4, h.ce, fun x hx => Nat.lt_of_lt_of_le (h.lt x hx) k.size⟩
def ROutF (w0 w w' : World) (C : Nat → Nat) (Y : YB) (aw : Option Addr) (cap : Nat) (zs : List Int) (V' : PX) (m' : Nat) (v : Value) (L : List F9) : Prop :=
  ∃ C' Y', RW w0 w' C' Y' aw cap zs V' m' ∧ rkey Y' = rkey Y ∧ Kept (OwnX C) w w' ∧ (∀ x, x < w.heap.size → C' x = C x) ∧ FrF w' C' w.heap.size v L
theorem RW.heardOut {B : ByteArray} {l : Int} {ov : Bool} {E : List E3} {gg : Nat → Bool} (h : RW w0 w C Y aw cap zs V m) (hi : i < zs.length) (hu : upN (V.nd i) = true) (hl : l ≠ -2) (k1 : Kept (In4 (Y.K i).m (Y.K i).gn (Y.K i).gs (Y.K i).r) w w1) (hj : RK w1 (Y.K i).m (Y.K i).gn (Y.K i).gs (Y.K i).r (dealL B.data.toList) ov B l) (hn : NTo w0.heap.size w1 w' C Y (Y.K i) aw cap zs.length i gg (dealL B.data.toList) E) (hg : ∀ d, d < 6 → gg d = finB (dealL B.data.toList d).2.ph) (hm : m ≤ m') (hI : XI zs { setNd V i { V.nd i with B := B, l := l, over := ov } with evs := E } m') :
    ∃ C' Y', RW w0 w' C' Y' aw cap zs { setNd V i { V.nd i with B := B, l := l, over := ov } with evs := E } m' ∧ rkey Y' = rkey Y ∧ Kept (OwnX C) w w' ∧ (∀ x, x < w1.heap.size → C' x = C x) ∧ Kept (OwnX C) w1 w' := by
  have n7 := h.n7.2
  obtain ⟨C', v, t, k2, hC⟩ := hn
  have hN := h.nds i hi
  have e1 := hN.cn; have e2 := hN.cr; have e3 := hN.cl; have e4 := hN.cd
  obtain ⟨c1, c2, c3, c4, c5⟩ := hN.cu hu
  have hs1 := k1.size
  have hCw : ∀ x, x < w.heap.size → C' x = C x := fun x hx => hC x (by omega)
  have ci4 : ∀ x, In4 (Y.K i).m (Y.K i).gn (Y.K i).gs (Y.K i).r x → C x = 100 * i + 3 ∨ C x = 100 * i + 4 ∨ C x = 100 * i + 5 ∨ C x = 100 * i + 7 := fun x hx => by
    rcases hx with rfl | rfl | rfl | rfl <;> omega
  have nN : ∀ x, (C x = 100 * i + 3 ∨ C x = 100 * i + 4 ∨ C x = 100 * i + 5 ∨ C x = 100 * i + 7) → ¬ InN C i x := fun x q hx => by
    rcases hx with g | g | g <;> omega
  have k : Kept (fun x => C x = 1001 ∨ C x = 1006 ∨ C x = 100 * i + 3 ∨ C x = 100 * i + 4 ∨ C x = 100 * i + 5 ∨ C x = 100 * i + 7 ∨ C x = 100 * i + 9) w w' :=
    (k1.mono (fun x hx => by have := ci4 x hx; omega)).trans (k2.mono (fun x hx => by rcases hx with g | g | g <;> omega))
  have hj2 := hj.kept k2 (nN _ (.inl c2)) (nN _ (.inr (.inl c3))) (nN _ (.inr (.inr (.inl c4)))) (nN _ (.inr (.inr (.inr e2))))
  have hd : VR w' (Y.K i).dn (fun d => finB (dealL B.data.toList d).2.ph) := by
    have := t.drow
    unfold VR at this ⊢
    rw [this]
    simp only [hg 0 (by omega), hg 1 (by omega), hg 2 (by omega), hg 3 (by omega), hg 4 (by omega), hg 5 (by omega)]
  have hRN := hN.heard (C' := C') hu hl (by omega) k (fun x hx => hx) hCw hj2 hd
  refine ⟨C', _, h.both (ev := v) (E := E) k hi (fun x hx => by omega) hCw (fun x hx hc => t.lt x hc) t.row t.evs t.ce hRN rfl hm hI, rkey_K rfl, k.mono (fun x hx => by show C x < 2000; omega), hC, k2.mono (fun x hx => by show C x < 2000; rcases hx with g | g | g <;> omega)⟩
end
end Go.Proofs.YtbaamegnmeohoacGreatDoor
