/-
  WALKS of package site: New, State, Refuse; Hear of a wrong frame.
  FRAMES IN MEMORY: an answer of none or of one; the document's SameFrames.
  THE WALK of (*site.Site).Hear of a right frame.
  PLAIN: what a right frame leaves of a site whose journal knows its plate.
  THE WALK of the closed fact 'votes': a site votes.
-/
import Derived.Test.YtnnknplmjiahhabDoorBa14
import Derived.Test.YtnnknplmjiahhabDoorBa13
import Derived.Test.YtnnknplmjiahhabDoorBa1
import Derived.Test.YtnnknplmjiahhabDoorBa11
import Derived.Laws.StructEq
import Derived.BigRegion
import Derived.Deep.CutRange
namespace Go.Proofs.YtnnknplmjiahhabDoor
open Go.RowKit

theorem kept_grown {w w' : World} {b : Nat} (h : w.grownBy w' (some b)) : Kept (In1 b) w w' := ⟨h.os, h.tape, h.output, h.size, fun k hk hs => h.block k hk (fun e => hs (Option.some.inj e))⟩
/-- Not a site. -/
theorem snew_bad (A : Nat → Addr) (id : Int) (v : Value) (w : World) (hE : HeldE w A) (h : id < 0 ∨ 7 ≤ id) :
    Calls Tryd.prog 8 #[.int .i64 id, v] w fun e w' => e = .returned (.tuple #[.pointer none, ev A 2]) ∧ Below w.heap.size w w' := by
  have g1 : w.cell? ⟨0, 0, none⟩ = some (.iface 157 (.pointer (some (A 1)))) := hE.g1
  clear hE
  by_cases h0 : id < 0
  · clear h
    go_enter Tryd.func8, Tryd.ntmps8
    go_wp2_with fail
    go_quiet (fail)
    go_wp2
    go_ret2
    exact ⟨rfl, below_drewN (Below.refl _ _) _⟩
  · have h7 : 7 ≤ id := by omega
    clear h
    go_enter Tryd.func8, Tryd.ntmps8
    go_wp2_with fail
    go_quiet (fail)
    go_wp2
    go_ret2
    exact ⟨rfl, below_drewN (Below.refl _ _) _⟩
/-- A plate that is no journal's. -/
theorem snew_err (A : Nat → Addr) (id : Int) (p q : Nat) (B : ByteArray) (l : Int) (c : Nat) (w : World) (h : Pl w p q B l) (hE : HeldE w A) (hB : B.size ≤ 1000) (hc : rC B l 0 216 = c + 1) (h0 : 0 ≤ id) (h7 : id < 7) :
    Calls Tryd.prog 8 #[.int .i64 id, .pointer (some ⟨p, 0, none⟩)] w fun e w' => e = .returned (.tuple #[.pointer none, .iface 157 (.pointer (some (A c)))]) ∧ w' = w := by
  have H := hid h
  have HE := hid hE
  have HC := hid hc
  clear h hE hc
  go_enter Tryd.func8, Tryd.ntmps8
  go_wp2_with (go_at_call 24; (with_reducible refine (open_bad A p q B l c _ H.out HE.out hB HC.out).mono ?_); rintro e wx ⟨rfl, hx⟩; subst wx)
  go_ret2
  exact ⟨rfl, rfl⟩
theorem snew_ok (A : Nat → Addr) (id : Int) (p q : Nat) (B : ByteArray) (l : Int) (w : World) (h : Pl w p q B l) (hE : HeldE w A) (hB : B.size ≤ 1000) (h6 : 216 ≤ B.size) (hl : ¬ l = -2) (h0 : 0 ≤ id) (h7 : id < 7) :
    Calls Tryd.prog 8 #[.int .i64 id, .pointer (some ⟨p, 0, none⟩)] w fun e w' => ∃ s j mb, e = .returned (.tuple #[.pointer (some ⟨s, 0, none⟩), .nilIface]) ∧ JR w' j p (dealL B.data.toList) false ∧ SR w' s j mb id (fun _ => false) 0 ∧ Below w.heap.size w w' ∧ w.heap.size ≤ j ∧ j < mb ∧ mb < s := by
  have H := hid h
  have HE := hid hE
  clear h hE
  have hmm := @run_makeMap Tryd.prog
  go_enter Tryd.func8, Tryd.ntmps8
  go_wp2_with (go_at_call 24; (with_reducible refine (open_ok A p q B l _ H.out HE.out hB h6 hl).mono ?_); rintro e w1 ⟨j, rfl, hj, hb, hj0⟩; have HJ := hid hj; have HB := hid hb; have HJ0 := hid hj0; clear hj hb hj0)
  go_ret2
  have hs : (w1.alloc (.map #[] 0)).heap.size = w1.heap.size + 1 := by simp
  have hb2 : Below w1.heap.size w1 (w1.alloc (.map #[] 0)) := (Below.refl _ _).alloc (Nat.le_refl _) _
  have hb3 := hb2.alloc hb2.size (.cells #[.pointer (some ⟨j, 0, none⟩), .int .i64 id, .map (some w1.heap.size)] 76)
  refine ⟨w1.heap.size + 1, j, w1.heap.size, rfl, HJ.out.later hb3 HJ.out.lt, ⟨?_, .map [], (World.ownsMap_made w1 _ _ _).alloc _, fun d _ => rfl⟩, HB.out.trans (hb3.mono HB.out.size), HJ0.out, HJ.out.lt, Nat.lt_succ_self _⟩
  have := heap_alloc_new (w1.alloc (.map #[] 0)) (.cells #[.pointer (some ⟨j, 0, none⟩), .int .i64 id, .map (some w1.heap.size)] 76)
  rw [hs] at this
  exact this
section
variable {w0 w w1 w2 : World} {s j mb p q n : Nat} {id : Int} {R : Nat → Bool} {E : Nat → Nat × St} {over : Bool} {B : ByteArray} {l : Int} {A : Nat → Addr}
theorem sp_new (hb : Below w0.heap.size w0 w1) (h : Pl w1 p q B l) (hp : w0.heap.size ≤ p) (hq : w0.heap.size ≤ q) (hj : JR w2 j p E over) (hs : SR w2 s j mb id R n) (hb2 : Below w1.heap.size w1 w2) (hj0 : w1.heap.size ≤ j) (hm : j < mb) (hms : mb < s) (h0 : -2 ≤ l) (h1 : l ≤ 9223372036854775807) (hz : B.size ≤ 1000) (h6 : 216 ≤ B.size) :
    SP w0 w2 s j mb p q id R n E over B l := by
  have e1 := row_lt h.head
  have e2 := row_lt h.row
  have e3 := hb.size
  exact ⟨jp_new hb h hp hq hj hb2 hj0 h0 h1 hz h6, hs, fun g => by unfold In3 at g; omega, fun g => by unfold In3 at g; omega, by omega, by omega, by omega⟩
/-- Opened anew. -/
theorem sboot_sp (h : JP w0 w j p q E over B (-1)) (hE : HeldE w0 A) (i0 : 0 ≤ id) (i7 : id < 7) :
    Calls Tryd.prog 8 #[.int .i64 id, .pointer (some ⟨p, 0, none⟩)] w fun e w' => ∃ s' j' mb', e = .returned (.tuple #[.pointer (some ⟨s', 0, none⟩), .nilIface]) ∧ SP w0 w' s' j' mb' p q id (fun _ => false) 0 (dealL B.data.toList) false B (-1) ∧ Below w.heap.size w w' ∧ w.heap.size ≤ j' ∧ w.heap.size ≤ s' ∧ w.heap.size ≤ mb' := by
  refine (snew_ok A id p q B (-1) w h.pl (h.held hE) h.sz h.s6 (by decide) i0 i7).mono ?_
  rintro e w' ⟨s', j', mb', rfl, hj, hs, hb, hj0, hm, hms⟩
  exact ⟨s', j', mb', rfl, sp_new h.bel h.pl h.p0 h.q0 hj hs hb hj0 hm hms (by decide) (by decide) h.sz h.s6, hb, hj0, by omega, by omega⟩
theorem sstate_is (d h1 h2 h3 : Nat) (hj : JR w j p E over) (h : SR w s j mb id R n) (hd : d < 6) (hs : (E d).2 = ⟨h1, h2, h3⟩) :
    Calls Tryd.prog 13 #[.pointer (some ⟨s, 0, none⟩), .int .i64 (d : Int)] w fun e w' => e = .returned (.tuple #[agS h1 h2 h3, .nilIface]) ∧ Below w.heap.size w w' := by
  obtain ⟨W, HW⟩ : ∃ W, Hid (w.alloc (.cells #[.int .i64 0, .int .i64 0, .int .i64 0] 34) = W) := ⟨_, rfl⟩
  have HB : Hid (Below w.heap.size w W) := by rw [← HW.out]; exact (Below.refl _ _).alloc (Nat.le_refl _) _
  have HR : Hid (W.heap[w.heap.size]? = some (.cells #[.int .i64 0, .int .i64 0, .int .i64 0] 34 (0, 0))) := by rw [← HW.out]; exact heap_alloc_new w _
  have HJ := hid (hj.later HB.out hj.lt)
  obtain ⟨x0, x1, x2⟩ := (h.later HB.out).cells
  have HS := hid hs
  have hW := HW.out
  clear hj h hs
  go_enter Tryd.func13, Tryd.ntmps13
  go_wp2_with (go_at_call 25; (with_reducible refine (get_is j p d E over h1 h2 h3 _ HJ.out hd HS.out).mono ?_); rintro e w1 ⟨rfl, hb1⟩; have HR1 := hid ((hb1.block _ (row_ltJ HR.out)).trans HR.out); have HB1 := hid (HB.out.trans (hb1.mono HB.out.size)); clear hb1; have c0 : w1.cell? ⟨w.heap.size, 0, none⟩ = some (.int .i64 0) := (cell_of_row _ _ 0 _ _ _ HR1.out); have c1 : w1.cell? ⟨w.heap.size, 1, none⟩ = some (.int .i64 0) := (cell_of_row _ _ 1 _ _ _ HR1.out); have c2 : w1.cell? ⟨w.heap.size, 2, none⟩ = some (.int .i64 0) := (cell_of_row _ _ 2 _ _ _ HR1.out); have z0 := frozen_of_row _ _ 0 _ _ HR1.out; have z1 := frozen_of_row _ _ 1 _ _ HR1.out; have z2 := frozen_of_row _ _ 2 _ _ HR1.out)
  refine bodyPost_ret (results_row2 rfl _ _ w.heap.size 34 _ (0, 0) _ rfl (set3 HR1.out _ _ _) Tryd.underlying34 rfl sizeState) rfl ?_
  exact ⟨rfl, ((HB1.out.setCell (Nat.le_refl _) _).setCell (Nat.le_refl _) _).setCell (Nat.le_refl _) _⟩
theorem sstate_isnt (d : Int) (h : SR w s j mb id R n) (hE : HeldE w A) (hd : ¬ (0 ≤ d ∧ d < 6)) :
    Calls Tryd.prog 13 #[.pointer (some ⟨s, 0, none⟩), .int .i64 d] w fun e w' => e = .returned (.tuple #[.agg #[.int .i64 0, .int .i64 0, .int .i64 0], ev A 2]) ∧ Below w.heap.size w w' := by
  obtain ⟨W, HW⟩ : ∃ W, Hid (w.alloc (.cells #[.int .i64 0, .int .i64 0, .int .i64 0] 34) = W) := ⟨_, rfl⟩
  have HB : Hid (Below w.heap.size w W) := by rw [← HW.out]; exact (Below.refl _ _).alloc (Nat.le_refl _) _
  have HR : Hid (W.heap[w.heap.size]? = some (.cells #[.int .i64 0, .int .i64 0, .int .i64 0] 34 (0, 0))) := by rw [← HW.out]; exact heap_alloc_new w _
  have HE := hid (hE.later HB.out)
  obtain ⟨x0, x1, x2⟩ := (h.later HB.out).cells
  have hW := HW.out
  clear hE h
  go_enter Tryd.func13, Tryd.ntmps13
  go_wp2_with (go_at_call 25; (with_reducible refine (get_isnt A _ d _ HE.out hd).mono ?_); rintro e w1 ⟨rfl, hb1⟩; have HR1 := hid ((hb1.block _ (row_ltJ HR.out)).trans HR.out); have HB1 := hid (HB.out.trans (hb1.mono HB.out.size)); clear hb1; have c0 : w1.cell? ⟨w.heap.size, 0, none⟩ = some (.int .i64 0) := (cell_of_row _ _ 0 _ _ _ HR1.out); have c1 : w1.cell? ⟨w.heap.size, 1, none⟩ = some (.int .i64 0) := (cell_of_row _ _ 1 _ _ _ HR1.out); have c2 : w1.cell? ⟨w.heap.size, 2, none⟩ = some (.int .i64 0) := (cell_of_row _ _ 2 _ _ _ HR1.out); have z0 := frozen_of_row _ _ 0 _ _ HR1.out; have z1 := frozen_of_row _ _ 1 _ _ HR1.out; have z2 := frozen_of_row _ _ 2 _ _ HR1.out)
  refine bodyPost_ret (results_row2 rfl _ _ w.heap.size 34 _ (0, 0) _ rfl (set3 HR1.out _ _ _) Tryd.underlying34 rfl sizeState) rfl ?_
  exact ⟨rfl, ((HB1.out.setCell (Nat.le_refl _) _).setCell (Nat.le_refl _) _).setCell (Nat.le_refl _) _⟩
/-- A cut is set, whatever number. -/
theorem scut_jp (x : Int) (h : JP w0 w j p q E over B l) (hE : HeldE w0 A) (hx : x ≤ 9223372036854775807) :
    Calls Tryd.prog 10 #[.pointer (some ⟨p, 0, none⟩), .int .i64 x] w fun e w' => e = .returned (ev A (cC l x)) ∧ JP w0 w' j p q E over B (cL l x) ∧ Kept (In3 j p q) w w' := by
  refine (cut_pl A p q B l x w h.pl (h.held hE)).mono ?_
  rintro e w' ⟨rfl, hp, hk⟩
  have h0 := h.l0
  have h1 := h.l1
  refine ⟨rfl, h.plate hk hp ?_ ?_ rfl, hk.mono (fun k e => .inr e)⟩
  · unfold cL
    split
    · exact h0
    · split <;> omega
  · unfold cL
    split
    · exact h1
    · split <;> omega
theorem has_upd {D : DataW Unit} {R : Nat → Bool} (hm : Maps.IsMap D) (hh : ∀ d : Nat, d < 6 → Maps.has D (.int .i64 (d : Int)) = R d) (x : DataW Unit) (e : Nat) : ∀ d : Nat, d < 6 → Maps.has (D.put (.int .i64 (e : Int)) x) (.int .i64 (d : Int)) = updR R e d := by
  intro d hd
  unfold updR
  by_cases g : d = e
  · subst g
    rw [if_pos rfl]
    exact Maps.has_put_same (k := .int .i64 (d : Int)) hm (by unfold WideAt.IsKeyLit; trivial) x
  · rw [if_neg g, Maps.has_put_other (fun h => g (by injection h with _ h2; omega))]
    exact hh d hd
/-- A right deal is refused. -/
theorem srefuse_ok (d : Nat) (hj : JR w j p E over) (h : SR w s j mb id R n) (hd : d < 6) (hn : n ≤ 1000000) :
    Calls Tryd.prog 9 #[.pointer (some ⟨s, 0, none⟩), .int .i64 (d : Int)] w fun e w' => e = .returned .nilIface ∧ SR w' s j mb id (updR R d) (n + 1) ∧ Kept (In1 mb) w w' ∧ s ≠ mb := by
  obtain ⟨⟨h1, h2, h3⟩, HS⟩ : ∃ x, Hid ((E d).2 = x) := ⟨_, rfl⟩
  have HJ := hid hj
  have HR := hid h
  obtain ⟨x0, x1, x2⟩ := h.cells
  have hk := mkeyN hd
  have hne : s ≠ mb := by
    obtain ⟨r, D, ⟨es, cl, hb, _⟩, _⟩ := h
    intro e
    subst e
    rw [r] at hb
    cases hb
  clear hj h
  go_enter Tryd.func9, Tryd.ntmps9
  go_wp2_with (first | (go_at_call 25; (with_reducible refine (get_is j p d E over h1 h2 h3 _ HJ.out hd HS.out).mono ?_); rintro e w1 ⟨rfl, hb1⟩; have HR1 := hid (HR.out.later hb1); have HB1 := hid hb1; clear hb1; obtain ⟨D, hD, hh⟩ := HR1.out.ref; have HD := hid hD; have HH := hid hh; clear hD hh; obtain ⟨x0, x1, x2⟩ := HR1.out.cells; have hs1 := HR1.out.lts) | (at_mapUpdate; refine wpList_mapUpdate_own _ rfl _ _ _ 74 rfl 3 77 mlaw Tryd.underlying74 (unitElem (H := Unit)) mb n D rfl (HD.out.alloc _) (by unfold maxLen; omega) _ _ _ rfl rfl hk _ [] unitElem_mk ?_; intro w2 hown2 hgrow2))
  go_ret
  have b2 := (Below.refl w1.heap.size w1).alloc (Nat.le_refl _) (.cells #[.int .i64 (h1 : Int), .int .i64 (h2 : Int), .int .i64 (h3 : Int)] 34)
  have k2 := (Kept.of_below (S := In1 mb) (HB1.out)).trans ((Kept.of_below b2).trans (kept_grown hgrow2))
  exact ⟨rfl, ⟨k2.row HR.out.row hne, _, hown2, has_upd HD.out.isMap HH.out _ d⟩, k2, hne⟩
/-- No deal. -/
theorem srefuse_bad (d : Int) (h : SR w s j mb id R n) (hE : HeldE w A) (hd : ¬ (0 ≤ d ∧ d < 6)) :
    Calls Tryd.prog 9 #[.pointer (some ⟨s, 0, none⟩), .int .i64 d] w fun e w' => e = .returned (ev A 2) ∧ Below w.heap.size w w' := by
  have HE := hid hE
  obtain ⟨x0, x1, x2⟩ := h.cells
  clear hE h
  go_enter Tryd.func9, Tryd.ntmps9
  go_wp2_with (go_at_call 25; (with_reducible refine (get_isnt A _ d _ HE.out hd).mono ?_); rintro e w1 ⟨rfl, hb1⟩; have HB1 := hid hb1; clear hb1)
  go_ret
  exact ⟨rfl, HB1.out.alloc HB1.out.size _⟩
theorem SP.refuse (h : SP w0 w s j mb p q id R n E over B l) {d : Nat} (hr : SR w1 s j mb id (updR R d) (n + 1)) (hk : Kept (In1 mb) w w1) : SP w0 w1 s j mb p q id (updR R d) (n + 1) E over B l :=
  ⟨h.jp.far hk (fun x e => by unfold In1 at e; rw [e]; exact h.m0) (fun x hx e => by unfold In1 at e; exact h.nm (e ▸ hx)), hr, h.ns, h.nm, h.sm, h.s0, h.m0⟩
end
set_option maxHeartbeats 2000000 in
set_option maxRecDepth 100000 in
theorem shear_bad (A : Nat → Addr) (sv : Value) (f t d k a : Int) (y : Bool) (ph pr pa : Int) (w : World) (hE : HeldE w A) (h : ¬ frOk f t d k a ph pr pa) :
    Calls Tryd.prog 12 #[sv, frV f t d k a y ph pr pa] w fun e w' => e = .returned (.tuple #[.slice none 0 0, ev A 2]) ∧ Below w.heap.size w w' := by
  obtain ⟨W, HW⟩ : ∃ W, Hid (w.alloc (.cells #[.int .i64 f, .int .i64 t, .int .i64 d, .int .i64 k, .int .i64 a, .bool y, .int .i64 ph, .int .i64 pr, .int .i64 pa] 36) = W) := ⟨_, rfl⟩
  have HB : Hid (Below w.heap.size w W) := by rw [← HW.out]; exact (Below.refl _ _).alloc (Nat.le_refl _) _
  have HR : Hid (W.heap[w.heap.size]? = some (.cells #[.int .i64 f, .int .i64 t, .int .i64 d, .int .i64 k, .int .i64 a, .bool y, .int .i64 ph, .int .i64 pr, .int .i64 pa] 36 (0, 0))) := by rw [← HW.out]; exact heap_alloc_new w _
  obtain ⟨c0, c1, c2, c3, c4, c5, c6, c7, c8⟩ := nine HR.out
  have hW := HW.out
  have HF : Hid ((if frOk f t d k a ph pr pa then 0 else 2) = 2) := if_neg h
  have HE := hid (hE.later HB.out)
  clear h hE
  go_enter Tryd.func12, Tryd.ntmps12
  go_wp2_with (go_at_call 27; (with_reducible refine (wcheck_e A f t d k a y ph pr pa 2 _ HE.out HF.out).mono ?_); rintro e w1 ⟨rfl, hb1⟩; unfold ev)
  go_ret2
  exact ⟨rfl, HB.out.trans (hb1.mono HB.out.size)⟩
set_option maxHeartbeats 2000000 in
set_option maxRecDepth 100000 in
theorem shear_other (A : Nat → Addr) (s j mb n : Nat) (id : Int) (R : Nat → Bool) (f to_ d k a : Int) (y : Bool) (ph pr pa : Int) (w : World) (h : SR w s j mb id R n) (hE : HeldE w A) (hf : frOk f to_ d k a ph pr pa) (hne : ¬ to_ = id) :
    Calls Tryd.prog 12 #[.pointer (some ⟨s, 0, none⟩), frV f to_ d k a y ph pr pa] w fun e w' => e = .returned (.tuple #[.slice none 0 0, ev A 3]) ∧ Below w.heap.size w w' := by
  obtain ⟨W, HW⟩ : ∃ W, Hid (w.alloc (.cells #[.int .i64 f, .int .i64 to_, .int .i64 d, .int .i64 k, .int .i64 a, .bool y, .int .i64 ph, .int .i64 pr, .int .i64 pa] 36) = W) := ⟨_, rfl⟩
  have HB : Hid (Below w.heap.size w W) := by rw [← HW.out]; exact (Below.refl _ _).alloc (Nat.le_refl _) _
  have HR : Hid (W.heap[w.heap.size]? = some (.cells #[.int .i64 f, .int .i64 to_, .int .i64 d, .int .i64 k, .int .i64 a, .bool y, .int .i64 ph, .int .i64 pr, .int .i64 pa] 36 (0, 0))) := by rw [← HW.out]; exact heap_alloc_new w _
  obtain ⟨c0, c1, c2, c3, c4, c5, c6, c7, c8⟩ := nine HR.out
  have hW := HW.out
  have HF : Hid ((if frOk f to_ d k a ph pr pa then 0 else 2) = 0) := if_pos hf
  have HE := hid (hE.later HB.out)
  have HS := hid (h.later HB.out)
  clear h hf hE
  go_enter Tryd.func12, Tryd.ntmps12
  go_wp2_with (go_at_call 27; (with_reducible refine (wcheck_e A f to_ d k a y ph pr pa 0 _ HE.out HF.out).mono ?_); rintro e w1 ⟨rfl, hb1⟩; unfold ev; obtain ⟨x0, x1, x2⟩ := (HS.out.later hb1).cells; obtain ⟨c0, c1, c2, c3, c4, c5, c6, c7, c8⟩ := nine ((hb1.block _ (row_ltJ HR.out)).trans HR.out); have g2 : w1.cell? ⟨2, 0, none⟩ = some (.iface 157 (.pointer (some (A 2)))) := (HE.out.later hb1).g2; have HB1 := hid (HB.out.trans (hb1.mono HB.out.size)); clear hb1)
  go_region
  all_goals go_wp2_with fail
  all_goals go_region
  all_goals go_wp2_with fail
  all_goals go_ret2
  all_goals exact ⟨rfl, HB1.out.drew.drew⟩
end Go.Proofs.YtnnknplmjiahhabDoor
namespace Go.Proofs.YtnnknplmjiahhabDoor
open Go.RowKit

/-- One answer: who answers, to whom, of which deal, at which attempt; the state then. -/
def ansC (id f d a : Int) (h : HOut) : Array Value := #[.int .i64 id, .int .i64 f, .int .i64 d, .int .i64 (h.k : Int), .int .i64 a, .bool h.yes, .int .i64 (h.st.ph : Int), .int .i64 (h.st.pr : Int), .int .i64 (h.st.at_ : Int)]
/-- A slice value that holds no answer (c > 0, or kind 0), or that one. -/
def AnsV (w : World) (v : Value) (c : Nat) (id f d a : Int) (h : HOut) : Prop :=
  if c = 0 ∧ h.k ≠ 0 then ∃ g cap, v = .slice (some ⟨g, 0, none⟩) 1 cap ∧ w.heap[g]? = some (.cells (ansC id f d a h) 36 (0, 0)) else v = .slice none 0 0
theorem AnsV.later {w w' : World} {v : Value} {c : Nat} {id f d a : Int} {h : HOut} (x : AnsV w v c id f d a h) (hb : Below w.heap.size w w') : AnsV w' v c id f d a h := by
  unfold AnsV at *
  split
  · rename_i hc
    rw [if_pos hc] at x
    obtain ⟨g, cap, e, r⟩ := x
    exact ⟨g, cap, e, (hb.block g (row_ltJ r)).trans r⟩
  · rename_i hc
    rw [if_neg hc] at x
    exact x
theorem fr_neq (f t d k a : Int) (y : Bool) (ph pr pa : Int) (w : World) : (binOp .neq 36 (frV f t d k a y ph pr pa) (frV f t d k a y ph pr pa)).run Tryd.prog w = .ok (.bool false) w := by
  go_simp
set_option maxRecDepth 100000 in
theorem same_none (w : World) : Calls Tryd.prog 22 #[.slice none 0 0, .slice none 0 0] w fun e w' => e = .returned (.bool true) ∧ Below w.heap.size w w' := by
  go_enter Tryd.func22, Tryd.ntmps22
  go_wp2_with fail
  go_loop [5] (fun i => i = .int .i64 0) (fun _ => 0)
  case atStart => rfl
  case round =>
    subst hrel
    go_wp2_with fail
    go_ret
    exact ⟨rfl, Below.refl _ _⟩
set_option maxHeartbeats 1000000 in
set_option maxRecDepth 100000 in
theorem same_one (g1 g2 cap1 cap2 : Nat) (f t d k a : Int) (y : Bool) (ph pr pa : Int) (w : World)
    (h1 : w.heap[g1]? = some (.cells #[.int .i64 f, .int .i64 t, .int .i64 d, .int .i64 k, .int .i64 a, .bool y, .int .i64 ph, .int .i64 pr, .int .i64 pa] 36 (0, 0)))
    (h2 : w.heap[g2]? = some (.cells #[.int .i64 f, .int .i64 t, .int .i64 d, .int .i64 k, .int .i64 a, .bool y, .int .i64 ph, .int .i64 pr, .int .i64 pa] 36 (0, 0))) :
    Calls Tryd.prog 22 #[.slice (some ⟨g1, 0, none⟩) 1 cap1, .slice (some ⟨g2, 0, none⟩) 1 cap2] w fun e w' => e = .returned (.bool true) ∧ Below w.heap.size w w' := by
  have H1 := hid h1
  have H2 := hid h2
  clear h1 h2
  have hne := fr_neq f t d k a y ph pr pa
  go_enter Tryd.func22, Tryd.ntmps22
  go_wp2_with fail
  go_loopw [5] (fun i wr => ∃ n : Nat, n ≤ 1 ∧ i = .int .i64 (n : Int) ∧ Below w.heap.size w wr) (fun i _ => 1 - (intOf i).toNat)
  case atStart => exact ⟨0, by omega, rfl, Below.refl _ _⟩
  case round =>
    obtain ⟨n, hn, rfl, hb⟩ := hrel
    have HB := hid hb
    rcases (by omega : n = 0 ∨ n = 1) with rfl | rfl
    · obtain ⟨a0, a1, a2, a3, a4, a5, a6, a7, a8⟩ := nine ((hb.block g1 (row_ltJ H1.out)).trans H1.out)
      obtain ⟨b0, b1, b2, b3, b4, b5, b6, b7, b8⟩ := nine ((hb.block g2 (row_ltJ H2.out)).trans H2.out)
      clear hb
      go_wp2_with fail
      go_region
      all_goals go_wp2_with fail
      all_goals go_roundw
      case rel => exact ⟨1, by omega, by go_num, HB.out.drew⟩
      case measure => simp [intOf]
    · go_wp2_with fail
      go_ret
      exact ⟨rfl, HB.out⟩
end Go.Proofs.YtnnknplmjiahhabDoor
namespace Go.Proofs.YtnnknplmjiahhabDoor
open Go.RowKit

theorem keptCell {S : Nat → Prop} {w w' : World} {a : Addr} {v : Value} (h : Kept S w w') (hc : w.cell? a = some v) (hs : ¬ S a.block) : w'.cell? a = some v := by
  rw [World.cell?_of_block (w := w) (h.block a.block (cell_lt hc) hs)]; exact hc
theorem cell3_other {w : World} {g : Nat} {a b c : Value} {ad : Addr} {v : Value} (h : w.cell? ad = some v) (hne : ad.block ≠ g) : (((w.setCell ⟨g, 0, none⟩ a).setCell ⟨g, 1, none⟩ b).setCell ⟨g, 2, none⟩ c).cell? ad = some v := by
  rw [World.cell?_of_block (w := w) (by rw [heap_setCell_other _ _ _ _ hne, heap_setCell_other _ _ _ _ hne, heap_setCell_other _ _ _ _ hne])]
  exact h
/-- A frame in block b, a state in block g. -/
structure FrSt (w wx : World) (b g : Nat) (f t d k a : Int) (y : Bool) (ph pr pa : Int) (x0 x1 x2 : Nat) : Prop where
  bel : Below w.heap.size w wx
  fr : wx.heap[b]? = some (.cells #[.int .i64 f, .int .i64 t, .int .i64 d, .int .i64 k, .int .i64 a, .bool y, .int .i64 ph, .int .i64 pr, .int .i64 pa] 36 (0, 0))
  st : wx.heap[g]? = some (.cells #[.int .i64 (x0 : Int), .int .i64 (x1 : Int), .int .i64 (x2 : Int)] 34 (0, 0))
  lb : w.heap.size ≤ b
  lg : b < g
section
variable {w wx : World} {b g : Nat} {f t d k a : Int} {y : Bool} {ph pr pa : Int} {x0 x1 x2 : Nat}
theorem FrSt.later {wy : World} (h : FrSt w wx b g f t d k a y ph pr pa x0 x1 x2) (hb : Below wx.heap.size wx wy) : FrSt w wy b g f t d k a y ph pr pa x0 x1 x2 :=
  ⟨h.bel.trans (hb.mono h.bel.size), (hb.block _ (row_ltJ h.fr)).trans h.fr, (hb.block _ (row_ltJ h.st)).trans h.st, h.lb, h.lg⟩
theorem FrSt.cells (h : FrSt w wx b g f t d k a y ph pr pa x0 x1 x2) : wx.cell? ⟨g, 0, none⟩ = some (.int .i64 (x0 : Int)) ∧ wx.cell? ⟨g, 1, none⟩ = some (.int .i64 (x1 : Int)) ∧ wx.cell? ⟨g, 2, none⟩ = some (.int .i64 (x2 : Int)) := by
  refine ⟨?_, ?_, ?_⟩ <;> rw [cell_of_row _ _ _ _ _ _ h.st] <;> rfl
end
set_option maxHeartbeats 4000000 in
set_option maxRecDepth 100000 in
theorem shear_in (A : Nat → Addr) (w0 w : World) (s j mb p q n : Nat) (id f d k a ph pr pa : Nat) (y : Bool) (R : Nat → Bool) (E : Nat → Nat × St) (over : Bool) (B : ByteArray) (l : Int) (g : HOut) (o : POut)
    (h : SP w0 w s j mb p q id R n E over B l) (hE : HeldE w0 A) (hn : ∀ d, d < 6 → (E d).1 < 4294967296) (hf : frOk f id d k a ph pr pa) (hg : hearL (E d).2 (R d) k a ph = g) (ho : pOut E over B l d g.st.ph g.st.pr g.st.at_ = o) :
    Calls Tryd.prog 12 #[.pointer (some ⟨s, 0, none⟩), frV f id d k a y ph pr pa] w fun e w' => ∃ v, e = .returned (.tuple #[v, ev A o.c]) ∧ AnsV w' v o.c id f d a g ∧ SP w0 w' s j mb p q id R n o.e o.over o.b o.l ∧ Kept (In3 j p q) w w' := by
  obtain ⟨W, HW⟩ : ∃ W, Hid (w.alloc (.cells #[.int .i64 f, .int .i64 id, .int .i64 d, .int .i64 k, .int .i64 a, .bool y, .int .i64 ph, .int .i64 pr, .int .i64 pa] 36) = W) := ⟨_, rfl⟩
  have HB : Hid (Below w.heap.size w W) := by rw [← HW.out]; exact (Below.refl _ _).alloc (Nat.le_refl _) _
  have HR : Hid (W.heap[w.heap.size]? = some (.cells #[.int .i64 f, .int .i64 id, .int .i64 d, .int .i64 k, .int .i64 a, .bool y, .int .i64 ph, .int .i64 pr, .int .i64 pa] 36 (0, 0))) := by rw [← HW.out]; exact heap_alloc_new w _
  obtain ⟨c0, c1, c2, c3, c4, c5, c6, c7, c8⟩ := nine HR.out
  have hW := HW.out
  have HF : Hid ((if frOk f id d k a ph pr pa then 0 else 2) = 0) := if_pos hf
  have hd : d < 6 := by have := hf.2.2.1; omega
  have hk17 : 1 ≤ k ∧ k ≤ 7 := by have := hf.2.2.2.1; omega
  have HS := hid h
  have HE := hid hE
  have HN := hid hn
  obtain ⟨⟨sh, sp, sa⟩, HEd⟩ : ∃ x, Hid ((E d).2 = x) := ⟨_, rfl⟩
  rw [HEd.out] at hg
  have HG := hid hg
  have HO := hid ho
  have HEW := hid ((hE.later h.jp.bel).later HB.out)
  clear h hf hn hg ho hE
  go_enter Tryd.func12, Tryd.ntmps12
  go_wp2_with (go_at_call 27; (with_reducible refine (wcheck_e A f id d k a y ph pr pa 0 _ HEW.out HF.out).mono ?_); rintro e w1 ⟨rfl, hb1⟩; unfold ev; have HB1 := hid (HB.out.trans (hb1.mono HB.out.size)); obtain ⟨x0, x1, x2⟩ := (HS.out.sr.later HB1.out).cells; have HR1 := hid ((hb1.block _ (row_ltJ HR.out)).trans HR.out); obtain ⟨c0, c1, c2, c3, c4, c5, c6, c7, c8⟩ := nine HR1.out; clear hb1)
  go_region
  all_goals go_upto_region 13 with fail
  have HS1 := hid (HS.out.later HB1.out)
  have hbs := row_ltJ HR1.out
  obtain ⟨V, HV⟩ : ∃ V, Hid (w1.alloc (.cells #[.int .i64 0, .int .i64 0, .int .i64 0] 34) = V) := ⟨_, rfl⟩
  have HBV : Hid (Below w1.heap.size w1 V) := by rw [← HV.out]; exact (Below.refl _ _).alloc (Nat.le_refl _) _
  have HRV : Hid (V.heap[w1.heap.size]? = some (.cells #[.int .i64 0, .int .i64 0, .int .i64 0] 34 (0, 0))) := by rw [← HV.out]; exact heap_alloc_new w1 _
  have HFV : Hid (V.heap[w.heap.size]? = some (.cells #[.int .i64 f, .int .i64 id, .int .i64 d, .int .i64 k, .int .i64 a, .bool y, .int .i64 ph, .int .i64 pr, .int .i64 pa] 36 (0, 0))) := (HBV.out.block _ hbs).trans HR1.out
  have HSV := hid (HS1.out.later HBV.out)
  have hV := HV.out
  have vx := HSV.out.sr.cells.1
  have vc : V.cell? ⟨w.heap.size, 2, none⟩ = some (.int .i64 (d : Int)) := (nine HFV.out).2.2.1
  have hsl := HS1.out.sr.lts.1
  have ns1 : s ≠ w1.heap.size := Nat.ne_of_lt hsl
  have nf1 : w.heap.size ≠ w1.heap.size := Nat.ne_of_lt hbs
  go_cut [7, 8] from 13 (fun s7 s8 wx => s8 = .nilIface ∧ ∃ g1, s7 = .pointer (some ⟨g1, 0, none⟩) ∧ FrSt w wx w.heap.size g1 f id d k a y ph pr pa sh sp sa)
  case first =>
    go_region_held3 (fun W => W.cell? ⟨s, 0, none⟩ = some (.pointer (some ⟨j, 0, none⟩)) ∧ W.cell? ⟨w.heap.size, 2, none⟩ = some (.int .i64 (d : Int))) (first | go_keep | exact ⟨cell3_other (by assumption) ns1, cell3_other (by assumption) nf1⟩) (first | (go_at_call 25; (with_reducible refine (get_is j p d E over sh sp sa _ HS1.out.jp.jr.drew.drew hd HEd.out).mono ?_); rintro e w3 ⟨rfl, hb3⟩; have q1 := cell_later hb3 x0; have q2 := cell_later hb3 c2; have HFrS := hid (And.intro (HB1.out.drew.drew.trans (hb3.mono HB1.out.size)) ((hb3.block _ hbs).trans HR1.out)); have hsz := hb3.size; have hb3s := row_ltJ HFrS.out.2; clear hb3) | (go_at_call 25; (with_reducible refine (get_is j p d E over sh sp sa _ HSV.out.jp.jr.drew.drew hd HEd.out).mono ?_); rintro e w3 ⟨rfl, hb3⟩; have q1 := cell_later hb3 vx; have q2 := cell_later hb3 vc; have HR3 := hid ((hb3.block _ (row_ltJ HRV.out)).trans HRV.out); have HFrS := hid (And.intro ((HB1.out.trans (HBV.out.mono HB1.out.size)).drew.drew.trans (hb3.mono (Nat.le_trans HB1.out.size HBV.out.size))) ((hb3.block _ (row_ltJ HFV.out)).trans HFV.out)); have c30 : w3.cell? ⟨w1.heap.size, 0, none⟩ = some (.int .i64 0) := cell_of_row _ _ 0 _ _ _ HR3.out; have c31 : w3.cell? ⟨w1.heap.size, 1, none⟩ = some (.int .i64 0) := cell_of_row _ _ 1 _ _ _ HR3.out; have c32 : w3.cell? ⟨w1.heap.size, 2, none⟩ = some (.int .i64 0) := cell_of_row _ _ 2 _ _ _ HR3.out; have z30 := frozen_of_row _ _ 0 _ _ HR3.out; have z31 := frozen_of_row _ _ 1 _ _ HR3.out; have z32 := frozen_of_row _ _ 2 _ _ HR3.out; clear hb3))
    all_goals go_wp2_with fail
    all_goals go_meet
    · exact ⟨rfl, _, rfl, ⟨HFrS.out.1.alloc HFrS.out.1.size _, (Below.heap_alloc w3 _ _ hb3s).trans HFrS.out.2, heap_alloc_new w3 _, Nat.le_refl _, hb3s⟩⟩
    · exact ⟨rfl, _, rfl, ⟨((HFrS.out.1.setCell (Nat.le_of_lt hbs) _).setCell (Nat.le_of_lt hbs) _).setCell (Nat.le_of_lt hbs) _, by rw [heap_setCell_other _ _ _ _ nf1, heap_setCell_other _ _ _ _ nf1, heap_setCell_other _ _ _ _ nf1]; exact HFrS.out.2, set3 HR3.out _ _ _, Nat.le_refl _, hbs⟩⟩
  obtain ⟨rfl, g1, rfl, hfs⟩ := hcut
  clear HBV HRV HFV HSV hV HV vx vc hsl ns1 nf1 hbs HS1 HR1 HB1 x0 x1 x2 c0 c1 c2 c3 c4 c5 c6 c7 c8 HR HB hW HW HEW HF
  rename_i wc
  have HFrS := hid hfs
  clear hfs
  generalize wc = w2 at *
  obtain ⟨c0, c1, c2, c3, c4, c5, c6, c7, c8⟩ := nine HFrS.out.fr
  obtain ⟨s0, s1, s2⟩ := HFrS.out.cells
  have HSR := hid (HS.out.sr.later HFrS.out.bel)
  obtain ⟨⟨th, tp, ta⟩, gk, gy⟩ := g
  simp only at HO
  go_wp2_with (go_at_call 28; (with_reducible refine (step_is s j mb n d a ph sh sp sa (id : Int) (f : Int) (id : Int) (pr : Int) (pa : Int) y R _ k ⟨⟨th, tp, ta⟩, gk, gy⟩ HSR.out hd hk17 HG.out).mono ?_); rintro e w3 ⟨rfl, hb3⟩; simp only)
  have HF3 := hid (HFrS.out.later hb3)
  clear hb3
  obtain ⟨X, HX⟩ : ∃ X, Hid (w3.alloc (.cells #[.int .i64 (th : Int), .int .i64 (tp : Int), .int .i64 (ta : Int)] 34) = X) := ⟨_, rfl⟩
  obtain ⟨g2, Hg2⟩ : ∃ n, Hid (w3.heap.size = n) := ⟨_, rfl⟩
  have HFX : Hid (FrSt w X w.heap.size g2 f id d k a y ph pr pa th tp ta) := by
    rw [← HX.out, ← Hg2.out]
    exact ⟨HF3.out.bel.alloc HF3.out.bel.size _, (Below.heap_alloc w3 _ _ (row_ltJ HF3.out.fr)).trans HF3.out.fr, heap_alloc_new w3 _, Nat.le_refl _, row_ltJ HF3.out.fr⟩
  rw [HX.out, Hg2.out]
  clear HF3 HFrS HX Hg2 c0 c1 c2 c3 c4 c5 c6 c7 c8 s0 s1 s2 HSR
  have HSX := hid (HS.out.later HFX.out.bel)
  obtain ⟨x0, x1, x2⟩ := HSX.out.sr.cells
  have c2 := (nine HFX.out.fr).2.2.1
  obtain ⟨s0, s1, s2⟩ := HFX.out.cells
  have HNF : Hid (∀ x, w.heap.size ≤ x → ¬ In3 j p q x) := fun x hx e => by
    obtain ⟨_, _, e1, e2, e3⟩ := HS.out.lts
    unfold In3 at e; omega
  have HNG : Hid (¬ In3 j p q g2) := HNF.out _ (Nat.le_of_lt HFX.out.lg)
  go_cut [12] from 13 (fun s12 wx => s12 = ev A o.c ∧ wx.heap[w.heap.size]? = some (.cells #[.int .i64 f, .int .i64 id, .int .i64 d, .int .i64 k, .int .i64 a, .bool y, .int .i64 ph, .int .i64 pr, .int .i64 pa] 36 (0, 0)) ∧
    wx.heap[g2]? = some (.cells #[.int .i64 (th : Int), .int .i64 (tp : Int), .int .i64 (ta : Int)] 34 (0, 0)) ∧ SP w0 wx s j mb p q id R n o.e o.over o.b o.l ∧ Kept (In3 j p q) w wx)
  case first =>
    go_region_held3 (fun W => W.cell? ⟨s, 0, none⟩ = some (.pointer (some ⟨j, 0, none⟩)) ∧ W.cell? ⟨w.heap.size, 2, none⟩ = some (.int .i64 (d : Int)) ∧ W.cell? ⟨g2, 0, none⟩ = some (.int .i64 (th : Int)) ∧ W.cell? ⟨g2, 1, none⟩ = some (.int .i64 (tp : Int)) ∧ W.cell? ⟨g2, 2, none⟩ = some (.int .i64 (ta : Int))) (go_keep) (first | (go_at_call 29; (with_reducible refine (jput_any (d : Int) (th : Int) (tp : Int) (ta : Int) o HO.out HSX.out.jp.drew HE.out HN.out).mono ?_); rintro e w5 ⟨rfl, hj5, hk5⟩; have q1 := keptCell hk5 x0 HSX.out.ns; have q2 := keptCell hk5 c2 (HNF.out _ (Nat.le_refl _)); have q3 := keptCell hk5 s0 HNG.out; have q4 := keptCell hk5 s1 HNG.out; have q5 := keptCell hk5 s2 HNG.out; have HJ5 := hid hj5; have HK5 := hid hk5; clear hj5 hk5))
    all_goals go_wp2_with fail
    all_goals go_meet
    all_goals exact ⟨rfl, HK5.out.row HFX.out.fr (HNF.out _ (Nat.le_refl _)), HK5.out.row HFX.out.st HNG.out, HSX.out.drew.turn HJ5.out HK5.out, (Kept.of_below HFX.out.bel).trans ((Kept.of_below (Below.refl _ _).drew).trans HK5.out)⟩
  obtain ⟨rfl, hr1, hr2, hs6, hk6⟩ := hcut
  clear HSX x0 x1 x2 c2 s0 s1 s2 HFX HNG HO HG
  rename_i wc
  have HR6 := hid hr1
  have HT6 := hid hr2
  have HS6 := hid hs6
  have HK6 := hid hk6
  clear hr1 hr2 hs6 hk6
  generalize wc = w6 at *
  obtain ⟨oc, oe, oo, ob, ol⟩ := o
  simp only at HS6 HK6 ⊢
  cases oc with
  | succ c =>
    unfold ev
    go_wp2_with fail
    go_ret2
    exact ⟨.slice none 0 0, rfl, by unfold AnsV; rw [if_neg (fun h => by cases h.1)], HS6.out, HK6.out⟩
  | zero =>
    unfold ev
    by_cases hgk : gk = 0
    · subst hgk
      go_wp2_with fail
      go_ret2
      exact ⟨.slice none 0 0, rfl, by unfold AnsV; rw [if_neg (fun h => h.2 rfl)], HS6.out, HK6.out⟩
    · have hgi : ¬ (gk : Int) = 0 := by omega
      obtain ⟨x0, x1, x2⟩ := HS6.out.sr.cells
      obtain ⟨c0, c1, c2, c3, c4, c5, c6, c7, c8⟩ := nine HR6.out
      have s0 : w6.cell? ⟨g2, 0, none⟩ = some (.int .i64 (th : Int)) := by rw [cell_of_row _ _ _ _ _ _ HT6.out]; rfl
      have s1 : w6.cell? ⟨g2, 1, none⟩ = some (.int .i64 (tp : Int)) := by rw [cell_of_row _ _ _ _ _ _ HT6.out]; rfl
      have s2 : w6.cell? ⟨g2, 2, none⟩ = some (.int .i64 (ta : Int)) := by rw [cell_of_row _ _ _ _ _ _ HT6.out]; rfl
      go_wp2_with fail
      go_region
      all_goals go_wp2_with fail
      all_goals go_ret2
      all_goals refine ⟨_, rfl, ?_, HS6.out.later ((Below.refl _ _).alloc (Nat.le_refl _) _).drew, HK6.out.trans (Kept.of_below ((Below.refl _ _).alloc (Nat.le_refl _) _).drew)⟩
      all_goals unfold AnsV
      all_goals rw [if_pos ⟨rfl, hgk⟩]
      all_goals exact ⟨_, _, rfl, heap_alloc_new w6 _⟩
end Go.Proofs.YtnnknplmjiahhabDoor
namespace Go.Proofs.YtnnknplmjiahhabDoor

theorem good_fits {s : St} (h : s.good) : fitsB s.ph s.pr s.at_ = true := by
  obtain ⟨h1, h2, h3⟩ := h
  exact decide_eq_true (by omega)
/-- What stands of the plate along the laws: each state good, numbers small, power on unless the journal is over. -/
structure Well (B : ByteArray) (over : Bool) (l : Int) (m : Nat) : Prop where
  good : ∀ d, d < 6 → (dealL B.data.toList d).2.good
  num : ∀ d, d < 6 → (dealL B.data.toList d).1 ≤ m
  pow : over = false → l ≠ -2
theorem Well.mono {B : ByteArray} {over : Bool} {l : Int} {m k : Nat} (h : Well B over l m) (hk : m ≤ k) : Well B over l k := ⟨h.good, fun d hd => Nat.le_trans (h.num d hd) hk, h.pow⟩
theorem Well.boot {B : ByteArray} {over : Bool} {l : Int} {m : Nat} (h : Well B over l m) : Well B false (-1) m := ⟨h.good, h.num, fun _ => by omega⟩
theorem Well.on {B : ByteArray} {over : Bool} {l : Int} {m : Nat} (h : Well B over l m) : Well B over (-1) m := ⟨h.good, h.num, fun _ => by omega⟩
theorem Well.cut {B : ByteArray} {over : Bool} {l : Int} {m : Nat} (n : Int) (h : Well B over l m) : Well B over (cL l n) m := by
  refine ⟨h.good, h.num, fun ho => ?_⟩
  have := h.pow ho
  unfold cL
  rw [if_neg this]
  split
  · exact this
  · omega
theorem well_zero (n : Nat) (h : 216 ≤ n) : Well (zeroB n) false (-1) 0 :=
  ⟨fun d hd => by rw [deal_zero n d (by omega)]; exact ⟨by decide, by decide, by decide⟩, fun d hd => by rw [deal_zero n d (by omega)]; exact Nat.le_refl _, fun _ => by omega⟩
/-- A good state is put: it is there, or all is as it was and the journal is over. -/
theorem put_well {B : ByteArray} {over : Bool} {l : Int} {m d : Nat} {s : St} {o : POut} (hB : 216 ≤ B.size) (h : Well B over l m) (hm : m < 1000) (hd : d < 6) (hs : s.good) (ho : pOut (dealL B.data.toList) over B l d s.ph s.pr s.at_ = o) :
    o.e = dealL o.b.data.toList ∧ Well o.b o.over o.l (m + 1) ∧ (∀ e, e ≠ d → dealL o.b.data.toList e = dealL B.data.toList e) ∧ ((o.c = 0 ∧ (dealL o.b.data.toList d).2 = s) ∨ (o.c = 6 ∧ dealL o.b.data.toList d = dealL B.data.toList d)) := by
  subst ho
  unfold pOut
  cases over with
  | true =>
    rw [if_pos rfl]
    exact ⟨rfl, h.mono (Nat.le_succ _), fun _ _ => rfl, .inr ⟨rfl, rfl⟩⟩
  | false =>
    rw [if_neg (by decide), if_pos ⟨by omega, good_fits hs⟩]
    simp only [Int.toNat_natCast]
    have hn := h.num d hd
    have hp := h.pow rfl
    rcases put_out (s := s) hB hd (fits_of (good_fits hs)) (by omega) hp with ⟨c, ov, ee, hl, hs2, hot, hnn⟩ | ⟨c, ov, hl, hdd⟩
    · refine ⟨ee, ⟨fun e he => ?_, fun e he => ?_, fun _ => hl⟩, hot, .inl ⟨c, hs2⟩⟩
      · by_cases g : e = d
        · rw [g, hs2]; exact hs
        · rw [hot e g]; exact h.good e he
      · by_cases g : e = d
        · rw [g]; exact Nat.le_trans hnn (Nat.succ_le_succ hn)
        · rw [hot e g]; have := h.num e he; omega
    · refine ⟨?_, ⟨fun e he => by rw [hdd]; exact h.good e he, fun e he => by rw [hdd]; have := h.num e he; omega, fun g => by rw [ov] at g; cases g⟩, fun e _ => by rw [hdd], .inr ⟨c, by rw [hdd]⟩⟩
      rw [hdd]
      revert c
      unfold putIn
      split
      · intro c; cases c
      · split
        · intro c; cases c
        · split
          · intro c; cases c
          · intro _; rfl
end Go.Proofs.YtnnknplmjiahhabDoor
namespace Go.Proofs.YtnnknplmjiahhabDoor
open Go.RowKit

theorem ask_zero : hearL St.zero false 1 0 0 = ⟨⟨1, 0, 0⟩, 2, true⟩ := rfl
set_option maxRecDepth 100000 in
theorem votes_hear (A : Nat → Addr) (w0 w : World) (s j mb p q n : Nat) (h : SP w0 w s j mb p q 1 (fun _ => false) n (dealL (zeroB 512).data.toList) false (zeroB 512) (-1)) (hE : HeldE w0 A) :
    Calls Tryd.prog 12 #[.pointer (some ⟨s, 0, none⟩), frV 0 1 0 1 0 false 0 0 0] w fun e w' => ∃ gb cap, e = .returned (.tuple #[.slice (some ⟨gb, 0, none⟩) 1 cap, .nilIface]) ∧ w'.cell? ⟨gb, 3, none⟩ = some (.int .i64 2) ∧ w'.cell? ⟨gb, 5, none⟩ = some (.bool true) ∧ Below w0.heap.size w0 w' := by
  have hz := deal_zero 512 0 (by omega)
  have hB : 216 ≤ (zeroB 512).size := by rw [zeroB_size]; omega
  have hn : (dealL (zeroB 512).data.toList 0).1 + 1 < 4294967295 := by rw [hz]; decide
  have hf := put_free (B := zeroB 512) (d := 0) (s := ⟨1, 0, 0⟩) hB (by decide) hn
  have hg : hearL (dealL (zeroB 512).data.toList 0).2 ((fun _ => false) 0) 1 0 0 = ⟨⟨1, 0, 0⟩, 2, true⟩ := by rw [hz]; rfl
  obtain ⟨o, ho⟩ : ∃ o, pOut (dealL (zeroB 512).data.toList) false (zeroB 512) (-1) (0 : Nat) (1 : Nat) (0 : Nat) (0 : Nat) = o := ⟨_, rfl⟩
  have hc : o.c = 0 := by
    rw [← ho]
    unfold pOut
    rw [if_neg (by decide), if_pos ⟨by omega, by decide⟩]
    exact hf.1
  refine (shear_in A w0 w s j mb p q n 1 0 0 1 0 0 0 0 false (fun _ => false) _ false _ (-1) _ o h hE (fun d _ => deal_lt _ d) ⟨by omega, by omega, by omega, by omega, by omega, by omega, by omega, by omega⟩ hg ho).mono ?_
  rintro e w' ⟨v, rfl, hv, hs, hk⟩
  rw [hc] at hv ⊢
  unfold AnsV at hv
  rw [if_pos ⟨rfl, by decide⟩] at hv
  obtain ⟨gb, cap, rfl, hr⟩ := hv
  refine ⟨gb, cap, rfl, ?_, ?_, hs.jp.bel⟩
  · rw [cell_of_row _ _ _ _ _ _ hr]; rfl
  · rw [cell_of_row _ _ _ _ _ _ hr]; rfl
set_option maxHeartbeats 2000000 in
set_option maxRecDepth 100000 in
theorem votes_any (A : Nat → Addr) (w : World) (hE : HeldE w A) :
    Calls Tryd.prog 6 #[] w fun e w' => e = .returned (.bool true) ∧ Below w.heap.size w w' := by
  have HE := hid hE
  clear hE
  go_enter Tryd.func6, Tryd.ntmps6
  go_wp2_with fail
  refine (pnew_ok 512 _ (by omega)).mono ?_
  rintro e w1 ⟨rfl, hP1, hb1, hs1⟩
  have HP1 := hid hP1
  have HB1 := hid hb1
  have HE1 := hid (HE.out.later hb1)
  clear hP1 hb1
  go_wp2_with fail
  refine (snew_ok A 1 _ _ _ (-1) _ HP1.out HE1.out (by rw [zeroB_size]; omega) (by rw [zeroB_size]; omega) (by omega) (by omega) (by omega)).mono ?_
  rintro e w2 ⟨s, j, mb, rfl, hJ, hS, hb2, hj0, hjm, hms⟩
  have HS := hid (sp_new HB1.out HP1.out (by omega) (Nat.le_refl _) hJ hS hb2 hj0 hjm hms (by omega) (by omega) (by rw [zeroB_size]; omega) (by rw [zeroB_size]; omega))
  clear hJ hS hb2 hj0 hjm hms
  go_wp2_with fail
  refine (votes_hear A w _ s j mb _ _ 0 HS.out HE.out).mono ?_
  rintro e w3 ⟨gb, cap, rfl, hc3, hc5, hb3⟩
  have HB3 := hid hb3
  clear hb3
  go_wp2_with fail
  go_ret
  exact ⟨rfl, HB3.out⟩
end Go.Proofs.YtnnknplmjiahhabDoor
