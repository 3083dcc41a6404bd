/-
  WALKS of package world: kept; State; isHeld.
  WALKS of package world: isHeld.
  WALKS of package world: fall; Down; Is; Lead; Cut; Refuse.
  WALKS of package world: Down, Is, Lead, Cut, Refuse.
  WALKS of package world: Is, Lead, Cut, Refuse.
  append of frames onto the world's own; send.
  An event more; note.
  WALKS of package world: hear.
  PLAIN: a lead's state is one of four.
-/
import Derived.Test.YtdpemmmbkjmplabGreatDoorBa7
import Derived.Test.YtdpemmmbkjmplabGreatDoorBa1
import Derived.Maps.AppendAt
import Derived.Laws.OwnMore
namespace Go.Proofs.YtdpemmmbkjmplabGreatDoor
open Go.RowKit

/-- A row of a state that is not written yet, in a later world. -/
structure Z3 (w W : World) (g : Nat) : Prop where
  r : W.heap[g]? = some (.cells #[.int .i64 0, .int .i64 0, .int .i64 0] 43 (0, 0))
  b : Below w.heap.size w W
theorem Z3.later {w W W' : World} {g : Nat} (h : Z3 w W g) (hb : Below W.heap.size W W') : Z3 w W' g := ⟨(hb.block _ (row_ltJ h.r)).trans h.r, h.b.trans (hb.mono h.b.size)⟩
theorem Z3.cells {w W : World} {g : Nat} (h : Z3 w W g) : W.cell? ⟨g, 0, none⟩ = some (.int .i64 0) ∧ W.cell? ⟨g, 1, none⟩ = some (.int .i64 0) ∧ W.cell? ⟨g, 2, none⟩ = some (.int .i64 0) ∧ W.frozen? ⟨g, 0, none⟩ = false ∧ W.frozen? ⟨g, 1, none⟩ = false ∧ W.frozen? ⟨g, 2, none⟩ = false :=
  ⟨cell_of_row _ _ 0 _ _ _ h.r, cell_of_row _ _ 1 _ _ _ h.r, cell_of_row _ _ 2 _ _ _ h.r, frozen_of_row _ _ 0 _ _ h.r, frozen_of_row _ _ 1 _ _ h.r, frozen_of_row _ _ 2 _ _ h.r⟩
theorem z3 (w : World) : Z3 w (w.alloc (.cells #[.int .i64 0, .int .i64 0, .int .i64 0] 43)) w.heap.size := ⟨heap_alloc_new w _, (Below.refl _ _).alloc (Nat.le_refl _) _⟩
section
variable {w0 w : World} {C : Nat → Nat} {K : NB} {X : XB} {i m : Nat} {zs : List Int} {N : PN} {V : PX} {A : Nat → Addr}
set_option maxRecDepth 100000 in
theorem kept_up (d h1 h2 h3 : Nat) (h : ND w0 w C K i zs N m) (hu : (N.l != -2) = true) (hd : d < 6) (hs : stN N d = ⟨h1, h2, h3⟩) :
    Calls Tryz.prog 77 #[.pointer (some ⟨K.nd, 0, none⟩), .int .i64 (d : Int)] w fun e w' => e = .returned (agS h1 h2 h3) ∧ Below w.heap.size w w' := by
  obtain ⟨W, HW⟩ : ∃ W, Hid (w.alloc (.cells #[.int .i64 0, .int .i64 0, .int .i64 0] 43) = W) := ⟨_, rfl⟩
  have HZ : Hid (Z3 w W w.heap.size) := by rw [← HW.out]; exact z3 w
  have H := hid (h.later HZ.out.b)
  obtain ⟨c0, c1, c2⟩ := (h.later HZ.out.b).way
  have HU := hid hu
  have HS := hid hs
  have hW := HW.out
  clear h hu hs
  go_enter Tryz.func77, Tryz.ntmps77
  go_wp2_with fail
  refine (power_any K.p K.q N.B N.l W H.out.sp.jp.pl).mono ?_
  rintro e w1 ⟨rfl, hx⟩
  subst w1
  rw [HU.out]
  go_wp2_with fail
  refine (known_is d h1 h2 h3 H.out.sp.jp.jr H.out.sp.sr hd HS.out).mono ?_
  rintro e w1 ⟨rfl, hb1⟩
  have HZ1 := hid (HZ.out.later hb1)
  obtain ⟨d0, d1, d2, z0, z1, z2⟩ := HZ1.out.cells
  clear hb1
  go_wp2_with fail
  refine bodyPost_ret (results_cell_row rfl _ _ w.heap.size 43 _ (0, 0) _ rfl (set3 HZ1.out.r _ _ _) Tryz.underlying43 rfl sizeState) rfl ?_
  exact ⟨rfl, ((HZ1.out.b.setCell (Nat.le_refl _) _).setCell (Nat.le_refl _) _).setCell (Nat.le_refl _) _⟩
set_option maxRecDepth 100000 in
theorem kept_down (d h1 h2 h3 : Nat) (h : ND w0 w C K i zs N m) (hE : Held9 w A) (hz : N.B.size = 512) (hu : (N.l != -2) = false) (hd : d < 6) (hs : stN N d = ⟨h1, h2, h3⟩) :
    Calls Tryz.prog 77 #[.pointer (some ⟨K.nd, 0, none⟩), .int .i64 (d : Int)] w fun e w' => e = .returned (agS h1 h2 h3) ∧ Below w.heap.size w w' := by
  obtain ⟨W, HW⟩ : ∃ W, Hid (w.alloc (.cells #[.int .i64 0, .int .i64 0, .int .i64 0] 43) = W) := ⟨_, rfl⟩
  have HZ : Hid (Z3 w W w.heap.size) := by rw [← HW.out]; exact z3 w
  have H := hid (h.later HZ.out.b)
  have HE := hid (hE.later HZ.out.b)
  obtain ⟨c0, c1, c2⟩ := (h.later HZ.out.b).way
  have HU := hid hu
  have HS := hid hs
  have HSZ := hid hz
  have hW := HW.out
  clear h hu hs hE hz
  go_enter Tryz.func77, Tryz.ntmps77
  go_wp2_with fail
  refine (power_any K.p K.q N.B N.l W H.out.sp.jp.pl).mono ?_
  rintro e w1 ⟨rfl, hx⟩
  subst w1
  rw [HU.out]
  go_wp2_with (go_at_call 97; refine (pbytes_any K.p K.q N.B N.l W H.out.sp.jp.pl).mono ?_; rintro e w1 ⟨rfl, hx⟩; subst w1)
  refine (pfrom_ok N.B W (by rw [HSZ.out]; decide)).mono ?_
  rintro e w1 ⟨rfl, hp, hb1, -⟩
  have HP := hid hp
  have HZ1 := hid (HZ.out.later hb1)
  have HE1 := hid (HE.out.later hb1)
  clear hp hb1
  go_wp2_with fail
  refine (open_ok A _ _ N.B (-1) w1 HP.out HE1.out.toE (by rw [HSZ.out]; decide) (by rw [HSZ.out]; decide) (by decide)).mono ?_
  rintro e w2 ⟨j2, rfl, hj, hb2, -⟩
  have HJ := hid hj
  have HZ2 := hid (HZ1.out.later hb2)
  clear hj hb2
  go_wp2_with fail
  refine (get_is j2 _ d _ false h1 h2 h3 _ HJ.out hd HS.out).mono ?_
  rintro e w3 ⟨rfl, hb3⟩
  have HZ3 := hid (HZ2.out.later hb3)
  obtain ⟨W4, HW4⟩ : ∃ W4, Hid (w3.alloc (.cells #[.int .i64 (h1 : Int), .int .i64 (h2 : Int), .int .i64 (h3 : Int)] 43) = W4) := ⟨_, rfl⟩
  have hW4 := HW4.out
  have HZ4 : Hid (Z3 w W4 w.heap.size) := by rw [← HW4.out]; exact HZ3.out.later ((Below.refl _ _).alloc (Nat.le_refl _) _)
  have HN4 : Hid (W4.heap[w3.heap.size]? = some (.cells #[.int .i64 (h1 : Int), .int .i64 (h2 : Int), .int .i64 (h3 : Int)] 43 (0, 0))) := by rw [← HW4.out]; exact heap_alloc_new w3 _
  obtain ⟨d0, d1, d2, z0, z1, z2⟩ := HZ4.out.cells
  have e0 : W4.cell? ⟨w3.heap.size, 0, none⟩ = some (.int .i64 (h1 : Int)) := (cell_of_row _ _ 0 _ _ _ HN4.out)
  have e1 : W4.cell? ⟨w3.heap.size, 1, none⟩ = some (.int .i64 (h2 : Int)) := (cell_of_row _ _ 1 _ _ _ HN4.out)
  have e2 : W4.cell? ⟨w3.heap.size, 2, none⟩ = some (.int .i64 (h3 : Int)) := (cell_of_row _ _ 2 _ _ _ HN4.out)
  clear hb3
  go_wp2_with fail
  refine bodyPost_ret (results_cell_row rfl _ _ w.heap.size 43 _ (0, 0) _ rfl (set3 HZ4.out.r _ _ _) Tryz.underlying43 rfl sizeState) rfl ?_
  exact ⟨rfl, ((HZ4.out.b.setCell (Nat.le_refl _) _).setCell (Nat.le_refl _) _).setCell (Nat.le_refl _) _⟩
theorem kept_is (d h1 h2 h3 : Nat) (h : ND w0 w C K i zs N m) (hE : Held9 w A) (hz : N.B.size = 512) (hd : d < 6) (hs : stN N d = ⟨h1, h2, h3⟩) :
    Calls Tryz.prog 77 #[.pointer (some ⟨K.nd, 0, none⟩), .int .i64 (d : Int)] w fun e w' => e = .returned (agS h1 h2 h3) ∧ Below w.heap.size w w' := by
  cases hu : N.l != -2 with
  | true => exact kept_up d h1 h2 h3 h hu hd hs
  | false => exact kept_down d h1 h2 h3 h hE hz hu hd hs
set_option maxRecDepth 100000 in
/-- State of a wrong site or deal. -/
theorem wstate_no (s d : Int) (h : WD w0 w C X zs V m) (hE : Held9 w0 A) (hs : ¬ ((0 ≤ s ∧ s < zs.length) ∧ 0 ≤ d ∧ d < 6)) :
    Calls Tryz.prog 52 #[.pointer (some ⟨X.xb, 0, none⟩), .int .i64 s, .int .i64 d] w fun e w' => e = .returned (.tuple #[.agg #[.int .i64 0, .int .i64 0, .int .i64 0], ev A 2]) ∧ Below w.heap.size w w' := by
  obtain ⟨W, HW⟩ : ∃ W, Hid (w.alloc (.cells #[.int .i64 0, .int .i64 0, .int .i64 0] 43) = W) := ⟨_, rfl⟩
  have HZ : Hid (Z3 w W w.heap.size) := by rw [← HW.out]; exact z3 w
  have H := hid (h.later HZ.out.b)
  have HE := hid hE
  have HS := hid hs
  have hW := HW.out
  clear h hE hs
  go_enter Tryz.func52, Tryz.ntmps52
  go_wp2_with fail
  refine (findDeal_no s d H.out HE.out HS.out).mono ?_
  rintro e w1 ⟨rfl, hb1⟩
  have HZ1 := hid (HZ.out.later hb1)
  obtain ⟨d0, d1, d2, z0, z1, z2⟩ := HZ1.out.cells
  clear hb1
  go_wp2_with fail
  refine bodyPost_ret (results_row2 rfl _ _ w.heap.size 43 _ (0, 0) _ rfl (set3 HZ1.out.r _ _ _) Tryz.underlying43 rfl sizeState) rfl ?_
  exact ⟨rfl, ((HZ1.out.b.setCell (Nat.le_refl _) _).setCell (Nat.le_refl _) _).setCell (Nat.le_refl _) _⟩
set_option maxRecDepth 100000 in
theorem wstate_ok (s d h1 h2 h3 : Nat) (h : WD w0 w C X zs V m) (hE : Held9 w0 A) (hs : s < zs.length) (hd : d < 6) (hst : stN (V.nd s) d = ⟨h1, h2, h3⟩) :
    Calls Tryz.prog 52 #[.pointer (some ⟨X.xb, 0, none⟩), .int .i64 (s : Int), .int .i64 (d : Int)] w fun e w' => e = .returned (.tuple #[agS h1 h2 h3, .nilIface]) ∧ Below w.heap.size w w' := by
  obtain ⟨W, HW⟩ : ∃ W, Hid (w.alloc (.cells #[.int .i64 0, .int .i64 0, .int .i64 0] 43) = W) := ⟨_, rfl⟩
  have HZ : Hid (Z3 w W w.heap.size) := by rw [← HW.out]; exact z3 w
  have H := hid (h.later HZ.out.b)
  have HE := hid ((h.held hE).later HZ.out.b)
  have HS := hid hst
  have HL := hid hs
  have hW := HW.out
  clear h hE hst hs
  go_enter Tryz.func52, Tryz.ntmps52
  go_wp2_with fail
  refine (findDeal_ok s d H.out HL.out hd).mono ?_
  rintro e w1 ⟨rfl, hx⟩
  subst w1
  go_wp2_with fail
  refine (kept_is d h1 h2 h3 (H.out.nds s HL.out) HE.out (H.out.inv.nd s HL.out).sz hd HS.out).mono ?_
  rintro e w1 ⟨rfl, hb1⟩
  have HZ1 := hid (HZ.out.later hb1)
  obtain ⟨d0, d1, d2, z0, z1, z2⟩ := HZ1.out.cells
  clear hb1
  go_wp2_with fail
  refine bodyPost_ret (results_row2 rfl _ _ w.heap.size 43 _ (0, 0) _ rfl (set3 HZ1.out.r _ _ _) Tryz.underlying43 rfl sizeState) rfl ?_
  exact ⟨rfl, ((HZ1.out.b.setCell (Nat.le_refl _) _).setCell (Nat.le_refl _) _).setCell (Nat.le_refl _) _⟩
end
end Go.Proofs.YtdpemmmbkjmplabGreatDoor
namespace Go.Proofs.YtdpemmmbkjmplabGreatDoor
open Go.RowKit

/-- Is a deal held at a site? -/
def heldN (N : PN) (d : Nat) : Bool := (N.ld d).isSome || !(decide ((stN N d).ph = 0 ∧ (stN N d).pr = 0 ∧ (stN N d).at_ = 0))
theorem heldX_any {n : Nat} {V : PX} {d i : Nat} (hi : i < n) (h : heldN (V.nd i) d = true) : heldX n V d = true := by
  unfold heldX
  rw [List.any_eq_true]
  exact ⟨i, List.mem_range.2 hi, h⟩
theorem heldX_none {n : Nat} {V : PX} {d : Nat} (h : ∀ i, i < n → heldN (V.nd i) d = false) : heldX n V d = false := by
  unfold heldX
  rw [List.any_eq_false]
  intro i hi
  rw [show (((V.nd i).ld d).isSome || !(decide ((stN (V.nd i) d).ph = 0 ∧ (stN (V.nd i) d).pr = 0 ∧ (stN (V.nd i) d).at_ = 0))) = false from h i (List.mem_range.1 hi)]
  decide
theorem st_neI (x0 x1 x2 y0 y1 y2 : Int) (w : World) : (binOp .neq 43 (.agg #[.int .i64 x0, .int .i64 x1, .int .i64 x2]) (.agg #[.int .i64 y0, .int .i64 y1, .int .i64 y2])).run Tryz.prog w = .ok (.bool (!decide (x0 = y0 ∧ x1 = y1 ∧ x2 = y2))) w := by
  by_cases h0 : x0 = y0 <;> by_cases h1 : x1 = y1 <;> by_cases h2 : x2 = y2
  all_goals
    simp only [h0, h1, h2, and_true, and_self, and_false, decide_true, decide_false]
    go_simp
theorem st_ne0 (h1 h2 h3 : Nat) (w : World) : (binOp .neq 43 (agS h1 h2 h3) (.agg #[.int .i64 0, .int .i64 0, .int .i64 0])).run Tryz.prog w = .ok (.bool (!decide (h1 = 0 ∧ h2 = 0 ∧ h3 = 0))) w := by
  rw [st_neI]
  congr 4
  exact propext (by omega)
section
variable {w0 w : World} {C : Nat → Nat} {K : NB} {X : XB} {i m : Nat} {zs : List Int} {N : PN} {V : PX} {A : Nat → Addr}
set_option maxHeartbeats 4000000 in
set_option maxRecDepth 100000 in
theorem isHeld_is (d : Nat) (h : WD w0 w C X zs V m) (hE : Held9 w0 A) (hd : d < 6) :
    Calls Tryz.prog 43 #[.pointer (some ⟨X.xb, 0, none⟩), .int .i64 (d : Int)] w fun e w' => e = .returned (.bool (heldX zs.length V d)) ∧ Below w.heap.size w w' := by
  obtain ⟨-, c1, -, -, -⟩ := h.cells
  have n7 := h.n7
  have H := hid h
  have HE := hid hE
  obtain ⟨n, hn⟩ : ∃ n, Hid (zs.length = n) := ⟨_, rfl⟩
  rw [hn.out] at c1 n7 ⊢
  clear h hE
  go_enter Tryz.func43, Tryz.ntmps43
  go_wp2_with fail
  go_loopw [12] (fun v wr => ∃ k : Nat, k ≤ n ∧ v = .int .i64 (k : Int) ∧ Below w.heap.size w wr ∧ ∀ j, j < k → heldN (V.nd j) d = false) (fun v _ => n - (intOf v).toNat)
  case atStart => exact ⟨0, Nat.zero_le _, rfl, Below.refl _ _, fun j hj => absurd hj (Nat.not_lt_zero _)⟩
  case round =>
    obtain ⟨k, hk, rfl, hb, hno⟩ := hrel
    rename_i wr _
    have HNo := hid hno
    have HB := hid hb
    have H1 := hid (H.out.later hb)
    clear hno hb
    by_cases hlt : k < n
    · have c2 := H1.out.ns k (by rw [hn.out]; exact hlt)
      have HN := hid (H1.out.nds k (by rw [hn.out]; exact hlt))
      have c3 := HN.out.lead hd
      have hinv := hid (H1.out.inv.nd k (by rw [hn.out]; exact hlt))
      cases hl : (V.nd k).ld d with
      | some x =>
        rw [ldV_some hl] at c3
        have HH : Hid (heldN (V.nd k) d = true) := by unfold heldN; rw [hl]; rfl
        clear hl
        go_wp2_with fail
        go_ret
        exact ⟨by rw [heldX_any hlt HH.out]; rfl, HB.out⟩
      | none =>
        rw [ldV_none hl] at c3
        obtain ⟨⟨h1, h2, h3⟩, HS⟩ : ∃ x, Hid (stN (V.nd k) d = x) := ⟨_, rfl⟩
        obtain ⟨b, HBn⟩ : ∃ b, Hid ((!decide (h1 = 0 ∧ h2 = 0 ∧ h3 = 0)) = b) := ⟨_, rfl⟩
        have HH : Hid (heldN (V.nd k) d = b) := by unfold heldN; rw [hl, HS.out, ← HBn.out]; rfl
        have hcmp : ∀ w, (binOp .neq 43 (agS h1 h2 h3) (.agg #[.int .i64 0, .int .i64 0, .int .i64 0])).run Tryz.prog w = .ok (.bool b) w := fun w => by rw [← HBn.out]; exact st_ne0 h1 h2 h3 w
        clear hl
        cases b with
        | true =>
          go_wp2_with (go_at_call 77; refine (kept_is d h1 h2 h3 HN.out (H1.out.held HE.out) hinv.out.sz hd HS.out).mono ?_; rintro e w2 ⟨rfl, hb2⟩; have HB2 := hid (HB.out.trans (hb2.mono HB.out.size)); clear hb2)
          go_ret
          exact ⟨by rw [heldX_any hlt HH.out]; rfl, HB2.out⟩
        | false =>
          go_wp2_with (go_at_call 77; refine (kept_is d h1 h2 h3 HN.out (H1.out.held HE.out) hinv.out.sz hd HS.out).mono ?_; rintro e w2 ⟨rfl, hb2⟩; have HB2 := hid (HB.out.trans (hb2.mono HB.out.size)); clear hb2)
          go_roundw
          case rel =>
            refine ⟨k + 1, by omega, by go_num, HB2.out, fun j hj => ?_⟩
            by_cases e : j = k
            · subst e; exact HH.out
            · exact HNo.out j (by omega)
          case measure => simp [intOf]; omega
    · obtain rfl : k = n := by omega
      have HH := hid (heldX_none HNo.out)
      go_wp2_with fail
      go_ret
      exact ⟨by rw [HH.out]; rfl, HB.out⟩
end
end Go.Proofs.YtdpemmmbkjmplabGreatDoor
namespace Go.Proofs.YtdpemmmbkjmplabGreatDoor
open Go.RowKit

section
variable {w0 w w' : World} {C : Nat → Nat} {K : NB} {X : XB} {i m : Nat} {zs : List Int} {N : PN} {V : PX} {A : Nat → Addr}
/-- Only the plate's power turned. -/
theorem ND.power {l : Int} (h : ND w0 w C K i zs N m) (hk : Kept (In2 K.p K.q) w w') (hp : Pl w' K.p K.q N.B l) (h0 : -2 ≤ l) (h1 : l ≤ 9223372036854775807) : ND w0 w' C K i zs { N with l := l } m := by
  have e1 := h.cs; have e2 := h.cj; have e3 := h.cm; have e4 := h.cp; have e5 := h.cq; have e6 := h.cn
  have nS : ∀ x, C x ≠ 100 * i + 5 → C x ≠ 100 * i + 6 → ¬ In2 K.p K.q x := fun x g1 g2 hx => by
    rcases hx with rfl | rfl
    · exact g1 e4
    · exact g2 e5
  refine ⟨hk.row h.row (nS _ (by omega) (by omega)), h.sp.turn (h.sp.jp.plate hk hp h0 h1 rfl) (hk.mono (fun x hx => .inr hx)), fun d hd x hx => ?_, h.cn, h.cs, h.cj, h.cm, h.cp, h.cq, h.cl, h.n0⟩
  have g := h.cl d hd x hx
  exact (h.lds d hd x hx).kept hk (nS _ (by omega) (by omega)) (nS _ (by omega) (by omega))
theorem ND.in2 (h : ND w0 w C K i zs N m) : ∀ x, In2 K.p K.q x → C x / 100 = i := fun x hx => by
  have e4 := h.cp; have e5 := h.cq
  rcases hx with rfl | rfl <;> omega
theorem ND.in3 (h : ND w0 w C K i zs N m) : ∀ x, In3 K.j K.p K.q x → C x / 100 = i := fun x hx => by
  have e3 := h.cj; have e4 := h.cp; have e5 := h.cq
  rcases hx with rfl | rfl | rfl <;> omega
theorem set6 {w : World} {g : Nat} {a b0 b1 b2 b3 b4 b5 : Value} {t : TypeId} (h : w.heap[g]? = some (.cells #[a, b0, b1, b2, b3, b4, b5] t (0, 0))) (x0 x1 x2 x3 x4 x5 : Value) :
    ((((((w.setCell ⟨g, 1, none⟩ x0).setCell ⟨g, 2, none⟩ x1).setCell ⟨g, 3, none⟩ x2).setCell ⟨g, 4, none⟩ x3).setCell ⟨g, 5, none⟩ x4).setCell ⟨g, 6, none⟩ x5).heap[g]? = some (.cells #[a, x0, x1, x2, x3, x4, x5] t (0, 0)) := by
  have h0 := heap_setCell_same w g 1 _ _ x0 h
  have h1 := heap_setCell_same _ g 2 _ _ x1 h0
  have h2 := heap_setCell_same _ g 3 _ _ x2 h1
  have h3 := heap_setCell_same _ g 4 _ _ x3 h2
  have h4 := heap_setCell_same _ g 5 _ _ x4 h3
  have h5 := heap_setCell_same _ g 6 _ _ x5 h4
  rw [h5]
  rfl
/-- Its leads are gone. -/
theorem ND.noLeads (h : ND w0 w C K i zs N m) (hl : N.l = -2) :
    ND w0 ((((((w.setCell ⟨K.nd, 1, none⟩ (.pointer none)).setCell ⟨K.nd, 2, none⟩ (.pointer none)).setCell ⟨K.nd, 3, none⟩ (.pointer none)).setCell ⟨K.nd, 4, none⟩ (.pointer none)).setCell ⟨K.nd, 5, none⟩ (.pointer none)).setCell ⟨K.nd, 6, none⟩ (.pointer none)) C K i zs (fallN N) m ∧
    Kept (fun x => C x / 100 = i) w ((((((w.setCell ⟨K.nd, 1, none⟩ (.pointer none)).setCell ⟨K.nd, 2, none⟩ (.pointer none)).setCell ⟨K.nd, 3, none⟩ (.pointer none)).setCell ⟨K.nd, 4, none⟩ (.pointer none)).setCell ⟨K.nd, 5, none⟩ (.pointer none)).setCell ⟨K.nd, 6, none⟩ (.pointer none)) := by
  have e1 := h.cs; have e2 := h.cj; have e3 := h.cm; have e4 := h.cp; have e5 := h.cq; have e6 := h.cn
  have hk : Kept (In1 K.nd) w ((((((w.setCell ⟨K.nd, 1, none⟩ (.pointer none)).setCell ⟨K.nd, 2, none⟩ (.pointer none)).setCell ⟨K.nd, 3, none⟩ (.pointer none)).setCell ⟨K.nd, 4, none⟩ (.pointer none)).setCell ⟨K.nd, 5, none⟩ (.pointer none)).setCell ⟨K.nd, 6, none⟩ (.pointer none)) :=
    ((((((Kept.refl _ w).set1 1 _).set1 2 _).set1 3 _).set1 4 _).set1 5 _).set1 6 _
  have nS : ∀ x, C x ≠ 100 * i + 1 → ¬ In1 K.nd x := fun x g hx => by rw [show x = K.nd from hx] at g; exact g e6
  have hlo : ∀ x, In1 K.nd x → w0.heap.size ≤ x := fun x hx => by rw [show x = K.nd from hx]; exact h.n0
  refine ⟨⟨set6 h.row _ _ _ _ _ _, ?_, fun d hd x hx => (by cases hx), h.cn, h.cs, h.cj, h.cm, h.cp, h.cq, fun d hd x hx => (by cases hx), h.n0⟩, hk.mono (fun x hx => by rw [show x = K.nd from hx]; show C K.nd / 100 = i; omega)⟩
  have := h.sp.far hk hlo (fun x hx => nS x (by rcases hx with rfl | rfl | rfl <;> omega)) (nS _ (by omega)) (nS _ (by omega))
  rw [hl] at this
  exact this
set_option maxRecDepth 100000 in
theorem fall_any (h : ND w0 w C K i zs N m) :
    Calls Tryz.prog 66 #[.pointer (some ⟨K.nd, 0, none⟩)] w fun e w' => e = .returned (.tuple #[]) ∧ ND w0 w' C K i zs (fallN N) m ∧ Kept (fun x => C x / 100 = i) w w' := by
  obtain ⟨c0, c1, c2⟩ := h.way
  have H := hid h
  clear h
  go_enter Tryz.func66, Tryz.ntmps66
  go_wp2_with fail
  refine (poff_any K.p K.q N.B N.l w H.out.sp.jp.pl).mono ?_
  rintro e w1 ⟨rfl, hp, hk⟩
  have HK := hid (hk.mono H.out.in2)
  have H1 := hid (H.out.power hk hp (by decide) (by decide))
  clear hp hk
  have d1 := H1.out.cell 1
  have d2 := H1.out.cell 2
  have d3 := H1.out.cell 3
  have d4 := H1.out.cell 4
  have d5 := H1.out.cell 5
  have d6 := H1.out.cell 6
  have z1 := H1.out.fz 1
  have z2 := H1.out.fz 2
  have z3 := H1.out.fz 3
  have z4 := H1.out.fz 4
  have z5 := H1.out.fz 5
  have z6 := H1.out.fz 6
  simp only [ndC, List.getElem?_cons_succ, List.getElem?_cons_zero] at d1 d2 d3 d4 d5 d6
  go_wp2_with fail
  go_end0
  obtain ⟨g1, g2⟩ := H1.out.noLeads rfl
  exact ⟨rfl, g1, HK.out.trans g2⟩
end
end Go.Proofs.YtdpemmmbkjmplabGreatDoor
namespace Go.Proofs.YtdpemmmbkjmplabGreatDoor
open Go.RowKit

section
variable {n m m' i : Nat} {zs : List Int} {N : PN} {V : PX}
theorem NI.mono (h : NI n N m) (hm : m ≤ m') : NI n N m' := ⟨h.gd, fun d hd => Nat.le_trans (h.nm d hd) hm, h.sz, h.up, h.l0, h.l1, h.ld⟩
theorem XI.mono (h : XI zs V m) (hm : m ≤ m') : XI zs V m' := ⟨h.he, fun i hi => (h.nd i hi).mono hm, h.fr, by have := h.fl; omega, h.ev⟩
theorem XI.node (h : XI zs V m) (hN : NI zs.length N m') (hm : m ≤ m') : XI zs (setNd V i N) m' := by
  refine ⟨h.he, fun k hk => ?_, h.fr, by have := h.fl; show V.fly.length ≤ _; omega, h.ev⟩
  show NI zs.length (if k = i then N else V.nd k) m'
  split
  · exact hN
  · exact (h.nd k hk).mono hm
theorem NI.fall (h : NI n N m) : NI n (fallN N) m := ⟨h.gd, h.nm, h.sz, fun g => (g rfl).elim, by show (-2 : Int) ≤ -2; omega, by show (-2 : Int) ≤ _; omega, fun d x hx => by cases hx⟩
theorem cL_on {l x : Int} (h : l ≠ -2) : cL l x ≠ -2 := by
  unfold cL
  rw [if_neg h]
  split <;> omega
theorem NI.cut {x : Int} (h : NI n N m) (hx : x ≤ 9223372036854775807) : NI n { N with l := cL N.l x } m := by
  have h0 := h.l0
  have h1 := h.l1
  refine ⟨h.gd, h.nm, h.sz, fun g => h.up (fun e => g ?_), ?_, ?_, fun d y hy => ?_⟩
  · show cL N.l x = -2
    unfold cL; rw [if_pos e]; split <;> exact e
  · show -2 ≤ cL N.l x
    unfold cL
    split
    · omega
    · split <;> omega
  · show cL N.l x ≤ _
    unfold cL
    split
    · omega
    · split <;> omega
  · have := h.ld d y hy
    exact ⟨cL_on this.1, this.2⟩
theorem NI.refuse {R : Nat → Bool} (h : NI n N m) : NI n { N with R := R } m := ⟨h.gd, h.nm, h.sz, h.up, h.l0, h.l1, h.ld⟩
end
section
variable {w0 w w' w'' : World} {C : Nat → Nat} {K : NB} {X : XB} {i m m' : Nat} {zs : List Int} {N : PN} {V V' : PX} {A : Nat → Addr}
theorem WD.mono (h : WD w0 w C X zs V m) (hm : m ≤ m') : WD w0 w C X zs V m' := by
  obtain ⟨D, hD, hh⟩ := h.brk
  exact ⟨h.bel, h.row, h.ws, h.ns, fun i hi => (h.nds i hi).mono hm, ⟨D, hD.mono hm, hh⟩, h.fly, h.evs, h.cx, h.cw, h.cn, h.cm, h.cf, h.ce, h.lt, h.low, h.inv.mono hm⟩
/-- Where a world and its sites' rows lie. -/
def key (X : XB) : Nat × (Nat → Nat) := (X.xb, fun e => (X.K e).nd)
theorem key_xb {X X' : XB} (h : key X' = key X) : X'.xb = X.xb := congrArg Prod.fst h
theorem key_nd {X X' : XB} (h : key X' = key X) (e : Nat) : (X'.K e).nd = (X.K e).nd := congrFun (congrArg Prod.snd h) e
theorem key_K {X : XB} {i : Nat} {K : NB} (h : K.nd = (X.K i).nd) : key { X with K := fun e => if e = i then K else X.K e } = key X := by
  unfold key
  refine Prod.ext rfl ?_
  funext e
  show (if e = i then K else X.K e).nd = (X.K e).nd
  split
  · rename_i g; rw [g]; exact h
  · rfl
/-- What a step leaves: a world, in blocks of its own. -/
def WOut (w0 w w' : World) (C : Nat → Nat) (X : XB) (zs : List Int) (V' : PX) (m' : Nat) : Prop :=
  ∃ C' X', WD w0 w' C' X' zs V' m' ∧ key X' = key X ∧ Kept (OwnX C) w w' ∧ ∀ x, x < w.heap.size → C' x = C x
theorem WD.out (h : WD w0 w C X zs V m) (hb : Below w.heap.size w w') (hm : m ≤ m') : WOut w0 w w' C X zs V m' :=
  ⟨C, X, (h.later hb).mono hm, rfl, Kept.of_below hb, fun _ _ => rfl⟩
/-- A node of it was written in place. -/
theorem WD.nodeOut (h : WD w0 w C X zs V m) (hi : i < zs.length) (k : Kept (fun x => C x / 100 = i) w w') (hN : ND w0 w' C (X.K i) i zs N m') (hm : m ≤ m') (hI : NI zs.length N m') : WOut w0 w w' C X zs (setNd V i N) m' := by
  have n7 := h.n7.2
  refine ⟨C, _, h.node k hi (fun x hx => hx) (fun _ _ => rfl) (fun x hx hc => by have := h.lt x hc; omega) hN rfl hm (h.inv.node hI hm), key_K rfl, k.mono (fun x hx => by show C x < 2000; omega), fun _ _ => rfl⟩
theorem WOut.later (h : WOut w0 w w' C X zs V m) (hb : Below w'.heap.size w' w'') : WOut w0 w w'' C X zs V m := by
  obtain ⟨C', X', h1, h2, h3, h4⟩ := h
  exact ⟨C', X', h1.later hb, h2, h3.trans (Kept.of_below hb), h4⟩
/-- A step behind a step. -/
theorem WOut.step {w1 w2 : World} {C1 : Nat → Nat} {X1 : XB} (hx : key X1 = key X) (hk : Kept (OwnX C) w w1) (hc : ∀ x, x < w.heap.size → C1 x = C x) (h2 : WOut w0 w1 w2 C1 X1 zs V' m') : WOut w0 w w2 C X zs V' m' := by
  obtain ⟨C', X', g1, g2, g3, g4⟩ := h2
  refine ⟨C', X', g1, g2.trans hx, ?_, fun x hx => (g4 x (Nat.lt_of_lt_of_le hx hk.size)).trans (hc x hx)⟩
  refine ⟨g3.os.trans hk.os, g3.tape.trans hk.tape, g3.output.trans hk.output, Nat.le_trans hk.size g3.size, fun y hy hn => ?_⟩
  refine (g3.block y (Nat.lt_of_lt_of_le hy hk.size) (fun e => hn ?_)).trans (hk.block y hy hn)
  show C y < 2000
  rw [← hc y hy]
  exact e
theorem OwnX_node {i : Nat} (hi : i ≤ 9) : ∀ x, C x / 100 = i → OwnX C x := fun x hx => by show C x < 2000; omega

/-- Is it a site? Is it up? -/
def cUp (n : Nat) (V : PX) (s : Int) : Nat := if 0 ≤ s ∧ s < n then (if upN (V.nd s.toNat) = true then 0 else 6) else 2
set_option maxRecDepth 100000 in
theorem down_any (s : Int) (c : Nat) (h : WD w0 w C X zs V m) (hE : Held9 w0 A) (hc : cUp zs.length V s = c) :
    Calls Tryz.prog 30 #[.pointer (some ⟨X.xb, 0, none⟩), .int .i64 s] w fun e w' => e = .returned (ev A c) ∧ WOut w0 w w' C X zs (if c = 0 then downX V s.toNat else V) (m + 1) := by
  have H := hid h
  have HE := hid hE
  have HE1 := hid (h.held hE)
  clear h hE
  subst hc
  by_cases hs : 0 ≤ s ∧ s < zs.length
  · obtain ⟨k, rfl⟩ := Int.eq_ofNat_of_zero_le hs.1
    have hk : k < zs.length := by omega
    have HK := hid hk
    obtain ⟨b, HB⟩ : ∃ b, Hid (((V.nd k).l != -2) = b) := ⟨_, rfl⟩
    have HU : Hid (upN (V.nd k) = b) := HB.out
    cases b with
    | true =>
      have e : cUp zs.length V k = 0 := by unfold cUp; rw [if_pos hs, Int.toNat_natCast, HU.out, if_pos rfl]
      rw [e]
      clear e hs hk
      go_enter Tryz.func30, Tryz.ntmps30
      go_wp2_with fail
      refine (find_ok k H.out HK.out).mono ?_
      rintro e w1 ⟨rfl, hx⟩
      subst w1
      go_wp2_with fail
      refine (powered_is true (H.out.nds k HK.out) HE1.out HB.out).mono ?_
      rintro e w1 ⟨rfl, hb⟩
      simp only [if_true]
      have H1 := hid (H.out.later hb)
      have HB1 := hid hb
      clear hb
      go_wp2_with fail
      refine (fall_any (H1.out.nds k HK.out)).mono ?_
      rintro e w2 ⟨rfl, hN, hk2⟩
      have HN := hid (And.intro hN hk2)
      clear hN hk2
      go_wp2_with fail
      go_ret
      refine ⟨rfl, ?_⟩
      exact WOut.step rfl (Kept.of_below HB1.out) (fun _ _ => rfl) (H1.out.nodeOut HK.out HN.out.2 (HN.out.1.mono (Nat.le_succ _)) (Nat.le_succ _) ((H1.out.inv.nd k HK.out).fall.mono (Nat.le_succ _)))
    | false =>
      have e : cUp zs.length V k = 6 := by unfold cUp; rw [if_pos hs, Int.toNat_natCast, HU.out, if_neg (by decide)]
      rw [e]
      clear e hs hk
      go_enter Tryz.func30, Tryz.ntmps30
      go_wp2_with fail
      refine (find_ok k H.out HK.out).mono ?_
      rintro e w1 ⟨rfl, hx⟩
      subst w1
      go_wp2_with fail
      refine (powered_is false (H.out.nds k HK.out) HE1.out HB.out).mono ?_
      rintro e w1 ⟨rfl, hb⟩
      rw [if_neg (by decide), if_neg (by decide)]
      have HB1 := hid hb
      clear hb
      go_wp2_with fail
      go_ret
      refine ⟨rfl, ?_⟩
      exact H.out.out HB1.out (Nat.le_succ _)
  · have e : cUp zs.length V s = 2 := by unfold cUp; rw [if_neg hs]
    rw [e]
    have HS := hid hs
    clear e hs
    go_enter Tryz.func30, Tryz.ntmps30
    go_wp2_with fail
    refine (find_no s H.out HE.out HS.out).mono ?_
    rintro e w1 ⟨rfl, hb⟩
    have HB1 := hid hb
    clear hb
    go_wp2_with fail
    refine (powered_err _ _).mono ?_
    rintro e w2 ⟨rfl, hx⟩
    subst w2
    go_wp2_with fail
    go_ret
    refine ⟨rfl, ?_⟩
    exact H.out.out HB1.out (Nat.le_succ _)
end
end Go.Proofs.YtdpemmmbkjmplabGreatDoor
namespace Go.Proofs.YtdpemmmbkjmplabGreatDoor
open Go.RowKit

section
variable {w0 w w' : World} {C : Nat → Nat} {K : NB} {X : XB} {i m m' : Nat} {zs : List Int} {N : PN} {V V' : PX} {A : Nat → Addr}
set_option maxRecDepth 100000 in
theorem is_no (s : Int) (h : WD w0 w C X zs V m) (hE : Held9 w0 A) (hs : ¬ (0 ≤ s ∧ s < zs.length)) :
    Calls Tryz.prog 173 #[.pointer (some ⟨X.xb, 0, none⟩), .int .i64 s] w fun e w' => e = .returned (.tuple #[.bool false, .iface 222 (.pointer (some (A 1)))]) ∧ Below w.heap.size w w' := by
  have H := hid h
  have HE := hid hE
  have HS := hid hs
  clear h hE hs
  go_enter Tryz.func173, Tryz.ntmps173
  go_wp2_with fail
  refine (find_no s H.out HE.out HS.out).mono ?_
  rintro e w1 ⟨rfl, hb⟩
  have HB := hid hb
  clear hb
  go_wp2_with fail
  go_ret2
  exact ⟨rfl, HB.out⟩
set_option maxRecDepth 100000 in
theorem is_ok (s : Nat) (h : WD w0 w C X zs V m) (hs : s < zs.length) :
    Calls Tryz.prog 173 #[.pointer (some ⟨X.xb, 0, none⟩), .int .i64 (s : Int)] w fun e w' => e = .returned (.tuple #[.bool (upN (V.nd s)), .nilIface]) ∧ w' = w := by
  have H := hid h
  have HS := hid hs
  obtain ⟨c0, c1, c2⟩ := (h.nds s hs).way
  obtain ⟨b, HB⟩ : ∃ b, Hid (((V.nd s).l != -2) = b) := ⟨_, rfl⟩
  rw [show upN (V.nd s) = b from HB.out]
  clear h hs
  go_enter Tryz.func173, Tryz.ntmps173
  go_wp2_with fail
  refine (find_ok s H.out HS.out).mono ?_
  rintro e w1 ⟨rfl, hx⟩
  subst w1
  go_wp2_with fail
  refine (power_any _ _ _ _ w (H.out.nds s HS.out).sp.jp.pl).mono ?_
  rintro e w1 ⟨rfl, hx⟩
  subst w1
  rw [HB.out]
  go_wp2_with fail
  go_ret2
  exact ⟨rfl, rfl⟩
/-- What is told of a lead. -/
def leadT (N : PN) (d : Nat) : ByteArray := match N.ld d with
  | none => ⟨#[110, 111, 110, 101]⟩
  | some x => stP x.2.stt
set_option maxRecDepth 100000 in
theorem lead_no (s d : Int) (h : WD w0 w C X zs V m) (hE : Held9 w0 A) (hs : ¬ ((0 ≤ s ∧ s < zs.length) ∧ 0 ≤ d ∧ d < 6)) :
    Calls Tryz.prog 18 #[.pointer (some ⟨X.xb, 0, none⟩), .int .i64 s, .int .i64 d] w fun e w' => e = .returned (.tuple #[.string ⟨#[]⟩, .iface 222 (.pointer (some (A 1)))]) ∧ Below w.heap.size w w' := by
  have H := hid h
  have HE := hid hE
  have HS := hid hs
  clear h hE hs
  go_enter Tryz.func18, Tryz.ntmps18
  go_wp2_with fail
  refine (findDeal_no s d H.out HE.out HS.out).mono ?_
  rintro e w1 ⟨rfl, hb⟩
  have HB := hid hb
  clear hb
  go_wp2_with fail
  go_ret2
  exact ⟨rfl, HB.out⟩
set_option maxRecDepth 100000 in
theorem lead_ok (s d : Nat) (h : WD w0 w C X zs V m) (hs : s < zs.length) (hd : d < 6) :
    Calls Tryz.prog 18 #[.pointer (some ⟨X.xb, 0, none⟩), .int .i64 (s : Int), .int .i64 (d : Int)] w fun e w' => e = .returned (.tuple #[.string (leadT (V.nd s) d), .nilIface]) ∧ w' = w := by
  have H := hid h
  have HS := hid hs
  have c3 := (h.nds s hs).lead hd
  clear h hs
  cases hl : (V.nd s).ld d with
  | none =>
    have e : leadT (V.nd s) d = ⟨#[110, 111, 110, 101]⟩ := by unfold leadT; rw [hl]
    rw [ldV_none hl] at c3
    rw [e]
    clear hl e
    go_enter Tryz.func18, Tryz.ntmps18
    go_wp2_with fail
    refine (findDeal_ok s d H.out HS.out hd).mono ?_
    rintro e w1 ⟨rfl, hx⟩
    subst w1
    go_wp2_with fail
    go_ret2
    exact ⟨rfl, rfl⟩
  | some x =>
    have e : leadT (V.nd s) d = stP x.2.stt := by unfold leadT; rw [hl]
    rw [ldV_some hl] at c3
    rw [e]
    have HL := hid ((H.out.nds s HS.out).lds d hd x hl)
    clear hl e
    go_enter Tryz.func18, Tryz.ntmps18
    go_wp2_with fail
    refine (findDeal_ok s d H.out HS.out hd).mono ?_
    rintro e w1 ⟨rfl, hx⟩
    subst w1
    go_wp2_with fail
    refine (ldState_any HL.out).mono ?_
    rintro e w1 ⟨rfl, hx⟩
    subst w1
    go_wp2_with fail
    go_ret2
    exact ⟨rfl, rfl⟩
/-- The answer to a Cut. -/
def cCut (n : Nat) (V : PX) (s x : Int) : Nat := if 0 ≤ s ∧ s < n then cC (V.nd s.toNat).l x else 2
set_option maxRecDepth 100000 in
theorem cut_any (s x : Int) (c : Nat) (h : WD w0 w C X zs V m) (hE : Held9 w0 A) (hx : x ≤ 9223372036854775807) (hc : cCut zs.length V s x = c) :
    Calls Tryz.prog 57 #[.pointer (some ⟨X.xb, 0, none⟩), .int .i64 s, .int .i64 x] w fun e w' => e = .returned (ev A c) ∧ WOut w0 w w' C X zs (if 0 ≤ s ∧ s < zs.length then cutX V s.toNat x else V) (m + 1) := by
  have H := hid h
  have HE := hid hE
  have HE1 := hid (h.held hE)
  have HC := hid hc
  clear h hE hc
  by_cases hs : 0 ≤ s ∧ s < zs.length
  · rw [if_pos hs]
    obtain ⟨k, rfl⟩ := Int.eq_ofNat_of_zero_le hs.1
    have hk : k < zs.length := by omega
    have HK := hid hk
    have HCC : Hid (cC (V.nd k).l x = c) := by rw [← HC.out]; unfold cCut; rw [if_pos hs, Int.toNat_natCast]; exact rfl
    have HX := hid hx
    obtain ⟨c0, c1, c2⟩ := (H.out.nds k hk).way
    clear hs hk hx HC
    rw [Int.toNat_natCast]
    obtain ⟨r, HR⟩ : ∃ r, Hid (ev A c = r) := ⟨_, rfl⟩
    rw [HR.out]
    go_enter Tryz.func57, Tryz.ntmps57
    go_wp2_with fail
    refine (find_ok k H.out HK.out).mono ?_
    rintro e w1 ⟨rfl, hx⟩
    subst w1
    go_wp2_with fail
    refine (cut_pl A _ _ _ _ x w (H.out.nds k HK.out).sp.jp.pl HE1.out.toE).mono ?_
    rintro e w1 ⟨rfl, hp, hk2⟩
    have HN := hid ((H.out.nds k HK.out).power hk2 hp ((H.out.inv.nd k HK.out).cut HX.out).l0 ((H.out.inv.nd k HK.out).cut HX.out).l1)
    have HK2 := hid (hk2.mono (H.out.nds k HK.out).in2)
    clear hp hk2
    rw [HCC.out, HR.out]
    go_wp2_with fail
    go_ret
    exact ⟨rfl, H.out.nodeOut HK.out HK2.out (HN.out.mono (Nat.le_succ _)) (Nat.le_succ _) (((H.out.inv.nd k HK.out).cut HX.out).mono (Nat.le_succ _))⟩
  · rw [if_neg hs]
    obtain rfl : c = 2 := by rw [← HC.out]; unfold cCut; rw [if_neg hs]
    have HS := hid hs
    clear hs
    go_enter Tryz.func57, Tryz.ntmps57
    go_wp2_with fail
    refine (find_no s H.out HE.out HS.out).mono ?_
    rintro e w1 ⟨rfl, hb⟩
    have HB1 := hid hb
    clear hb
    go_wp2_with fail
    go_ret
    exact ⟨rfl, H.out.out HB1.out (Nat.le_succ _)⟩
/-- A deal more is refused. -/
theorem ND.refuse {d : Nat} (h : ND w0 w C K i zs N m) (hs : SR w' K.s K.j K.mb i (updR N.R d) (m + 1)) (hk : Kept (In1 K.mb) w w') : ND w0 w' C K i zs { N with R := updR N.R d } (m + 1) := by
  have e1 := h.cs; have e2 := h.cj; have e3 := h.cm; have e4 := h.cp; have e5 := h.cq; have e6 := h.cn
  have nS : ∀ x, C x ≠ 100 * i + 4 → ¬ In1 K.mb x := fun x g hx => by rw [show x = K.mb from hx] at g; exact g e3
  have hlo : ∀ x, In1 K.mb x → w0.heap.size ≤ x := fun x hx => by rw [show x = K.mb from hx]; exact h.sp.m0
  refine ⟨hk.row h.row (nS _ (by omega)), ⟨h.sp.jp.far hk hlo (fun x hx => nS x (by rcases hx with rfl | rfl | rfl <;> omega)), hs, h.sp.ns, h.sp.nm, h.sp.sm, h.sp.s0, h.sp.m0⟩, fun d hd x hx => ?_, h.cn, h.cs, h.cj, h.cm, h.cp, h.cq, h.cl, h.n0⟩
  have g := h.cl d hd x hx
  exact (h.lds d hd x hx).kept hk (nS _ (by omega)) (nS _ (by omega))
/-- Its answer. -/
def cRef (n : Nat) (V : PX) (s d : Int) : Nat := if (0 ≤ s ∧ s < n) ∧ 0 ≤ d ∧ d < 6 then (if upN (V.nd s.toNat) = true then 0 else 6) else 2
set_option maxRecDepth 100000 in
theorem refuse_any (s d : Int) (c : Nat) (h : WD w0 w C X zs V m) (hE : Held9 w0 A) (hm : m ≤ 1000000) (hc : cRef zs.length V s d = c) :
    Calls Tryz.prog 13 #[.pointer (some ⟨X.xb, 0, none⟩), .int .i64 s, .int .i64 d] w fun e w' => e = .returned (ev A c) ∧ WOut w0 w w' C X zs (if c = 0 then refuseX V s.toNat d.toNat else V) (m + 1) := by
  have H := hid h
  have HE := hid hE
  have HE1 := hid (h.held hE)
  clear h hE
  subst hc
  by_cases hs : (0 ≤ s ∧ s < zs.length) ∧ 0 ≤ d ∧ d < 6
  · obtain ⟨k, rfl⟩ := Int.eq_ofNat_of_zero_le hs.1.1
    obtain ⟨dn, rfl⟩ := Int.eq_ofNat_of_zero_le hs.2.1
    have hk : k < zs.length := by omega
    have hd : dn < 6 := by omega
    have HK := hid hk
    obtain ⟨b, HB⟩ : ∃ b, Hid (((V.nd k).l != -2) = b) := ⟨_, rfl⟩
    have HU : Hid (upN (V.nd k) = b) := HB.out
    cases b with
    | true =>
      have e : cRef zs.length V k dn = 0 := by unfold cRef; rw [if_pos hs, Int.toNat_natCast, HU.out, if_pos rfl]
      rw [e]
      clear e hs hk
      go_enter Tryz.func13, Tryz.ntmps13
      go_wp2_with fail
      refine (findDeal_ok k dn H.out HK.out hd).mono ?_
      rintro e w1 ⟨rfl, hx⟩
      subst w1
      go_wp2_with fail
      refine (powered_is true (H.out.nds k HK.out) HE1.out HB.out).mono ?_
      rintro e w1 ⟨rfl, hb⟩
      simp only [if_true]
      have H1 := hid (H.out.later hb)
      have HB1 := hid hb
      have c0 := (H1.out.nds k HK.out).site
      clear hb
      go_wp2_with fail
      refine (srefuse_ok dn (H1.out.nds k HK.out).sp.jp.jr (H1.out.nds k HK.out).sp.sr hd hm).mono ?_
      rintro e w2 ⟨rfl, hs2, hk2, -⟩
      have HN := hid ((H1.out.nds k HK.out).refuse hs2 hk2)
      have HK2 : Hid (Kept (fun x => C x / 100 = k) w1 w2) := hk2.mono (fun x hx => by rw [show x = _ from hx]; have := (H1.out.nds k HK.out).cm; show _ / 100 = k; omega)
      clear hs2 hk2
      go_wp2_with fail
      go_ret
      refine ⟨rfl, ?_⟩
      exact WOut.step rfl (Kept.of_below HB1.out) (fun _ _ => rfl) (H1.out.nodeOut HK.out HK2.out HN.out (Nat.le_succ _) ((H1.out.inv.nd k HK.out).refuse.mono (Nat.le_succ _)))
    | false =>
      have e : cRef zs.length V k dn = 6 := by unfold cRef; rw [if_pos hs, Int.toNat_natCast, HU.out, if_neg (by decide)]
      rw [e]
      clear e hs hk
      go_enter Tryz.func13, Tryz.ntmps13
      go_wp2_with fail
      refine (findDeal_ok k dn H.out HK.out hd).mono ?_
      rintro e w1 ⟨rfl, hx⟩
      subst w1
      go_wp2_with fail
      refine (powered_is false (H.out.nds k HK.out) HE1.out HB.out).mono ?_
      rintro e w1 ⟨rfl, hb⟩
      rw [if_neg (by decide), if_neg (by decide)]
      have HB1 := hid hb
      clear hb
      go_wp2_with fail
      go_ret
      exact ⟨rfl, H.out.out HB1.out (Nat.le_succ _)⟩
  · have e : cRef zs.length V s d = 2 := by unfold cRef; rw [if_neg hs]
    rw [e]
    have HS := hid hs
    clear e hs
    go_enter Tryz.func13, Tryz.ntmps13
    go_wp2_with fail
    refine (findDeal_no s d H.out HE.out HS.out).mono ?_
    rintro e w1 ⟨rfl, hb⟩
    have HB1 := hid hb
    clear hb
    go_wp2_with fail
    refine (powered_err _ _).mono ?_
    rintro e w2 ⟨rfl, hx⟩
    subst w2
    go_wp2_with fail
    go_ret
    exact ⟨rfl, H.out.out HB1.out (Nat.le_succ _)⟩
end
end Go.Proofs.YtdpemmmbkjmplabGreatDoor
namespace Go.Proofs.YtdpemmmbkjmplabGreatDoor
open Go.RowKit

theorem FL.cells {w : World} {a : Addr} {L : List F9} (h : FL w (some a) L) (j : Nat) (u : Value) (hu : (frCells L)[j]? = some u) : w.cell? (a.add j) = some u := by
  have hl := (List.getElem?_eq_some_iff.1 hu).1
  rw [frCells_length] at hl
  have hi : j / 9 < L.length := by omega
  obtain ⟨b, off, e, hc⟩ := h (j / 9) hi
  have h9 := hc (j % 9) (by omega)
  obtain rfl : a = ⟨b, off, none⟩ := Option.some.inj e
  rw [addr_add]
  have e2 : off + j / 9 * 9 + j % 9 = off + j := by omega
  rw [e2] at h9
  rw [h9, ← hu]
  have := frCells_get L (j / 9) (j % 9) hi (by omega)
  rw [show j / 9 * 9 + j % 9 = j by omega] at this
  exact this.symm
/-- append(v, u...), v owned, u frames wherever. -/
theorem run_append_frs (w : World) (ty : TypeId) (base n : Nat) (v u : Value) (xs : List Value) (L : List F9) (hown : w.ownsRow base 93 9 v n xs) (hu : IsFr w u L) (hn : n + L.length ≤ 1000000000000) (hb : base ≤ w.heap.size) :
    ∃ v' w', (Builtin.append_ #[34, 34] ty #[v, u]).run Tryz.prog w = .ok v' w' ∧ w'.ownsRow base 93 9 v' (n + L.length) (xs ++ frCells L) ∧ w.grownBy w' v.ownBlock ∧ (v'.ownBlock = v.ownBlock ∨ v'.ownBlock = some w.heap.size) := by
  obtain ⟨i0, hi0, hz0, hz1, hz2⟩ := info_parts Tryz.infoFq
  obtain ⟨ad, cap, rfl, hf⟩ := hu
  cases ad with
  | none =>
    have hL : L = [] := by
      cases L with
      | nil => rfl
      | cons x r => obtain ⟨b, off, e, -⟩ := hf 0 (by simp); cases e
    subst hL
    refine ⟨v, w, ?_, by simpa [frCells] using hown, ⟨rfl, rfl, rfl, Nat.le_refl _, fun _ _ _ => rfl⟩, .inl rfl⟩
    rcases hown.2 with ⟨rfl, rfl⟩ | ⟨g, c, cur, rfl, _, _, hnc, _⟩
    · simp [Builtin.append_, run_underlying Tryz.underlying34, Go.sizeOf, typeInfo, hi0, Builtin.lenOf, Builtin.firstCells]
    · simp [Builtin.append_, run_underlying Tryz.underlying34, Go.sizeOf, typeInfo, hi0, Builtin.lenOf, Builtin.firstCells, hnc, storeCells]
  | some a =>
    obtain ⟨v', w', h1, h2, h3, -, h5⟩ := run_append_own_at (P := Tryz.prog) w base 34 ty 93 i0 _ 9 72 Tryz.underlying34 hi0 hz0 hz1 hz2 rfl (by decide) v n xs hown a L.length cap (frCells L) (frCells_length L) hf.cells (frCells_one L) (by unfold maxLen; omega) (by omega) hb
    exact ⟨v', w', h1, h2, h3, h5⟩
theorem wpList_append_frs {w : World} {ops : Array Oper} {rest : List Oper} {o : Oper} {a : Act} {Q : Exit → Act → World → Prop} (hgd : o.guard = none) (s x : Operand)
    (ho : o.op = .call { callee := .builtin .append, args := #[s, x], argTypes := #[34, 34] })
    (base n : Nat) (v u : Value) (xs : List Value) (L : List F9) (hs : a.eval s = v) (hx : a.eval x = u) (hown : w.ownsRow base 93 9 v n xs) (hu : IsFr w u L) (hn : n + L.length ≤ 1000000000000) (hb : base ≤ w.heap.size)
    (h : ∀ ad' cap' w', w'.ownsRow base 93 9 (.slice ad' (n + L.length) cap') (n + L.length) (xs ++ frCells L) → w.grownBy w' v.ownBlock → ((Value.slice ad' (n + L.length) cap').ownBlock = v.ownBlock ∨ (Value.slice ad' (n + L.length) cap').ownBlock = some w.heap.size) → wpList Tryz.prog ops Q rest (a.put o.dst (.slice ad' (n + L.length) cap')) w') :
    wpList Tryz.prog ops Q (o :: rest) a w := by
  refine wpList_plain hgd fun K hK => ?_
  obtain ⟨v', w', hr, h2, h3, h5⟩ := run_append_frs w o.type base n v u xs L hown hu hn hb
  unfold Oper.wp execOp
  simp only [ho, resolve, invoke, builtin, Sem.run_bind, Sem.run_pure, Result.andThen_ok, List.map_toArray, List.map_cons, List.map_nil, hs, hx, hr]
  obtain ⟨ad', cap', rfl⟩ : ∃ ad' cap', v' = .slice ad' (n + L.length) cap' := by
    rcases h2.2 with ⟨e, h0⟩ | ⟨g, cap, cur, e, -⟩
    · exact ⟨none, 0, by rw [e, h0]⟩
    · exact ⟨_, _, e⟩
  exact hK _ _ (h ad' cap' w' h2 h3 h5)
theorem run_append_frsF (w : World) (ty : TypeId) (base : Nat) (v u : Value) (M L : List F9) (hown : OwnF w base v M) (hu : IsFr w u L) (hn : M.length + L.length ≤ 1000000000000) (hb : base ≤ w.heap.size) :
    ∃ v' w', (Builtin.append_ #[34, 34] ty #[v, u]).run Tryz.prog w = .ok v' w' ∧ OwnF w' base v' (M ++ L) ∧ w.grownBy w' v.ownBlock ∧ (v'.ownBlock = v.ownBlock ∨ v'.ownBlock = some w.heap.size) := by
  obtain ⟨i0, hi0, hz0, hz1, hz2⟩ := info_parts Tryz.infoFq
  rcases hown with ⟨rfl, rfl⟩ | ⟨g, o, cap, cur, rfl, hbg, hg, hle, hcap, hsz, hc⟩
  · obtain ⟨v', w', h1, h2, h3, h4⟩ := run_append_frs w ty base 0 (.slice none 0 0) u [] L (World.ownsRow_nil _ _ _ _) hu (by simpa using hn) hb
    rw [Nat.zero_add, List.nil_append] at h2
    exact ⟨v', w', h1, OwnF.of_own h2, h3, h4⟩
  · obtain ⟨ad, c, rfl, hf⟩ := hu
    cases ad with
    | none =>
      have hL : L = [] := by
        cases L with
        | nil => rfl
        | cons x r => obtain ⟨b, off, e, -⟩ := hf 0 (by simp); cases e
      subst hL
      refine ⟨.slice (some ⟨g, o, none⟩) M.length cap, w, ?_, by rw [List.append_nil]; exact .inr ⟨g, o, cap, cur, rfl, hbg, hg, hle, hcap, hsz, hc⟩, ⟨rfl, rfl, rfl, Nat.le_refl _, fun _ _ _ => rfl⟩, .inl rfl⟩
      simp [Builtin.append_, run_underlying Tryz.underlying34, Go.sizeOf, typeInfo, hi0, Builtin.lenOf, Builtin.firstCells, hle, storeCells]
    | some a =>
      have hl := frCells_length L
      by_cases hroom : M.length + L.length ≤ cap
      · have hm9 := Nat.mul_le_mul_right 9 hroom
        rw [Nat.add_mul] at hm9
        have hr := run_append_room_cells (P := Tryz.prog) w 34 ty 93 i0 Tryz.underlying34 hi0 g o M.length cap a L.length c (frCells L) (by rw [hz1]; exact hl) hf.cells (frCells_one L) hroom
          (fun j hj => by rw [hl] at hj; rw [hz1, cell_of_row _ _ _ _ _ _ hg, Array.getElem?_eq_getElem (by omega)]; rfl) (fun j _ => frozen_of_row _ _ _ _ _ hg)
        rw [hz1] at hr
        have hk := kept_setCells g (frCells L) (o + M.length * 9) w
        exact ⟨_, _, hr, OwnF.splice hbg hg hroom hcap hsz hc, ⟨hk.os, hk.tape, hk.output, hk.size, fun k h1 h2 => hk.block k h1 (fun e => h2 (by rw [show k = g from e]; rfl))⟩, .inl rfl⟩
      · have holds : ∀ j u, (frCells M)[j]? = some u → w.cell? ((⟨g, o, none⟩ : Addr).add j) = some u := fun j u hj => by
          have h1 := (List.getElem?_eq_some_iff.1 hj).1
          rw [frCells_length] at h1
          rw [addr_add, cell_of_row _ _ _ _ _ _ hg, hc j h1, hj]
        have hbytes : (M.length + L.length) * 72 ≤ 140737488355328 := by omega
        have hr := run_append_grow (P := Tryz.prog) w 34 ty 93 i0 _ Tryz.underlying34 hi0 hz0 ⟨g, o, none⟩ M.length cap (frCells M) (by rw [hz1]; exact frCells_length M) holds a L.length c (frCells L) (by rw [hz1]; exact hl) hf.cells (by omega) (by omega) (by rw [hz2]; exact growslice_fits (by omega) hbytes)
        refine ⟨_, _, hr, .inr ⟨w.heap.size, 0, grownCap w (M.length + L.length) cap 93, _, by rw [List.length_append], hb, heap_alloc_new w.drew _, by rw [List.length_append]; exact grownCap_ge w _ _ _, grownCap_le_maxLen w _ _ _ (by unfold maxLen; omega), ?_, fun j hj => ?_⟩, ⟨rfl, rfl, rfl, by simp, fun k hk _ => Below.heap_alloc w.drew _ _ hk⟩, .inr rfl⟩
        · have hge := grownCap_ge w (M.length + L.length) cap 93
          simp only [Array.size_append, List.size_toArray, size_zeroCells, frCells_length]
          have h9 : (frV 0 0 0 0 0 false 0 0 0).cells.size = 9 := rfl
          first | rw [h9] | skip
          rw [Nat.zero_add, ← Nat.add_mul, ← Nat.add_mul]
          refine Nat.mul_le_mul_right 9 ?_
          omega
        · rw [List.length_append, Nat.add_mul] at hj
          have hls : ((frCells M).toArray ++ (frCells L).toArray).size = M.length * 9 + L.length * 9 := by simp only [Array.size_append, List.size_toArray, frCells_length]
          rw [Nat.zero_add, Array.getElem?_append_left (by rw [hls]; exact hj), frCells_append, ← Array.getElem?_toList]
          simp
theorem wpList_append_frsF {w : World} {ops : Array Oper} {rest : List Oper} {o : Oper} {a : Act} {Q : Exit → Act → World → Prop} (hgd : o.guard = none) (s x : Operand)
    (ho : o.op = .call { callee := .builtin .append, args := #[s, x], argTypes := #[34, 34] })
    (base : Nat) (v u : Value) (M L : List F9) (hs : a.eval s = v) (hx : a.eval x = u) (hown : OwnF w base v M) (hu : IsFr w u L) (hn : M.length + L.length ≤ 1000000000000) (hb : base ≤ w.heap.size)
    (h : ∀ ad' cap' w', OwnF w' base (.slice ad' (M.length + L.length) cap') (M ++ L) → w.grownBy w' v.ownBlock → ((Value.slice ad' (M.length + L.length) cap').ownBlock = v.ownBlock ∨ (Value.slice ad' (M.length + L.length) cap').ownBlock = some w.heap.size) → wpList Tryz.prog ops Q rest (a.put o.dst (.slice ad' (M.length + L.length) cap')) w') :
    wpList Tryz.prog ops Q (o :: rest) a w := by
  refine wpList_plain hgd fun K hK => ?_
  obtain ⟨v', w', hr, h2, h3, h5⟩ := run_append_frsF w o.type base v u M L hown hu hn hb
  unfold Oper.wp execOp
  simp only [ho, resolve, invoke, builtin, Sem.run_bind, Sem.run_pure, Result.andThen_ok, List.map_toArray, List.map_cons, List.map_nil, hs, hx, hr]
  obtain ⟨ad', cap', rfl⟩ : ∃ ad' cap', v' = .slice ad' (M.length + L.length) cap' := by rw [← List.length_append]; exact h2.form
  exact hK _ _ (h ad' cap' w' h2 h3 h5)
theorem grown_kept {w w' : World} {row : Option Nat} (h : w.grownBy w' row) : Kept (fun x => row = some x) w w' := ⟨h.os, h.tape, h.output, h.size, fun k hk hs => h.block k hk (fun e => hs e.symm)⟩
theorem own_lt {w : World} {e : TypeId} {size n base : Nat} {v : Value} {xs : List Value} (h : w.ownsRow base e size v n xs) {g : Nat} (hg : v.ownBlock = some g) : g < w.heap.size := (h.lt g hg).2
section
variable {w0 w w' : World} {C : Nat → Nat} {X : XB} {m : Nat} {zs : List Int} {V : PX} {A : Nat → Addr}
theorem XI.send {L : List F9} (h : XI zs V m) (hL : ∀ f, f ∈ L → FI zs.length f) (hl : L.length ≤ 1000) : XI zs (sendX V L) (m + 1) := by
  refine ⟨h.he, fun i hi => ?_, fun f hf => ?_, ?_, h.ev⟩
  · have := h.nd i hi
    exact ⟨this.gd, fun d hd => Nat.le_succ_of_le (this.nm d hd), this.sz, this.up, this.l0, this.l1, this.ld⟩
  · rcases List.mem_append.1 hf with g | g
    · exact h.fr f g
    · exact hL f g
  · have := h.fl
    show (V.fly ++ L).length ≤ _
    rw [List.length_append]; omega
/-- The frames were appended and stored. -/
theorem WD.sent {L : List F9} {v' : Value} (h : WD w0 w C X zs V m) (hown : OwnF w' w0.heap.size v' (V.fly ++ L)) (hg : w.grownBy w' X.fv.ownBlock) (ho : v'.ownBlock = X.fv.ownBlock ∨ v'.ownBlock = some w.heap.size) (hL : ∀ f, f ∈ L → FI zs.length f) (hl : L.length ≤ 1000) :
    ∃ C', WD w0 (w'.setCell ⟨X.xb, 3, none⟩ v') C' { X with fv := v' } zs (sendX V L) (m + 1) ∧ Kept (OwnX C) w (w'.setCell ⟨X.xb, 3, none⟩ v') ∧ ∀ x, x < w.heap.size → C' x = C x := by
  have hk := grown_kept hg
  have hx := row_ltJ h.row
  have hcx := h.cx
  have hrow : w'.heap[X.xb]? = some (.cells (wdC X zs.length).toArray 73 (0, 0)) := hk.row h.row (fun e => by have := h.cf _ e; omega)
  have hkk : Kept (OwnX C) w (w'.setCell ⟨X.xb, 3, none⟩ v') := (hk.mono (fun x hx => by show C x < 2000; have := h.cf x hx; omega)).setCell (show C X.xb < 2000 by omega) v'
  have hr2 : (w'.setCell ⟨X.xb, 3, none⟩ v').heap[X.xb]? = some (.cells (wdC { X with fv := v', ev := X.ev } zs.length).toArray 73 (0, 0)) := by
    rw [heap_setCell_same w' X.xb 3 _ _ _ hrow]; rfl
  have hf : OwnF (w'.setCell ⟨X.xb, 3, none⟩ v') w0.heap.size v' (V.fly ++ L) := by
    refine hown.kept ((Kept.refl (In1 X.xb) w').set1 3 v') (fun g hgg e => ?_)
    rcases ho with o | o
    · rw [hgg] at o
      have := h.cf g o.symm
      rw [show g = X.xb from e] at this; omega
    · rw [hgg] at o
      have := Option.some.inj o
      rw [show g = X.xb from e] at this; omega
  have he : (w'.setCell ⟨X.xb, 3, none⟩ v').ownsRow w0.heap.size 101 3 X.ev V.evs.length (evCells V.evs) :=
    own_kept h.evs ((hk.mono (fun x hx => .inr hx)).setCell (S := fun x => x = X.xb ∨ X.fv.ownBlock = some x) (.inl rfl) v') (fun g hg e => by
      have h6 := h.ce g hg
      rcases e with rfl | e
      · omega
      · have := h.cf g e; omega)
  have hS : ∀ x, (x = X.xb ∨ X.fv.ownBlock = some x) → C x = 1001 ∨ C x = 1005 ∨ C x = 1006 := fun x hx => by
    rcases hx with rfl | hx
    · exact .inl h.cx
    · exact .inr (.inl (h.cf x hx))
  have hK2 : Kept (fun x => x = X.xb ∨ X.fv.ownBlock = some x) w (w'.setCell ⟨X.xb, 3, none⟩ v') := (hk.mono (fun x hx => .inr hx)).setCell (.inl rfl) v'
  rcases ho with o | o
  · refine ⟨C, ?_, hkk, fun _ _ => rfl⟩
    exact h.own (fv := v') (ev := X.ev) (F := V.fly ++ L) (E := V.evs) hK2 hS (fun _ _ => rfl) (fun x hx hc => by have := h.lt x hc; omega) hr2 hf he (fun g hgg => h.cf g (by rw [← o]; exact hgg)) h.ce (Nat.le_succ _) (h.inv.send hL hl)
  · have hlt : w.heap.size < w'.heap.size := (hown.lt _ o).2
    have hC : ∀ x, x < w.heap.size → paint C w.heap.size 1005 x = C x := fun x hx => paint_ne (by omega)
    refine ⟨paint C w.heap.size 1005, ?_, hkk, hC⟩
    refine h.own (fv := v') (ev := X.ev) (F := V.fly ++ L) (E := V.evs) hK2 hS hC (fun x hx hc => ?_) hr2 hf he (fun g hgg => ?_) (fun g hgg => ?_) (Nat.le_succ _) (h.inv.send hL hl)
    · by_cases e : x = w.heap.size
      · rw [e]; simpa using hlt
      · rw [paint_ne e] at hc
        have := h.lt x hc; omega
    · rw [o] at hgg
      obtain rfl := Option.some.inj hgg
      exact paint_at _ _ _
    · have := own_lt h.evs hgg
      rw [hC g this]
      exact h.ce g hgg
set_option maxRecDepth 100000 in
theorem send_any (v : Value) (L : List F9) (h : WD w0 w C X zs V m) (hv : IsFr w v L) (hL : ∀ f, f ∈ L → FI zs.length f) (hl : L.length ≤ 1000) (hm : m ≤ 100000000) :
    Calls Tryz.prog 45 #[.pointer (some ⟨X.xb, 0, none⟩), v] w fun e w' => e = .returned (.tuple #[]) ∧ ∃ C' v', WD w0 w' C' { X with fv := v' } zs (sendX V L) (m + 1) ∧ Kept (OwnX C) w w' ∧ ∀ x, x < w.heap.size → C' x = C x := by
  obtain ⟨-, -, -, c3, -⟩ := h.cells
  have z3 := h.fz 3
  have H := hid h
  have HV := hid hv
  have HL := hid hL
  have hfl : V.fly.length + L.length ≤ 1000000000000 := by have := h.inv.fl; omega
  have HO := hid h.fly
  have hbs := h.bel.size
  have hb := row_ltJ h.row
  have HX : Hid (∀ w', w.grownBy w' X.fv.ownBlock → w'.cell? ⟨X.xb, 3, none⟩ = some X.fv ∧ w'.frozen? ⟨X.xb, 3, none⟩ = false) := by
    intro w' hg
    have hr := (grown_kept hg).row h.row (fun e => by have h1 := h.cf _ e; have h2 := h.cx; omega)
    exact ⟨by rw [cell_of_row _ _ _ _ _ _ hr]; rfl, frozen_of_row _ _ _ _ _ hr⟩
  generalize hfv : X.fv = fv at c3 HO
  have HFV := hid hfv
  clear h hv hL hfv
  go_enter Tryz.func45, Tryz.ntmps45
  go_wp2_with (at_builtin; refine wpList_append_frsF rfl _ _ rfl w0.heap.size _ v V.fly L rfl rfl HO.out HV.out hfl hbs ?_; intro ad' cap' w' hown hg ho; obtain ⟨c3', z3'⟩ := HX.out w' (by rw [HFV.out]; exact hg); have HS := hid (And.intro hown (And.intro hg ho)); clear hown hg ho)
  go_end0
  rw [← HFV.out] at HS
  obtain ⟨C', h1, h2, h3⟩ := H.out.sent HS.out.1 HS.out.2.1 HS.out.2.2 HL.out hl
  exact ⟨rfl, C', _, h1, h2, h3⟩
end
end Go.Proofs.YtdpemmmbkjmplabGreatDoor
namespace Go.Proofs.YtdpemmmbkjmplabGreatDoor
open Go.RowKit

theorem Tryz.infoEv : (Tryz.prog.info? 101).map (fun i => (i.zero, i.size, i.bytes)) = some (some (.agg #[.int .i64 0, .int .i64 0, .int .i64 0]), 3, 24) := by kernel_rfl
theorem evCells_length (L : List E3) : (evCells L).length = L.length * 3 := by
  unfold evCells
  induction L with
  | nil => rfl
  | cons x r ih => rw [List.flatMap_cons, List.length_append, ih]; simp [e3L]; omega
theorem e3_one (x : E3) : ∀ u ∈ e3L x, u.oneCell' = true := by
  intro u hu
  simp [e3L] at hu
  rcases hu with rfl | rfl | rfl <;> rfl
theorem known_ag {w : World} {s j mb p n : Nat} {id : Int} {R : Nat → Bool} {E : Nat → Nat × St} {over : Bool} (d h1 h2 h3 : Nat) (hj : JR w j p E over) (h : SR w s j mb id R n) (hd : d < 6) (hs : (E d).2 = ⟨h1, h2, h3⟩) :
    Calls Tryz.prog 71 #[.pointer (some ⟨s, 0, none⟩), .int .i64 (d : Int)] w fun e w' => e = .returned (.agg #[.int .i64 (h1 : Int), .int .i64 (h2 : Int), .int .i64 (h3 : Int)]) ∧ Below w.heap.size w w' := known_is d h1 h2 h3 hj h hd hs
set_option maxRecDepth 100000 in
theorem phase_of (a b c : Value) (w : World) : (Instr.field 43 (.agg #[a, b, c]) 0).run Tryz.prog w = .ok a w := by
  first | rfl | go_simp | kernel_rfl
theorem wpList_append_ev {w : World} {ops : Array Oper} {rest : List Oper} {o : Oper} {a : Act} {Q : Exit → Act → World → Prop} (hgd : o.guard = none) (s x : Operand)
    (ho : o.op = .call { callee := .builtin .append, args := #[s, x], argTypes := #[45, 45] })
    (base n : Nat) (v : Value) (ad : Addr) (c : Nat) (xs : List Value) (e : E3) (hs : a.eval s = v) (hx : a.eval x = .slice (some ad) 1 c) (hown : w.ownsRow base 101 3 v n xs) (hu : ∀ j u, (e3L e)[j]? = some u → w.cell? (ad.add j) = some u) (hn : n ≤ 1000000000000) (hb : base ≤ w.heap.size)
    (h : ∀ ad' cap' w', w'.ownsRow base 101 3 (.slice ad' (n + 1) cap') (n + 1) (xs ++ e3L e) → w.grownBy w' v.ownBlock → ((Value.slice ad' (n + 1) cap').ownBlock = v.ownBlock ∨ (Value.slice ad' (n + 1) cap').ownBlock = some w.heap.size) → wpList Tryz.prog ops Q rest (a.put o.dst (.slice ad' (n + 1) cap')) w') :
    wpList Tryz.prog ops Q (o :: rest) a w := by
  obtain ⟨i0, hi0, hz0, hz1, hz2⟩ := info_parts Tryz.infoEv
  refine wpList_append_own_at w hgd s x 45 ho base 101 i0 _ 3 24 Tryz.underlying45 hi0 hz0 hz1 hz2 rfl (by decide) v n xs hs hown ad 1 c (e3L e) hx rfl hu (e3_one e) (by unfold maxLen; omega) (by omega) hb ?_
  intro v' w' h2 h3 _ h5
  obtain ⟨ad', cap', rfl⟩ : ∃ ad' cap', v' = .slice ad' (n + 1) cap' := by
    rcases h2.2 with ⟨e, h0⟩ | ⟨g, cap, cur, e, -⟩
    · exact ⟨none, 0, by rw [e, h0]⟩
    · exact ⟨_, _, e⟩
  exact h ad' cap' w' h2 h3 h5
section
variable {w0 w w' : World} {C : Nat → Nat} {X : XB} {m : Nat} {zs : List Int} {V : PX} {A : Nat → Addr}
theorem XI.noted {e : E3} (h : XI zs V m) (hl : V.evs.length < 500) : XI zs { V with evs := V.evs ++ [e] } (m + 1) :=
  ⟨h.he, fun i hi => (h.nd i hi).mono (Nat.le_succ _), h.fr, by have := h.fl; show V.fly.length ≤ _; omega, by show (V.evs ++ [e]).length ≤ 500; rw [List.length_append]; exact hl⟩
/-- The event was appended and stored. -/
theorem WD.noted {e : E3} {v' : Value} (h : WD w0 w C X zs V m) (hown : w'.ownsRow w0.heap.size 101 3 v' (V.evs.length + 1) (evCells V.evs ++ e3L e)) (hg : w.grownBy w' X.ev.ownBlock) (ho : v'.ownBlock = X.ev.ownBlock ∨ v'.ownBlock = some w.heap.size) (hl : V.evs.length < 500) :
    WOut w0 w (w'.setCell ⟨X.xb, 4, none⟩ v') C X zs { V with evs := V.evs ++ [e] } (m + 1) := by
  have hk := grown_kept hg
  have hx := row_ltJ h.row
  have hcx := h.cx
  have hrow : w'.heap[X.xb]? = some (.cells (wdC X zs.length).toArray 73 (0, 0)) := hk.row h.row (fun e => by have := h.ce _ e; omega)
  have hkk : Kept (OwnX C) w (w'.setCell ⟨X.xb, 4, none⟩ v') := (hk.mono (fun x hx => by show C x < 2000; have := h.ce x hx; omega)).setCell (show C X.xb < 2000 by omega) v'
  have hr2 : (w'.setCell ⟨X.xb, 4, none⟩ v').heap[X.xb]? = some (.cells (wdC { X with fv := X.fv, ev := v' } zs.length).toArray 73 (0, 0)) := by
    rw [heap_setCell_same w' X.xb 4 _ _ _ hrow]; rfl
  have hf : (w'.setCell ⟨X.xb, 4, none⟩ v').ownsRow w0.heap.size 101 3 v' (V.evs ++ [e]).length (evCells (V.evs ++ [e])) := by
    rw [List.length_append, show evCells (V.evs ++ [e]) = evCells V.evs ++ e3L e by simp [evCells]]
    refine own_kept hown ((Kept.refl (In1 X.xb) w').set1 4 v') (fun g hgg e => ?_)
    rcases ho with o | o
    · rw [hgg] at o
      have := h.ce g o.symm
      rw [show g = X.xb from e] at this; omega
    · rw [hgg] at o
      have := Option.some.inj o
      rw [show g = X.xb from e] at this; omega
  have hK2 : Kept (fun x => x = X.xb ∨ X.ev.ownBlock = some x) w (w'.setCell ⟨X.xb, 4, none⟩ v') := (hk.mono (fun x hx => .inr hx)).setCell (.inl rfl) v'
  have he : OwnF (w'.setCell ⟨X.xb, 4, none⟩ v') w0.heap.size X.fv V.fly :=
    h.fly.kept hK2 (fun g hg e => by
      have h6 := h.cf g hg
      rcases e with rfl | e
      · omega
      · have := h.ce g e; omega)
  have hS : ∀ x, (x = X.xb ∨ X.ev.ownBlock = some x) → C x = 1001 ∨ C x = 1005 ∨ C x = 1006 := fun x hx => by
    rcases hx with rfl | hx
    · exact .inl h.cx
    · exact .inr (.inr (h.ce x hx))
  rcases ho with o | o
  · refine ⟨C, { X with ev := v' }, ?_, rfl, hkk, fun _ _ => rfl⟩
    exact h.own (fv := X.fv) (ev := v') (F := V.fly) (E := V.evs ++ [e]) hK2 hS (fun _ _ => rfl) (fun x hx hc => by have := h.lt x hc; omega) hr2 he hf h.cf (fun g hgg => h.ce g (by rw [← o]; exact hgg)) (Nat.le_succ _) (h.inv.noted hl)
  · have hlt : w.heap.size < w'.heap.size := own_lt hown o
    have hC : ∀ x, x < w.heap.size → paint C w.heap.size 1006 x = C x := fun x hx => paint_ne (by omega)
    refine ⟨paint C w.heap.size 1006, { X with ev := v' }, ?_, rfl, hkk, hC⟩
    refine h.own (fv := X.fv) (ev := v') (F := V.fly) (E := V.evs ++ [e]) hK2 hS hC (fun x hx hc => ?_) hr2 he hf (fun g hgg => ?_) (fun g hgg => ?_) (Nat.le_succ _) (h.inv.noted hl)
    · by_cases e : x = w.heap.size
      · rw [e]; simpa using hlt
      · rw [paint_ne e] at hc
        have := h.lt x hc; omega
    · have := (h.fly.lt _ hgg).2
      rw [hC g this]
      exact h.cf g hgg
    · rw [o] at hgg
      obtain rfl := Option.some.inj hgg
      exact paint_at _ _ _
set_option maxRecDepth 100000 in
/-- No end that is new. -/
theorem note_not (s d was is h2 h3 : Nat) (h : WD w0 w C X zs V m) (hs : s < zs.length) (hd : d < 6) (hst : stN (V.nd s) d = ⟨is, h2, h3⟩) (hn : ¬ (is ≠ was ∧ finB is = true ∧ V.evs.length < 500)) :
    Calls Tryz.prog 70 #[.pointer (some ⟨X.xb, 0, none⟩), .int .i64 (s : Int), .int .i64 (d : Int), .int .i64 (was : Int)] w fun e w' => e = .returned (.tuple #[]) ∧ Below w.heap.size w w' := by
  obtain ⟨-, c1, -, -, c4⟩ := h.cells
  have c2 := h.ns s hs
  have c3 := (h.nds s hs).site
  have H := hid h
  have HS := hid hs
  have HST := hid hst
  obtain ⟨n, hn7⟩ : ∃ n, Hid (zs.length = n) := ⟨_, rfl⟩
  have n7 := h.n7
  rw [hn7.out] at c1 hs n7
  obtain ⟨ne, hne⟩ : ∃ ne, Hid (V.evs.length = ne) := ⟨_, rfl⟩
  obtain ⟨ad, cap, hv⟩ : ∃ ad cap, Hid (X.ev = .slice ad ne cap) := by
    rw [← hne.out]
    rcases h.evs.2 with ⟨e, h0⟩ | ⟨g, cap, cur, e, -⟩
    · exact ⟨none, 0, by rw [e, h0]; exact rfl⟩
    · exact ⟨_, _, e⟩
  rw [hv.out] at c4
  rw [hne.out] at hn
  have h500 := h.inv.ev
  rw [hne.out] at h500
  obtain ⟨fb, HF⟩ : ∃ fb, Hid (finB is = fb) := ⟨_, rfl⟩
  rw [HF.out] at hn
  have HN := hid hn
  clear h hst hn
  have hph : ∀ w, (Instr.field 43 (.agg #[.int .i64 (is : Int), .int .i64 (h2 : Int), .int .i64 (h3 : Int)]) 0).run Tryz.prog w = .ok (.int .i64 (is : Int)) w := fun w => phase_of _ _ _ w
  go_enter Tryz.func70, Tryz.ntmps70
  go_wp2_with fail
  refine (known_ag d is h2 h3 (H.out.nds s HS.out).sp.jp.jr (H.out.nds s HS.out).sp.sr hd HST.out).mono ?_
  rintro e w1 ⟨rfl, hb⟩
  have HB := hid hb
  have d4 := cell_later hb c4
  clear hb
  by_cases g1 : is = was
  · subst g1
    go_wp2_with fail
    go_end0
    exact ⟨rfl, HB.out⟩
  · have g2 : ¬ (is : Int) = was := by omega
    have g3 : ((is : Int) != was) = true := bne_iff_ne.2 g2
    cases fb with
    | false =>
      go_wp2_with (go_at_call 83; refine (wisEnd_is is false _ HF.out).mono ?_; rintro e w2 ⟨rfl, hx⟩; subst w2)
      go_end0
      exact ⟨rfl, HB.out⟩
    | true =>
      have g5 : ¬ ne < 500 := fun g => HN.out ⟨g1, rfl, g⟩
      obtain rfl : ne = 500 := by omega
      go_wp2_with (go_at_call 83; refine (wisEnd_is is true _ HF.out).mono ?_; rintro e w2 ⟨rfl, hx⟩; subst w2)
      go_end0
      exact ⟨rfl, HB.out⟩
set_option maxRecDepth 100000 in
/-- An end that is new. -/
theorem note_yes (s d was is h2 h3 : Nat) (h : WD w0 w C X zs V m) (hs : s < zs.length) (hd : d < 6) (hst : stN (V.nd s) d = ⟨is, h2, h3⟩) (hn : is ≠ was ∧ finB is = true ∧ V.evs.length < 500) :
    Calls Tryz.prog 70 #[.pointer (some ⟨X.xb, 0, none⟩), .int .i64 (s : Int), .int .i64 (d : Int), .int .i64 (was : Int)] w fun e w' => e = .returned (.tuple #[]) ∧ WOut w0 w w' C X zs { V with evs := V.evs ++ [⟨s, d, is⟩] } (m + 1) := by
  obtain ⟨-, c1, -, -, c4⟩ := h.cells
  have c2 := h.ns s hs
  have c3 := (h.nds s hs).site
  have H := hid h
  have HS := hid hs
  have HST := hid hst
  obtain ⟨n, hn7⟩ : ∃ n, Hid (zs.length = n) := ⟨_, rfl⟩
  have n7 := h.n7
  rw [hn7.out] at c1 hs n7
  obtain ⟨ne, hne⟩ : ∃ ne, Hid (V.evs.length = ne) := ⟨_, rfl⟩
  obtain ⟨ad, cap, hv⟩ : ∃ ad cap, Hid (X.ev = .slice ad ne cap) := by
    rw [← hne.out]
    rcases h.evs.2 with ⟨e, h0⟩ | ⟨g, cap, cur, e, -⟩
    · exact ⟨none, 0, by rw [e, h0]; exact rfl⟩
    · exact ⟨_, _, e⟩
  rw [hv.out] at c4
  rw [hne.out] at hn
  obtain ⟨g1, hf, g5⟩ := hn
  have HF := hid hf
  have g2 : ¬ (is : Int) = was := by omega
  have g3 : ((is : Int) != was) = true := bne_iff_ne.2 g2
  have hb0 := h.bel.size
  clear h hst hf
  have hph : ∀ w, (Instr.field 43 (.agg #[.int .i64 (is : Int), .int .i64 (h2 : Int), .int .i64 (h3 : Int)]) 0).run Tryz.prog w = .ok (.int .i64 (is : Int)) w := fun w => phase_of _ _ _ w
  go_enter Tryz.func70, Tryz.ntmps70
  go_wp2_with fail
  refine (known_ag d is h2 h3 (H.out.nds s HS.out).sp.jp.jr (H.out.nds s HS.out).sp.sr hd HST.out).mono ?_
  rintro e w1 ⟨rfl, hb⟩
  have HB := hid hb
  have d4 := cell_later hb c4
  have H1 := hid (H.out.later hb)
  have hb1 := hb.size
  clear hb
  obtain ⟨W2, HW2⟩ : ∃ W2, Hid (w1.alloc (.cells #[.int .i64 (s : Int), .int .i64 (d : Int), .int .i64 (is : Int)] 101) = W2) := ⟨_, rfl⟩
  have hW2 := HW2.out
  have HB2 : Hid (Below w1.heap.size w1 W2) := by rw [← HW2.out]; exact (Below.refl _ _).alloc (Nat.le_refl _) _
  have HL : Hid (∀ j u, (e3L ⟨s, d, is⟩)[j]? = some u → W2.cell? ((⟨w1.heap.size, 0, none⟩ : Addr).add j) = some u) := by rw [← HW2.out]; exact lit_cellsQ w1 101 (e3L ⟨s, d, is⟩)
  have H2 := hid (H1.out.later HB2.out)
  have hb2 := HB2.out.size
  have HO : Hid (W2.ownsRow w0.heap.size 101 3 (.slice ad ne cap) ne (evCells V.evs)) := by have := H2.out.evs; rw [hv.out, hne.out] at this; exact this
  have HX : Hid (∀ w', W2.grownBy w' (Value.slice ad ne cap).ownBlock → w'.cell? ⟨X.xb, 4, none⟩ = some (.slice ad ne cap) ∧ w'.frozen? ⟨X.xb, 4, none⟩ = false) := by
    intro w' hg
    have hr := (grown_kept hg).row H2.out.row (fun e => by rw [← hv.out] at e; have h1 := H2.out.ce _ e; have h2 := H2.out.cx; omega)
    exact ⟨by rw [cell_of_row _ _ _ _ _ _ hr, ← hv.out]; rfl, frozen_of_row _ _ _ _ _ hr⟩
  go_wp2_with (first | (go_at_call 83; refine (wisEnd_is is true _ HF.out).mono ?_; rintro e w2 ⟨rfl, hx⟩; subst w2) | (at_builtin; refine wpList_append_ev rfl _ _ rfl w0.heap.size ne (.slice ad ne cap) ⟨w1.heap.size, 0, none⟩ 1 (evCells V.evs) ⟨s, d, is⟩ rfl rfl HO.out HL.out (by omega) (by omega) ?_; intro ad' cap' w' hown hg ho; obtain ⟨c4', z4'⟩ := HX.out w' hg; have HSS := hid (And.intro hown (And.intro hg ho)); clear hown hg ho))
  go_end0
  refine ⟨rfl, ?_⟩
  rw [← hv.out] at HSS
  rw [← hne.out] at HSS ⊢
  exact WOut.step rfl (Kept.of_below (HB.out.trans (HB2.out.mono HB.out.size))) (fun _ _ => rfl) (H2.out.noted HSS.out.1 HSS.out.2.1 HSS.out.2.2 (by rw [hne.out]; exact g5))
end
end Go.Proofs.YtdpemmmbkjmplabGreatDoor
namespace Go.Proofs.YtdpemmmbkjmplabGreatDoor
open Go.RowKit

/-- Frames in memory that are not the world's own. -/
def FrF (w : World) (C : Nat → Nat) (base : Nat) (v : Value) (L : List F9) : Prop := ∃ ad cap, v = .slice ad L.length cap ∧ FL w ad L ∧ (L ≠ [] → ∀ p, ad = some p → 2000 ≤ C p.block ∧ p.block < w.heap.size ∧ base ≤ p.block)
theorem FrF.fr {w : World} {C : Nat → Nat} {base : Nat} {v : Value} {L : List F9} (h : FrF w C base v L) : IsFr w v L := by
  obtain ⟨ad, cap, e, hf, -⟩ := h
  exact ⟨ad, cap, e, hf⟩
theorem FrF.mono {w : World} {C : Nat → Nat} {base B : Nat} {v : Value} {L : List F9} (h : FrF w C base v L) (hB : B ≤ base) : FrF w C B v L := by
  obtain ⟨ad, cap, e, hf, hg⟩ := h
  exact ⟨ad, cap, e, hf, fun hne p hp => ⟨(hg hne p hp).1, (hg hne p hp).2.1, Nat.le_trans hB (hg hne p hp).2.2⟩⟩
theorem FrF.kept {w w' : World} {C C' : Nat → Nat} {base : Nat} {v : Value} {L : List F9} (h : FrF w C base v L) (k : Kept (OwnX C) w w') (hC : ∀ x, x < w.heap.size → C' x = C x) : FrF w' C' base v L := by
  obtain ⟨ad, cap, e, hf, hg⟩ := h
  refine ⟨ad, cap, e, fun i hi => ?_, fun hne p hp => ?_⟩
  · obtain ⟨b, off, ha, hc⟩ := hf i hi
    refine ⟨b, off, ha, fun j hj => ?_⟩
    have h2 := hc j hj
    have h3 : (f9L (L[i]'hi))[j]? = some ((f9L (L[i]'hi))[j]'(by rw [f9L_length]; exact hj)) := List.getElem?_eq_getElem _
    rw [h3] at h2 ⊢
    have hne : L ≠ [] := fun e => by rw [e] at hi; exact absurd hi (Nat.not_lt_zero _)
    exact cell_kept h2 k (fun hs => by have h5 := (hg hne _ ha).1; have h6 : C b < 2000 := hs; have h7 : 2000 ≤ C b := h5; omega)
  · have := hg hne p hp
    exact ⟨by rw [hC _ this.2.1]; exact this.1, Nat.lt_of_lt_of_le this.2.1 k.size, this.2.2⟩
theorem FrF.nil (w : World) (C : Nat → Nat) (base : Nat) : FrF w C base (.slice none 0 0) [] := ⟨none, 0, rfl, FL.nil _ _, fun _ p hp => by cases hp⟩
theorem FrF.of_b {w : World} {C : Nat → Nat} {base : Nat} {v : Value} {L : List F9} (h : FrB base w v L) (hC : ∀ x, base ≤ x → 2000 ≤ C x) : FrF w C base v L := by
  obtain ⟨ad, cap, e, hf, hg⟩ := h
  refine ⟨ad, cap, e, hf, fun hne p hp => ⟨hC _ (hg p hp), ?_, hg p hp⟩⟩
  cases L with
  | nil => exact (hne rfl).elim
  | cons x r =>
    obtain ⟨b, off, ha, hc⟩ := hf 0 (by simp)
    rw [ha] at hp
    obtain rfl := Option.some.inj hp
    have h2 := hc 0 (by decide)
    rw [show off + 0 * 9 + 0 = off by omega] at h2
    exact cell_lt (v := .int .i64 x.f) (h2.trans rfl)
section
variable {w0 w w' : World} {C : Nat → Nat} {K : NB} {X : XB} {i m m' : Nat} {zs : List Int} {N : PN} {V V' : PX} {A : Nat → Addr}
/-- What a step leaves that hands frames back. -/
def WOutF (w0 w w' : World) (C : Nat → Nat) (X : XB) (zs : List Int) (V' : PX) (m' : Nat) (v : Value) (L : List F9) : Prop :=
  ∃ C' X', WD w0 w' C' X' zs V' m' ∧ key X' = key X ∧ Kept (OwnX C) w w' ∧ (∀ x, x < w.heap.size → C' x = C x) ∧ FrF w' C' w.heap.size v L
/-- The journal and its plate were written. -/
theorem ND.hear {o : POut} (h : ND w0 w C K i zs N m) (hs : SP w0 w' K.s K.j K.mb K.p K.q i N.R m o.e o.over o.b o.l) (he : o.e = dealL o.b.data.toList) (hk : Kept (In3 K.j K.p K.q) w w') : ND w0 w' C K i zs { N with B := o.b, l := o.l, over := o.over } m := by
  have e1 := h.cs; have e2 := h.cj; have e3 := h.cm; have e4 := h.cp; have e5 := h.cq; have e6 := h.cn
  have nS : ∀ x, C x ≠ 100 * i + 3 → C x ≠ 100 * i + 5 → C x ≠ 100 * i + 6 → ¬ In3 K.j K.p K.q x := fun x g1 g2 g3 hx => by
    rcases hx with rfl | rfl | rfl
    · exact g1 e2
    · exact g2 e4
    · exact g3 e5
  refine ⟨hk.row h.row (nS _ (by omega) (by omega) (by omega)), ?_, fun d hd x hx => ?_, h.cn, h.cs, h.cj, h.cm, h.cp, h.cq, h.cl, h.n0⟩
  · rw [he] at hs; exact hs
  · have g := h.cl d hd x hx
    exact (h.lds d hd x hx).kept hk (nS _ (by omega) (by omega) (by omega)) (nS _ (by omega) (by omega) (by omega))
/-- An answer in memory. -/
theorem AnsV.frf {v : Value} {id : Nat} {f : F9} {c : Nat} {g : HOut} {base : Nat} (h : AnsV w v c id f.f f.d f.a g) (hf : ∀ a cp, v = .slice (some a) 1 cp → base ≤ a.block) (hC : ∀ x, base ≤ x → 2000 ≤ C x) : FrF w C base v (if c = 0 ∧ g.k ≠ 0 then [⟨id, f.f, f.d, g.k, f.a, g.yes, g.st.ph, g.st.pr, g.st.at_⟩] else []) := by
  unfold AnsV at h
  split
  · rename_i hc
    rw [if_pos hc] at h
    obtain ⟨b, cp, rfl, hr⟩ := h
    refine ⟨_, cp, rfl, fun i hi => ⟨b, 0, rfl, fun j hj => ?_⟩, fun _ p hp => ?_⟩
    · obtain rfl : i = 0 := by simpa using hi
      rw [cell_of_row _ _ _ _ _ _ hr]
      show (ansC id f.f f.d f.a g)[0 + 0 * 9 + j]? = _
      rw [show 0 + 0 * 9 + j = j by omega, show ansC id f.f f.d f.a g = (f9L ⟨id, f.f, f.d, g.k, f.a, g.yes, g.st.ph, g.st.pr, g.st.at_⟩).toArray from rfl, List.getElem?_toArray]
      rfl
    · obtain rfl := Option.some.inj hp
      exact ⟨hC _ (hf _ _ rfl), row_ltJ hr, hf _ _ rfl⟩
  · rename_i hc
    rw [if_neg hc] at h
    subst h
    exact FrF.nil _ _ _
theorem ansN_fi {n id : Nat} {f : F9} (hN : NI n N m) (hu : N.l ≠ -2) (hf : FI n f) (hm : m < 4000000000) (ht : f.t = id) : ∀ x, x ∈ ansN id N f → FI n x := by
  intro x hx
  have hh := hearN_hf hN hu hf hm
  unfold ansN at hx
  split at hx
  · rename_i hc
    rw [List.mem_singleton] at hx
    subst hx
    obtain ⟨g1, g2, g3⟩ := hh.good
    obtain ⟨o1, o2, o3, o4, o5, o6⟩ := hf.ok
    have hk : (gHN N f).k ≤ 7 := by
      unfold gHN hearL
      repeat' split
      all_goals simp
    have h0 := hf.t0; have h1 := hf.t1
    refine ⟨by show (0 : Int) ≤ id; omega, by show (id : Int) < n; omega, hf.f0, hf.f1, ⟨by show (0 : Int) ≤ id ∧ (id : Int) ≤ 6; omega, o1, o3, ?_, o5, ⟨?_, ?_, ?_⟩⟩⟩
    · show 1 ≤ ((gHN N f).k : Int) ∧ ((gHN N f).k : Int) ≤ 7
      omega
    · show 0 ≤ ((gHN N f).st.ph : Int) ∧ ((gHN N f).st.ph : Int) ≤ 5
      omega
    · show 0 ≤ ((gHN N f).st.pr : Int) ∧ ((gHN N f).st.pr : Int) ≤ 1048576
      omega
    · show 0 ≤ ((gHN N f).st.at_ : Int) ∧ ((gHN N f).st.at_ : Int) ≤ 1048576
      omega
  · cases hx
theorem ansN_len {id : Nat} {f : F9} : (ansN id N f).length ≤ 1 := by
  unfold ansN
  split
  · exact Nat.le_refl _
  · exact Nat.zero_le _
theorem ev_nil (A : Nat → Addr) : ev A 0 = .nilIface := rfl
theorem ev_off (A : Nat → Addr) : ev A 6 = .iface 222 (.pointer (some (A 5))) := rfl
set_option maxRecDepth 100000 in
theorem eq_nil (a : Addr) (w : World) : (binOp .eql 28 .nilIface (.iface 222 (.pointer (some a)))).run Tryz.prog w = .ok (.bool false) w := by
  first | rfl | go_simp
theorem eq_off (a : Addr) (w : World) : (binOp .eql 28 (.iface 222 (.pointer (some a))) (.iface 222 (.pointer (some a)))).run Tryz.prog w = .ok (.bool true) w := by
  obtain ⟨i, hi, hcmp⟩ := Option.map_eq_some_iff.1 compErrS
  obtain ⟨j, hj, hjs⟩ := Option.map_eq_some_iff.1 sizeErrS
  exact run_eql_iface_ptr_same (P := Tryz.prog) w a Tryz.underlying28 Tryz.underlying222 hi hcmp hj
theorem hearN_B (N : PN) (f : F9) : (hearN N f).B = (oHN N f).b := by unfold hearN; split <;> rfl
theorem hearN_0 {N : PN} {f : F9} (h : (oHN N f).c = 0) : hearN N f = { N with B := (oHN N f).b, l := (oHN N f).l, over := (oHN N f).over } := by unfold hearN; rw [if_neg (by omega)]
theorem hearN_6 {N : PN} {f : F9} (h : (oHN N f).c = 6) : hearN N f = fallN { N with B := (oHN N f).b, l := (oHN N f).l, over := (oHN N f).over } := by unfold hearN; rw [if_pos h]; rfl
/-- The frame of numbers. -/
def frN (f t d k a : Nat) (y : Bool) (ph pr pa : Nat) : F9 := ⟨f, t, d, k, a, y, ph, pr, pa⟩
set_option maxHeartbeats 1000000 in
set_option maxRecDepth 100000 in
theorem whear_any (f d k a ph pr pa : Nat) (y : Bool) (F : F9) (hF : F = frN f i d k a y ph pr pa) (h : WD w0 w C X zs V m) (hE : Held9 w0 A) (hi : i < zs.length) (hu : (V.nd i).l ≠ -2) (hf : FI zs.length F) (hm : m < 1000000) :
    Calls Tryz.prog 82 #[.pointer (some ⟨X.xb, 0, none⟩), frV (f : Int) (i : Int) (d : Int) (k : Int) (a : Int) y (ph : Int) (pr : Int) (pa : Int)] w fun e w' => ∃ v, e = .returned v ∧ WOutF w0 w w' C X zs (hearX V i F) (m + 2) v (ansN i (V.nd i) F) := by
  have hd : d < 6 := by have := hf.ok.2.2.1; rw [hF] at this; have : (0 : Int) ≤ d ∧ (d : Int) ≤ 5 := this; omega
  obtain ⟨W, HW⟩ : ∃ W, Hid (w.alloc (.cells #[.int .i64 (f : Int), .int .i64 (i : Int), .int .i64 (d : Int), .int .i64 (k : Int), .int .i64 (a : Int), .bool y, .int .i64 (ph : Int), .int .i64 (pr : Int), .int .i64 (pa : Int)] 93) = W) := ⟨_, rfl⟩
  have HB : Hid (Below w.heap.size w W) := by rw [← HW.out]; exact (Below.refl _ _).alloc (Nat.le_refl _) _
  have HR : Hid (W.heap[w.heap.size]? = some (.cells #[.int .i64 (f : Int), .int .i64 (i : Int), .int .i64 (d : Int), .int .i64 (k : Int), .int .i64 (a : Int), .bool y, .int .i64 (ph : Int), .int .i64 (pr : Int), .int .i64 (pa : Int)] 93 (0, 0))) := by rw [← HW.out]; exact heap_alloc_new w _
  obtain ⟨b0, b1, b2, b3, b4, b5, b6, b7, b8⟩ := nine HR.out
  have H0 := hid h
  have H1 := hid (h.later HB.out)
  have HE := hid hE
  have HI := hid hi
  have HU := hid hu
  have HFI := hid hf
  have HF := hid hF
  obtain ⟨-, c1, -, -, -⟩ := H1.out.cells
  have c2 := H1.out.ns i hi
  have c3 := (H1.out.nds i hi).site
  obtain ⟨n, hn7⟩ : ∃ n, Hid (zs.length = n) := ⟨_, rfl⟩
  have n7 := h.n7
  rw [hn7.out] at c1 hi n7
  obtain ⟨⟨was, t2, t3⟩, HST⟩ : ∃ x, Hid (stN (V.nd i) d = x) := ⟨_, rfl⟩
  have HST2 : Hid ((dlN (V.nd i) d).2 = ⟨was, t2, t3⟩) := HST.out
  have hph : ∀ w, (Instr.field 43 (.agg #[.int .i64 (was : Int), .int .i64 (t2 : Int), .int .i64 (t3 : Int)]) 0).run Tryz.prog w = .ok (.int .i64 (was : Int)) w := fun w => phase_of _ _ _ w
  have hW := HW.out
  clear h hE hu hf hF
  go_enter Tryz.func82, Tryz.ntmps82
  go_wp2_with fail
  go_quiet (fail)
  rename_i nq
  obtain ⟨W2, HW2⟩ : ∃ W2, Hid (W.drewN nq = W2) := ⟨_, rfl⟩
  have HB2 : Hid (Below w.heap.size w W2) := by rw [← HW2.out]; exact below_drewN HB.out nq
  have hW2 := HW2.out
  rw [hW2]
  clear hW2 b0 b1 b2 b3 b4 b5 b6 b7 b8 c1 c2 c3 hW
  have HR2 : Hid (W2.heap[w.heap.size]? = some (.cells #[.int .i64 (f : Int), .int .i64 (i : Int), .int .i64 (d : Int), .int .i64 (k : Int), .int .i64 (a : Int), .bool y, .int .i64 (ph : Int), .int .i64 (pr : Int), .int .i64 (pa : Int)] 93 (0, 0))) := by rw [← HW2.out]; exact HR.out
  obtain ⟨b0, b1, b2, b3, b4, b5, b6, b7, b8⟩ := nine HR2.out
  have H2 := hid (H0.out.later HB2.out)
  have c3 := (H2.out.nds i HI.out).site
  go_wp2_with fail
  go_region_held3 (fun V => V.cell? ⟨(X.K i).nd, 0, none⟩ = some (.pointer (some ⟨(X.K i).s, 0, none⟩)) ∧ V.cell? ⟨w.heap.size, 2, none⟩ = some (.int .i64 (d : Int))) (go_keep) (first | (go_at_call 71; (with_reducible refine (known_ag d was t2 t3 (H2.out.drew.nds i HI.out).sp.jp.jr (H2.out.drew.nds i HI.out).sp.sr hd HST2.out).mono ?_); rintro e w3 ⟨rfl, hb3⟩; have q1 := cell_later hb3 c3; have q2 := cell_later hb3 b2; have HB3 := hid (HB2.out.drew.trans (hb3.mono HB2.out.size)); have HR3 := hid ((hb3.block _ (row_ltJ HR2.out)).trans HR2.out); clear hb3))
  go_wp2_with fail
  clear q1 q2 c3 b0 b1 b2 b3 b4 b5 b6 b7 b8 HR2 H2 HB2 HW2
  obtain ⟨b0, b1, b2, b3, b4, b5, b6, b7, b8⟩ := nine HR3.out
  have H3 := hid (H0.out.later HB3.out)
  have c3 := (H3.out.nds i HI.out).site
  have HNS : Hid (∀ x, w.heap.size ≤ x → ¬ In3 (X.K i).j (X.K i).p (X.K i).q x) := fun x hx e => by
    obtain ⟨_, _, e1, e2, e3⟩ := (H0.out.nds i HI.out).sp.lts
    unfold In3 at e; omega
  have HND : Hid (¬ In3 (X.K i).j (X.K i).p (X.K i).q (X.K i).nd) := fun e => by
    have g1 := (H0.out.nds i HI.out).cn; have g2 := (H0.out.nds i HI.out).cj; have g3 := (H0.out.nds i HI.out).cp; have g4 := (H0.out.nds i HI.out).cq
    rcases e with e | e | e <;> (rw [e] at g1; omega)
  have HH := hid (hearN_hf (H0.out.inv.nd i HI.out) HU.out HFI.out (by omega))
  have hFd : F.d.toNat = d := by rw [HF.out]; exact Int.toNat_natCast d
  obtain ⟨g, HG⟩ : ∃ g, Hid (gHN (V.nd i) F = g) := ⟨_, rfl⟩
  obtain ⟨o, HO⟩ : ∃ o, Hid (oHN (V.nd i) F = o) := ⟨_, rfl⟩
  have HG2 : Hid (hearL (dlN (V.nd i) d).2 ((V.nd i).R d) k a ph = g) := by rw [← HG.out, HF.out]; rfl
  have HO2 : Hid (pOut (dlN (V.nd i)) (V.nd i).over (V.nd i).B (V.nd i).l d g.st.ph g.st.pr g.st.at_ = o) := by rw [← HO.out, ← HG.out, HF.out]; rfl
  have HFO : Hid (frOk f i d k a ph pr pa) := by have := HFI.out.ok; rw [HF.out] at this; exact this
  have HNM : Hid (∀ e, e < 6 → ((dlN (V.nd i)) e).1 < 4294967296) := fun e he => by have := (H0.out.inv.nd i HI.out).nm e he; omega
  go_region_held3 (fun V => V.cell? ⟨(X.K i).nd, 0, none⟩ = some (.pointer (some ⟨(X.K i).s, 0, none⟩)) ∧ V.cell? ⟨w.heap.size, 0, none⟩ = some (.int .i64 (f : Int)) ∧ V.cell? ⟨w.heap.size, 1, none⟩ = some (.int .i64 (i : Int)) ∧ V.cell? ⟨w.heap.size, 2, none⟩ = some (.int .i64 (d : Int)) ∧ V.cell? ⟨w.heap.size, 3, none⟩ = some (.int .i64 (k : Int)) ∧ V.cell? ⟨w.heap.size, 4, none⟩ = some (.int .i64 (a : Int)) ∧ V.cell? ⟨w.heap.size, 5, none⟩ = some (.bool y) ∧ V.cell? ⟨w.heap.size, 6, none⟩ = some (.int .i64 (ph : Int)) ∧ V.cell? ⟨w.heap.size, 7, none⟩ = some (.int .i64 (pr : Int)) ∧ V.cell? ⟨w.heap.size, 8, none⟩ = some (.int .i64 (pa : Int))) (go_keep) (first | (go_at_call 103; (with_reducible refine (shear_inB A w0 _ (X.K i).s (X.K i).j (X.K i).mb (X.K i).p (X.K i).q m i f d k a ph pr pa y (V.nd i).R (dlN (V.nd i)) (V.nd i).over (V.nd i).B (V.nd i).l g o (H3.out.drew.nds i HI.out).sp HE.out.toE HNM.out HFO.out HG2.out HO2.out).mono ?_); rintro e w4 ⟨v, rfl, ha4, hs4, hk4, hf4⟩; have HR4 := hid (hk4.row HR3.out (HNS.out _ (Nat.le_refl _))); have q0 := keptCell hk4 c3 HND.out; have q1 := keptCell hk4 b0 (HNS.out _ (Nat.le_refl _)); have q2 := keptCell hk4 b1 (HNS.out _ (Nat.le_refl _)); have q3 := keptCell hk4 b2 (HNS.out _ (Nat.le_refl _)); have q4 := keptCell hk4 b3 (HNS.out _ (Nat.le_refl _)); have q5 := keptCell hk4 b4 (HNS.out _ (Nat.le_refl _)); have q6 := keptCell hk4 b5 (HNS.out _ (Nat.le_refl _)); have q7 := keptCell hk4 b6 (HNS.out _ (Nat.le_refl _)); have q8 := keptCell hk4 b7 (HNS.out _ (Nat.le_refl _)); have q9 := keptCell hk4 b8 (HNS.out _ (Nat.le_refl _)); have HA4 := hid (And.intro ha4 (And.intro hs4 (And.intro hk4 hf4))); clear ha4 hs4 hk4 hf4))
  clear q0 q1 q2 q3 q4 q5 q6 q7 q8 q9 b0 b1 b2 b3 b4 b5 b6 b7 b8 c3
  have HOE : Hid (o.e = dealL o.b.data.toList) := by have := HH.out.e; rw [HO.out] at this; rw [this]; unfold dlN; rw [hearN_B, HO.out]; exact rfl
  have HN4 := hid ((H3.out.drew.nds i HI.out).hear HA4.out.2.1 HOE.out HA4.out.2.2.1)
  have HK4 : Hid (Kept (fun x => C x / 100 = i) w3 w4) := (Kept.refl _ w3).drew.trans (HA4.out.2.2.1.mono (H3.out.drew.nds i HI.out).in3)
  have HE4 := hid (HE.out.later HA4.out.2.1.jp.bel)
  have HFr4 : Hid (FrF w4 C w.heap.size v (ansN i (V.nd i) F)) := by
    have := AnsV.frf (w := w4) (C := C) (id := i) (f := F) (g := g) (c := o.c) (base := w3.heap.size) (v := v) (by rw [HF.out]; exact HA4.out.1) HA4.out.2.2.2 (fun x hx => by rcases Nat.lt_or_ge (C x) 2000 with q | q; (have := H3.out.lt x q; omega); exact q)
    unfold ansN
    rw [HG.out, HO.out]
    exact this.mono HB3.out.size
  have g5 := HE4.out.g5
  obtain ⟨b0, b1, b2, b3, b4, b5, b6, b7, b8⟩ := nine HR4.out
  have hi7 : i ≤ 9 := by have := H0.out.n7.2; have := HI.out; omega
  rcases HH.out.c with hc | hc
  · have hN0 := hearN_0 hc
    rw [HO.out] at hc hN0
    rw [hc, ev_nil]
    have HWD := H3.out.node HK4.out HI.out (fun x hx => hx) (fun _ _ => rfl) (fun x hx hcc => by have := H3.out.lt x hcc; omega) (K := X.K i) (m' := m + 1) (N := hearN (V.nd i) F) (by rw [hN0]; exact HN4.out.mono (Nat.le_succ _)) rfl (Nat.le_succ _) (H3.out.inv.node HH.out.ni (Nat.le_succ _))
    have H4 := hid HWD
    clear HWD
    have hq : ∀ w, (binOp .eql 28 .nilIface (.iface 222 (.pointer (some (A 5))))).run Tryz.prog w = .ok (.bool false) w := fun w => eq_nil _ w
    obtain ⟨⟨is, u2, u3⟩, HS4⟩ : ∃ x, Hid (stN (hearN (V.nd i) F) d = x) := ⟨_, rfl⟩
    have HS5 : Hid (stN ((setNd V i (hearN (V.nd i) F)).nd i) d = ⟨is, u2, u3⟩) := by unfold setNd; simp only [if_true]; exact HS4.out
    by_cases hn : is ≠ was ∧ finB is = true ∧ V.evs.length < 500
    · have HNt := hid hn
      have HX : Hid (hearX V i F = { setNd V i (hearN (V.nd i) F) with evs := V.evs ++ [⟨i, d, is⟩] }) := by
        unfold hearX noteE; rw [hFd, HST.out, HS4.out, if_pos hn]; exact rfl
      clear hn
      go_wp2_with (go_at_call 70; (refine (note_yes i d was is u2 u3 H4.out HI.out hd HS5.out HNt.out).mono ?_); rintro e w5 ⟨rfl, ho5⟩; have HO5 := hid ho5; clear ho5)
      go_ret
      refine ⟨_, rfl, ?_⟩
      rw [HX.out]
      obtain ⟨C', X', x1, x2, x3, x4⟩ := HO5.out
      have hk34 : Kept (OwnX C) w w4 := (Kept.of_below HB3.out).trans (HK4.out.mono (fun x hx => by show C x < 2000; omega))
      exact ⟨C', X', x1, x2.trans (key_K rfl), hk34.trans x3, fun x hx => x4 x (Nat.lt_of_lt_of_le hx hk34.size), HFr4.out.kept x3 x4⟩
    · have HNt := hid hn
      have HX : Hid (hearX V i F = setNd V i (hearN (V.nd i) F)) := by
        unfold hearX noteE; rw [hFd, HST.out, HS4.out, if_neg hn]; exact rfl
      clear hn
      go_wp2_with (go_at_call 70; (refine (note_not i d was is u2 u3 H4.out HI.out hd HS5.out HNt.out).mono ?_); rintro e w5 ⟨rfl, ho5⟩; have HO5 := hid ho5; clear ho5)
      go_ret
      refine ⟨_, rfl, ?_⟩
      rw [HX.out]
      have hk34 : Kept (OwnX C) w w4 := (Kept.of_below HB3.out).trans (HK4.out.mono (fun x hx => by show C x < 2000; omega))
      exact ⟨C, _, (H4.out.later HO5.out).mono (Nat.le_succ _), key_K rfl, hk34.trans (Kept.of_below HO5.out), fun _ _ => rfl, HFr4.out.kept (Kept.of_below HO5.out) (fun _ _ => rfl)⟩
  · have hN6 := hearN_6 hc
    rw [HO.out] at hc hN6
    rw [hc, ev_off]
    have hq : ∀ w, (binOp .eql 28 (.iface 222 (.pointer (some (A 5)))) (.iface 222 (.pointer (some (A 5))))).run Tryz.prog w = .ok (.bool true) w := fun w => eq_off _ w
    go_wp2_with fail
    refine (fall_any HN4.out).mono ?_
    rintro e w5 ⟨rfl, hn5, hk5⟩
    have HWD := H3.out.node (HK4.out.trans hk5) HI.out (fun x hx => hx) (fun _ _ => rfl) (fun x hx hcc => by have := H3.out.lt x hcc; omega) (K := X.K i) (m' := m + 1) (N := hearN (V.nd i) F) (by rw [hN6]; exact hn5.mono (Nat.le_succ _)) rfl (Nat.le_succ _) (H3.out.inv.node HH.out.ni (Nat.le_succ _))
    have H4 := hid HWD
    have HK5 := hid hk5
    have HR5 := hid (hk5.row HR4.out (fun e => by have := H0.out.lt w.heap.size (by omega); omega))
    clear HWD hn5 hk5 b0 b1 b2 b3 b4 b5 b6 b7 b8
    obtain ⟨b0, b1, b2, b3, b4, b5, b6, b7, b8⟩ := nine HR5.out
    have HS4 : Hid (stN (hearN (V.nd i) F) d = ⟨was, t2, t3⟩) := by have := HH.out.no (by rw [HO.out]; exact hc); rw [hFd] at this; unfold stN; rw [this]; exact HST2.out
    have HS5 : Hid (stN ((setNd V i (hearN (V.nd i) F)).nd i) d = ⟨was, t2, t3⟩) := by unfold setNd; simp only [if_true]; exact HS4.out
    have HX : Hid (hearX V i F = setNd V i (hearN (V.nd i) F)) := by
      unfold hearX noteE; rw [hFd, HST.out, HS4.out, if_neg (fun h => h.1 rfl)]; exact rfl
    go_wp2_with (go_at_call 70; (refine (note_not i d was was t2 t3 H4.out HI.out hd HS5.out (fun h => h.1 rfl)).mono ?_); rintro e w6 ⟨rfl, ho6⟩; have HO6 := hid ho6; clear ho6)
    go_ret
    refine ⟨_, rfl, ?_⟩
    rw [HX.out]
    have hk5 : Kept (OwnX C) w4 w5 := HK5.out.mono (fun x hx => by show C x < 2000; omega)
    have hk34 : Kept (OwnX C) w w5 := ((Kept.of_below HB3.out).trans (HK4.out.mono (fun x hx => by show C x < 2000; omega))).trans hk5
    exact ⟨C, _, (H4.out.later HO6.out).mono (Nat.le_succ _), key_K rfl, hk34.trans (Kept.of_below HO6.out), fun _ _ => rfl, (HFr4.out.kept hk5 (fun _ _ => rfl)).kept (Kept.of_below HO6.out) (fun _ _ => rfl)⟩
end
end Go.Proofs.YtdpemmmbkjmplabGreatDoor
namespace Go.Proofs.YtdpemmmbkjmplabGreatDoor

theorem taken_st {zs : List Int} {P : PL} {f : F9} (h : P.stt < 4) : (takenP zs P f).1.stt < 4 := by
  have h1 : (seeP (noteP P f) f.pr).stt < 4 := by rw [(seeP_of _ _).1]; exact h
  unfold takenP
  split
  · unfold voteP; split
    · show 2 < 4; decide
    · split
      · show 1 < 4; decide
      · exact h
  · split
    · show 3 < 4; decide
    · split
      · unfold tellP
        split
        · exact h1
        · split
          · show 2 < 4; decide
          · show 1 < 4; decide
      · unfold ackP
        split
        · exact h1
        · show 2 < 4; decide
theorem phear_st {zs : List Int} {id : Nat} {deal att : Int} {P : PL} {f : F9} (h : P.stt < 4) : (phear zs id deal att P f).1.stt < 4 := by
  unfold phear
  split
  · exact taken_st h
  · exact h
end Go.Proofs.YtdpemmmbkjmplabGreatDoor
