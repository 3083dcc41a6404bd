/-
  On the way to WStepsProof: VC VF VG VI VH.
-/
import Derived.Test.YtbaamegnmeohoacGreatDoorBs15
import Derived.Test.YtbaamegnmeohoacGreatDoorBs14
namespace Go.Proofs.YtbaamegnmeohoacGreatDoor
open Go.RowKit
section
variable {w0 w : World} {C : Nat → Nat} {X : XB} {m : Nat} {zs : List Int} {V : PX} {A : Nat → Addr}
set_option maxRecDepth 100000 in
theorem has_is (s : Int) (b : Bool) (h : WD w0 w C X zs V m) (hb : decide (0 ≤ s ∧ s < zs.length) = b) :
    Calls Tryz.prog 118 #[.pointer (some ⟨X.xb, 0, none⟩), .int .i64 s] w fun e w' => e = .returned (.bool b) ∧ w' = w := by
  obtain ⟨-, c1, -, -, -⟩ := h.cells
  have n7 := h.n7
  obtain ⟨n, hn⟩ : ∃ n, zs.length = n := ⟨_, rfl⟩
  rw [hn] at c1 n7 hb
  clear h hn
  subst hb
  by_cases h0 : 0 ≤ s
  · by_cases h1 : s < n
    · have e : decide (0 ≤ s ∧ s < n) = true := decide_eq_true ⟨h0, h1⟩
      rw [e]
      clear e
      go_enter Tryz.func118, Tryz.ntmps118
      go_wp2_with fail
      go_ret
      exact ⟨rfl, rfl⟩
    · have e : decide (0 ≤ s ∧ s < n) = false := decide_eq_false (fun g => h1 g.2)
      rw [e]
      clear e
      go_enter Tryz.func118, Tryz.ntmps118
      go_wp2_with fail
      go_ret
      exact ⟨rfl, rfl⟩
  · have e : decide (0 ≤ s ∧ s < n) = false := decide_eq_false (fun g => h0 g.1)
    have h2 : decide (0 ≤ s) = false := decide_eq_false h0
    rw [e]
    clear e
    go_enter Tryz.func118, Tryz.ntmps118
    go_wp2_with fail
    go_ret
    exact ⟨rfl, rfl⟩
set_option maxRecDepth 100000 in
theorem find_no (s : Int) (h : WD w0 w C X zs V m) (hE : Held9 w0 A) (hs : ¬ (0 ≤ s ∧ s < zs.length)) :
    Calls Tryz.prog 97 #[.pointer (some ⟨X.xb, 0, none⟩), .int .i64 s] w fun e w' => e = .returned (.tuple #[.pointer none, .iface 342 (.pointer (some (A 1)))]) ∧ Below w.heap.size w w' := by
  have H := hid h
  have hb := decide_eq_false hs
  have g1 := (h.held hE).g1
  clear h hE hs
  have HB := hid hb
  clear hb
  go_enter Tryz.func97, Tryz.ntmps97
  go_wp2_with fail
  refine (has_is s false H.out HB.out).mono ?_
  rintro e w1 ⟨rfl, hx⟩
  subst w1
  go_wp2_with fail
  go_quiet (fail)
  go_wp2
  go_ret2
  exact ⟨rfl, below_drewN (Below.refl _ _) _⟩
set_option maxRecDepth 100000 in
theorem find_ok (s : Nat) (h : WD w0 w C X zs V m) (hs : s < zs.length) :
    Calls Tryz.prog 97 #[.pointer (some ⟨X.xb, 0, none⟩), .int .i64 (s : Int)] w fun e w' => e = .returned (.tuple #[.pointer (some ⟨(X.K s).nd, 0, none⟩), .nilIface]) ∧ w' = w := by
  have H := hid h
  have HB : Hid (decide (0 ≤ (s : Int) ∧ (s : Int) < zs.length) = true) := decide_eq_true (by omega)
  obtain ⟨-, c1, -, -, -⟩ := h.cells
  have c2 := h.ns s hs
  have n7 := h.n7
  obtain ⟨n, hn⟩ : ∃ n, Hid (zs.length = n) := ⟨_, rfl⟩
  rw [hn.out] at c1 n7 hs
  clear h
  go_enter Tryz.func97, Tryz.ntmps97
  go_wp2_with fail
  refine (has_is (s : Int) true H.out HB.out).mono ?_
  rintro e w1 ⟨rfl, hx⟩
  subst w1
  go_wp2_with fail
  go_ret2
  exact ⟨rfl, rfl⟩
set_option maxRecDepth 100000 in
theorem findDeal_no (s d : Int) (h : WD w0 w C X zs V m) (hE : Held9 w0 A) (hs : ¬ ((0 ≤ s ∧ s < zs.length) ∧ 0 ≤ d ∧ d < 6)) :
    Calls Tryz.prog 82 #[.pointer (some ⟨X.xb, 0, none⟩), .int .i64 s, .int .i64 d] w fun e w' => e = .returned (.tuple #[.pointer none, .iface 342 (.pointer (some (A 1)))]) ∧ Below w.heap.size w w' := by
  have H := hid h
  have HE := hid hE
  have g1 := (h.held hE).g1
  by_cases d0 : 0 ≤ d
  · by_cases d6 : d < 6
    · have HS : Hid (¬ (0 ≤ s ∧ s < zs.length)) := fun g => hs ⟨g, d0, d6⟩
      clear h hs hE
      go_enter Tryz.func82, Tryz.ntmps82
      go_wp2_with fail
      refine (find_no s H.out HE.out HS.out).mono ?_
      rintro e w1 ⟨rfl, hx⟩
      have HX := hid hx
      clear hx
      go_wp2_with fail
      go_ret2
      exact ⟨rfl, HX.out⟩
    · clear h hs hE
      go_enter Tryz.func82, Tryz.ntmps82
      go_wp2_with fail
      go_quiet (fail)
      go_wp2
      go_ret2
      exact ⟨rfl, below_drewN (Below.refl _ _) _⟩
  · have h0 : d < 0 := by omega
    clear h hs hE
    go_enter Tryz.func82, Tryz.ntmps82
    go_wp2_with fail
    go_quiet (fail)
    go_wp2
    go_ret2
    exact ⟨rfl, below_drewN (Below.refl _ _) _⟩
set_option maxRecDepth 100000 in
theorem findDeal_ok (s d : Nat) (h : WD w0 w C X zs V m) (hs : s < zs.length) (hd : d < 6) :
    Calls Tryz.prog 82 #[.pointer (some ⟨X.xb, 0, none⟩), .int .i64 (s : Int), .int .i64 (d : Int)] w fun e w' => e = .returned (.tuple #[.pointer (some ⟨(X.K s).nd, 0, none⟩), .nilIface]) ∧ w' = w := by
  have H := hid h
  have HS := hid hs
  have d0 : ¬ (d : Int) < 0 := by omega
  have d6 : ¬ 6 ≤ (d : Int) := by omega
  clear h hs
  go_enter Tryz.func82, Tryz.ntmps82
  go_wp2_with fail
  refine (find_ok s H.out HS.out).mono ?_
  rintro e w1 ⟨rfl, hx⟩
  subst w1
  go_wp2_with fail
  go_ret2
  exact ⟨rfl, rfl⟩
theorem powered_err (v : Value) (a : Addr) :
    Calls Tryz.prog 81 #[v, .iface 342 (.pointer (some a))] w fun e w' => e = .returned (.tuple #[.pointer none, .iface 342 (.pointer (some a))]) ∧ w' = w := by
  go_enter Tryz.func81, Tryz.ntmps81
  go_wp2_with fail
  go_ret2
  exact ⟨rfl, rfl⟩
set_option maxRecDepth 100000 in
theorem powered_is {K : NB} {i : Nat} {N : PN} (b : Bool) (h : ND w0 w C K i zs N m) (hE : Held9 w A) (hb : (N.l != -2) = b) :
    Calls Tryz.prog 81 #[.pointer (some ⟨K.nd, 0, none⟩), .nilIface] w fun e w' => e = .returned (.tuple #[if b = true then .pointer (some ⟨K.nd, 0, none⟩) else .pointer none, if b = true then .nilIface else .iface 342 (.pointer (some (A 5)))]) ∧ Below w.heap.size w w' := by
  have H := hid h.sp.jp.pl
  obtain ⟨c0, c1, c2⟩ := h.way
  have g5 := hE.g5
  have HB := hid hb
  clear h hE hb
  cases b with
  | true =>
    go_enter Tryz.func81, Tryz.ntmps81
    go_wp2_with fail
    refine (power_any K.p K.q N.B N.l w H.out).mono ?_
    rintro e w1 ⟨rfl, hx⟩
    subst w1
    rw [HB.out]
    go_wp2_with fail
    go_ret2
    exact ⟨rfl, Below.refl _ _⟩
  | false =>
    go_enter Tryz.func81, Tryz.ntmps81
    go_wp2_with fail
    refine (power_any K.p K.q N.B N.l w H.out).mono ?_
    rintro e w1 ⟨rfl, hx⟩
    subst w1
    rw [HB.out]
    go_wp2_with fail
    go_quiet (fail)
    go_wp2
    go_ret2
    exact ⟨rfl, below_drewN (Below.refl _ _) _⟩
set_option maxRecDepth 100000 in
theorem flies_is (s : Int) (b : Bool) (h : WD w0 w C X zs V m) (hb : decide (0 ≤ s ∧ s < V.fly.length) = b) :
    Calls Tryz.prog 114 #[.pointer (some ⟨X.xb, 0, none⟩), .int .i64 s] w fun e w' => e = .returned (.bool b) ∧ w' = w := by
  obtain ⟨-, -, -, c3, -⟩ := h.cells
  obtain ⟨n, hn⟩ : ∃ n, V.fly.length = n := ⟨_, rfl⟩
  have hv : ∃ ad cap, X.fv = .slice ad n cap := by
    rw [← hn]
    exact h.fly.form
  obtain ⟨ad, cap, hv⟩ := hv
  rw [hv] at c3
  rw [hn] at hb
  clear h hn
  subst hb
  by_cases h0 : 0 ≤ s
  · by_cases h1 : s < n
    · have e : decide (0 ≤ s ∧ s < n) = true := decide_eq_true ⟨h0, h1⟩
      rw [e]
      clear e
      go_enter Tryz.func114, Tryz.ntmps114
      go_wp2_with fail
      go_ret
      exact ⟨rfl, rfl⟩
    · have e : decide (0 ≤ s ∧ s < n) = false := decide_eq_false (fun g => h1 g.2)
      rw [e]
      clear e
      go_enter Tryz.func114, Tryz.ntmps114
      go_wp2_with fail
      go_ret
      exact ⟨rfl, rfl⟩
  · have e : decide (0 ≤ s ∧ s < n) = false := decide_eq_false (fun g => h0 g.1)
    have h2 : decide (0 ≤ s) = false := decide_eq_false h0
    rw [e]
    clear e
    go_enter Tryz.func114, Tryz.ntmps114
    go_wp2_with fail
    go_ret
    exact ⟨rfl, rfl⟩
end
theorem wisEnd_is (p : Nat) (b : Bool) (w : World) (hb : finB p = b) :
    Calls Tryz.prog 99 #[.int .i64 (p : Int)] w fun e w' => e = .returned (.bool b) ∧ w' = w := by
  subst hb
  unfold finB
  by_cases h2 : p = 2
  · subst h2
    go_enter Tryz.func99, Tryz.ntmps99
    go_wp2_with fail
    go_ret
    exact ⟨rfl, rfl⟩
  · by_cases h3 : p = 3
    · subst h3
      go_enter Tryz.func99, Tryz.ntmps99
      go_wp2_with fail
      go_ret
      exact ⟨rfl, rfl⟩
    · have e : decide (p = 2 ∨ p = 3) = false := decide_eq_false (by omega)
      have i2 : ¬ (p : Int) = 2 := by omega
      have i3 : ¬ (p : Int) = 3 := by omega
      rw [e]
      clear e
      have b2 : ((p : Int) == 2) = false := beq_eq_false_iff_ne.2 i2
      have b3 : ((p : Int) == 3) = false := beq_eq_false_iff_ne.2 i3
      go_enter Tryz.func99, Tryz.ntmps99
      go_wp2_with fail
      go_ret
      exact ⟨rfl, rfl⟩
set_option maxRecDepth 100000 in
theorem known_is {w : World} {s j mb p n : Nat} {id : Int} {R : Nat → Bool} {E : Nat → Nat × St} {over : Bool} (d h1 h2 h3 : Nat) (hj : JR w j p E over) (h : SR w s j mb id R n) (hd : d < 6) (hs : (E d).2 = ⟨h1, h2, h3⟩) :
    Calls Tryz.prog 98 #[.pointer (some ⟨s, 0, none⟩), .int .i64 (d : Int)] w fun e w' => e = .returned (agS h1 h2 h3) ∧ Below w.heap.size w w' := by
  obtain ⟨W, HW⟩ : ∃ W, Hid (w.alloc (.cells #[.int .i64 0, .int .i64 0, .int .i64 0] 113) = W) := ⟨_, rfl⟩
  have HB : Hid (Below w.heap.size w W) := by rw [← HW.out]; exact (Below.refl _ _).alloc (Nat.le_refl _) _
  have HR : Hid (W.heap[w.heap.size]? = some (.cells #[.int .i64 0, .int .i64 0, .int .i64 0] 113 (0, 0))) := by rw [← HW.out]; exact heap_alloc_new w _
  have HJ := hid (hj.later HB.out hj.lt)
  have HS2 := hid (h.later HB.out)
  have HS := hid hs
  have hW := HW.out
  clear hj h hs
  go_enter Tryz.func98, Tryz.ntmps98
  go_wp2_with (go_at_call 152; (with_reducible refine (sstate_is d h1 h2 h3 HJ.out HS2.out hd HS.out).mono ?_); rintro e w1 ⟨rfl, hb1⟩; have HR1 := hid ((hb1.block _ (row_ltJ HR.out)).trans HR.out); have HB1 := hid (HB.out.trans (hb1.mono HB.out.size)); clear hb1; obtain ⟨W2, HW2⟩ : ∃ W2, Hid (w1.alloc (.cells #[.int .i64 (h1 : Int), .int .i64 (h2 : Int), .int .i64 (h3 : Int)] 113) = W2) := ⟨_, rfl⟩; have hW2 := HW2.out; have HR2 : Hid (W2.heap[w.heap.size]? = some (.cells #[.int .i64 0, .int .i64 0, .int .i64 0] 113 (0, 0))) := hid (by rw [← HW2.out]; exact (Below.heap_alloc w1 _ _ (row_ltJ HR1.out)).trans HR1.out); have HN2 : Hid (W2.heap[w1.heap.size]? = some (.cells #[.int .i64 (h1 : Int), .int .i64 (h2 : Int), .int .i64 (h3 : Int)] 113 (0, 0))) := hid (by rw [← HW2.out]; exact heap_alloc_new w1 _); have HB2 : Hid (Below w.heap.size w W2) := hid (by rw [← HW2.out]; exact HB1.out.alloc HB1.out.size _); have c0 : W2.cell? ⟨w.heap.size, 0, none⟩ = some (.int .i64 0) := (cell_of_row _ _ 0 _ _ _ HR2.out); have c1 : W2.cell? ⟨w.heap.size, 1, none⟩ = some (.int .i64 0) := (cell_of_row _ _ 1 _ _ _ HR2.out); have c2 : W2.cell? ⟨w.heap.size, 2, none⟩ = some (.int .i64 0) := (cell_of_row _ _ 2 _ _ _ HR2.out); have z0 := frozen_of_row _ _ 0 _ _ HR2.out; have z1 := frozen_of_row _ _ 1 _ _ HR2.out; have z2 := frozen_of_row _ _ 2 _ _ HR2.out; have d0 : W2.cell? ⟨w1.heap.size, 0, none⟩ = some (.int .i64 (h1 : Int)) := (cell_of_row _ _ 0 _ _ _ HN2.out); have d1 : W2.cell? ⟨w1.heap.size, 1, none⟩ = some (.int .i64 (h2 : Int)) := (cell_of_row _ _ 1 _ _ _ HN2.out); have d2 : W2.cell? ⟨w1.heap.size, 2, none⟩ = some (.int .i64 (h3 : Int)) := (cell_of_row _ _ 2 _ _ _ HN2.out))
  refine bodyPost_ret (results_cell_row rfl _ _ w.heap.size 113 _ (0, 0) _ rfl (set3 HR2.out _ _ _) Tryz.underlying113 rfl sizeState) rfl ?_
  exact ⟨rfl, ((HB2.out.setCell (Nat.le_refl _) _).setCell (Nat.le_refl _) _).setCell (Nat.le_refl _) _⟩
structure Z3 (w W : World) (g : Nat) : Prop where
  r : W.heap[g]? = some (.cells #[.int .i64 0, .int .i64 0, .int .i64 0] 113 (0, 0))
  b : Below w.heap.size w W
theorem Z3.later {w W W' : World} {g : Nat} (h : Z3 w W g) (hb : Below W.heap.size W W') : Z3 w W' g := ⟨(hb.block _ (row_ltJ h.r)).trans h.r, h.b.trans (hb.mono h.b.size)⟩
theorem Z3.cells {w W : World} {g : Nat} (h : Z3 w W g) : W.cell? ⟨g, 0, none⟩ = some (.int .i64 0) ∧ W.cell? ⟨g, 1, none⟩ = some (.int .i64 0) ∧ W.cell? ⟨g, 2, none⟩ = some (.int .i64 0) ∧ W.frozen? ⟨g, 0, none⟩ = false ∧ W.frozen? ⟨g, 1, none⟩ = false ∧ W.frozen? ⟨g, 2, none⟩ = false :=
  ⟨cell_of_row _ _ 0 _ _ _ h.r, cell_of_row _ _ 1 _ _ _ h.r, cell_of_row _ _ 2 _ _ _ h.r, frozen_of_row _ _ 0 _ _ h.r, frozen_of_row _ _ 1 _ _ h.r, frozen_of_row _ _ 2 _ _ h.r⟩
theorem z3 (w : World) : Z3 w (w.alloc (.cells #[.int .i64 0, .int .i64 0, .int .i64 0] 113)) w.heap.size := ⟨heap_alloc_new w _, (Below.refl _ _).alloc (Nat.le_refl _) _⟩
section
variable {w0 w : World} {C : Nat → Nat} {K : NB} {X : XB} {i m : Nat} {zs : List Int} {N : PN} {V : PX} {A : Nat → Addr}
set_option maxRecDepth 100000 in
theorem kept_up (d h1 h2 h3 : Nat) (h : ND w0 w C K i zs N m) (hu : (N.l != -2) = true) (hd : d < 6) (hs : stN N d = ⟨h1, h2, h3⟩) :
    Calls Tryz.prog 125 #[.pointer (some ⟨K.nd, 0, none⟩), .int .i64 (d : Int)] w fun e w' => e = .returned (agS h1 h2 h3) ∧ Below w.heap.size w w' := by
  obtain ⟨W, HW⟩ : ∃ W, Hid (w.alloc (.cells #[.int .i64 0, .int .i64 0, .int .i64 0] 113) = W) := ⟨_, rfl⟩
  have HZ : Hid (Z3 w W w.heap.size) := by rw [← HW.out]; exact z3 w
  have H := hid (h.later HZ.out.b)
  obtain ⟨c0, c1, c2⟩ := (h.later HZ.out.b).way
  have HU := hid hu
  have HS := hid hs
  have hW := HW.out
  clear h hu hs
  go_enter Tryz.func125, Tryz.ntmps125
  go_wp2_with fail
  refine (power_any K.p K.q N.B N.l W H.out.sp.jp.pl).mono ?_
  rintro e w1 ⟨rfl, hx⟩
  subst w1
  rw [HU.out]
  go_wp2_with fail
  refine (known_is d h1 h2 h3 H.out.sp.jp.jr H.out.sp.sr hd HS.out).mono ?_
  rintro e w1 ⟨rfl, hb1⟩
  have HZ1 := hid (HZ.out.later hb1)
  obtain ⟨d0, d1, d2, z0, z1, z2⟩ := HZ1.out.cells
  clear hb1
  go_wp2_with fail
  refine bodyPost_ret (results_cell_row rfl _ _ w.heap.size 113 _ (0, 0) _ rfl (set3 HZ1.out.r _ _ _) Tryz.underlying113 rfl sizeState) rfl ?_
  exact ⟨rfl, ((HZ1.out.b.setCell (Nat.le_refl _) _).setCell (Nat.le_refl _) _).setCell (Nat.le_refl _) _⟩
set_option maxRecDepth 100000 in
theorem kept_down (d h1 h2 h3 : Nat) (h : ND w0 w C K i zs N m) (hE : Held9 w A) (hz : N.B.size = 512) (hu : (N.l != -2) = false) (hd : d < 6) (hs : stN N d = ⟨h1, h2, h3⟩) :
    Calls Tryz.prog 125 #[.pointer (some ⟨K.nd, 0, none⟩), .int .i64 (d : Int)] w fun e w' => e = .returned (agS h1 h2 h3) ∧ Below w.heap.size w w' := by
  obtain ⟨W, HW⟩ : ∃ W, Hid (w.alloc (.cells #[.int .i64 0, .int .i64 0, .int .i64 0] 113) = W) := ⟨_, rfl⟩
  have HZ : Hid (Z3 w W w.heap.size) := by rw [← HW.out]; exact z3 w
  have H := hid (h.later HZ.out.b)
  have HE := hid (hE.later HZ.out.b)
  obtain ⟨c0, c1, c2⟩ := (h.later HZ.out.b).way
  have HU := hid hu
  have HS := hid hs
  have HSZ := hid hz
  have hW := HW.out
  clear h hu hs hE hz
  go_enter Tryz.func125, Tryz.ntmps125
  go_wp2_with fail
  refine (power_any K.p K.q N.B N.l W H.out.sp.jp.pl).mono ?_
  rintro e w1 ⟨rfl, hx⟩
  subst w1
  rw [HU.out]
  go_wp2_with (go_at_call 168; refine (pbytes_any K.p K.q N.B N.l W H.out.sp.jp.pl).mono ?_; rintro e w1 ⟨rfl, hx⟩; subst w1)
  refine (pfrom_ok N.B W (by rw [HSZ.out]; decide)).mono ?_
  rintro e w1 ⟨rfl, hp, hb1, -⟩
  have HP := hid hp
  have HZ1 := hid (HZ.out.later hb1)
  have HE1 := hid (HE.out.later hb1)
  clear hp hb1
  go_wp2_with fail
  refine (open_ok A _ _ N.B (-1) w1 HP.out HE1.out.toE (by rw [HSZ.out]; decide) (by rw [HSZ.out]; decide) (by decide)).mono ?_
  rintro e w2 ⟨j2, rfl, hj, hb2, -⟩
  have HJ := hid hj
  have HZ2 := hid (HZ1.out.later hb2)
  clear hj hb2
  go_wp2_with fail
  refine (get_is j2 _ d _ false h1 h2 h3 _ HJ.out hd HS.out).mono ?_
  rintro e w3 ⟨rfl, hb3⟩
  have HZ3 := hid (HZ2.out.later hb3)
  obtain ⟨W4, HW4⟩ : ∃ W4, Hid (w3.alloc (.cells #[.int .i64 (h1 : Int), .int .i64 (h2 : Int), .int .i64 (h3 : Int)] 113) = W4) := ⟨_, rfl⟩
  have hW4 := HW4.out
  have HZ4 : Hid (Z3 w W4 w.heap.size) := by rw [← HW4.out]; exact HZ3.out.later ((Below.refl _ _).alloc (Nat.le_refl _) _)
  have HN4 : Hid (W4.heap[w3.heap.size]? = some (.cells #[.int .i64 (h1 : Int), .int .i64 (h2 : Int), .int .i64 (h3 : Int)] 113 (0, 0))) := by rw [← HW4.out]; exact heap_alloc_new w3 _
  obtain ⟨d0, d1, d2, z0, z1, z2⟩ := HZ4.out.cells
  have e0 : W4.cell? ⟨w3.heap.size, 0, none⟩ = some (.int .i64 (h1 : Int)) := (cell_of_row _ _ 0 _ _ _ HN4.out)
  have e1 : W4.cell? ⟨w3.heap.size, 1, none⟩ = some (.int .i64 (h2 : Int)) := (cell_of_row _ _ 1 _ _ _ HN4.out)
  have e2 : W4.cell? ⟨w3.heap.size, 2, none⟩ = some (.int .i64 (h3 : Int)) := (cell_of_row _ _ 2 _ _ _ HN4.out)
  clear hb3
  go_wp2_with fail
  refine bodyPost_ret (results_cell_row rfl _ _ w.heap.size 113 _ (0, 0) _ rfl (set3 HZ4.out.r _ _ _) Tryz.underlying113 rfl sizeState) rfl ?_
  exact ⟨rfl, ((HZ4.out.b.setCell (Nat.le_refl _) _).setCell (Nat.le_refl _) _).setCell (Nat.le_refl _) _⟩
theorem kept_is (d h1 h2 h3 : Nat) (h : ND w0 w C K i zs N m) (hE : Held9 w A) (hz : N.B.size = 512) (hd : d < 6) (hs : stN N d = ⟨h1, h2, h3⟩) :
    Calls Tryz.prog 125 #[.pointer (some ⟨K.nd, 0, none⟩), .int .i64 (d : Int)] w fun e w' => e = .returned (agS h1 h2 h3) ∧ Below w.heap.size w w' := by
  cases hu : N.l != -2 with
  | true => exact kept_up d h1 h2 h3 h hu hd hs
  | false => exact kept_down d h1 h2 h3 h hE hz hu hd hs
set_option maxRecDepth 100000 in
theorem wstate_no (s d : Int) (h : WD w0 w C X zs V m) (hE : Held9 w0 A) (hs : ¬ ((0 ≤ s ∧ s < zs.length) ∧ 0 ≤ d ∧ d < 6)) :
    Calls Tryz.prog 62 #[.pointer (some ⟨X.xb, 0, none⟩), .int .i64 s, .int .i64 d] w fun e w' => e = .returned (.tuple #[.agg #[.int .i64 0, .int .i64 0, .int .i64 0], ev A 2]) ∧ Below w.heap.size w w' := by
  obtain ⟨W, HW⟩ : ∃ W, Hid (w.alloc (.cells #[.int .i64 0, .int .i64 0, .int .i64 0] 113) = W) := ⟨_, rfl⟩
  have HZ : Hid (Z3 w W w.heap.size) := by rw [← HW.out]; exact z3 w
  have H := hid (h.later HZ.out.b)
  have HE := hid hE
  have HS := hid hs
  have hW := HW.out
  clear h hE hs
  go_enter Tryz.func62, Tryz.ntmps62
  go_wp2_with fail
  refine (findDeal_no s d H.out HE.out HS.out).mono ?_
  rintro e w1 ⟨rfl, hb1⟩
  have HZ1 := hid (HZ.out.later hb1)
  obtain ⟨d0, d1, d2, z0, z1, z2⟩ := HZ1.out.cells
  clear hb1
  go_wp2_with fail
  refine bodyPost_ret (results_row2 rfl _ _ w.heap.size 113 _ (0, 0) _ rfl (set3 HZ1.out.r _ _ _) Tryz.underlying113 rfl sizeState) rfl ?_
  exact ⟨rfl, ((HZ1.out.b.setCell (Nat.le_refl _) _).setCell (Nat.le_refl _) _).setCell (Nat.le_refl _) _⟩
set_option maxRecDepth 100000 in
theorem wstate_ok (s d h1 h2 h3 : Nat) (h : WD w0 w C X zs V m) (hE : Held9 w0 A) (hs : s < zs.length) (hd : d < 6) (hst : stN (V.nd s) d = ⟨h1, h2, h3⟩) :
    Calls Tryz.prog 62 #[.pointer (some ⟨X.xb, 0, none⟩), .int .i64 (s : Int), .int .i64 (d : Int)] w fun e w' => e = .returned (.tuple #[agS h1 h2 h3, .nilIface]) ∧ Below w.heap.size w w' := by
  obtain ⟨W, HW⟩ : ∃ W, Hid (w.alloc (.cells #[.int .i64 0, .int .i64 0, .int .i64 0] 113) = W) := ⟨_, rfl⟩
  have HZ : Hid (Z3 w W w.heap.size) := by rw [← HW.out]; exact z3 w
  have H := hid (h.later HZ.out.b)
  have HE := hid ((h.held hE).later HZ.out.b)
  have HS := hid hst
  have HL := hid hs
  have hW := HW.out
  clear h hE hst hs
  go_enter Tryz.func62, Tryz.ntmps62
  go_wp2_with fail
  refine (findDeal_ok s d H.out HL.out hd).mono ?_
  rintro e w1 ⟨rfl, hx⟩
  subst w1
  go_wp2_with fail
  refine (kept_is d h1 h2 h3 (H.out.nds s HL.out) HE.out (H.out.inv.nd s HL.out).sz hd HS.out).mono ?_
  rintro e w1 ⟨rfl, hb1⟩
  have HZ1 := hid (HZ.out.later hb1)
  obtain ⟨d0, d1, d2, z0, z1, z2⟩ := HZ1.out.cells
  clear hb1
  go_wp2_with fail
  refine bodyPost_ret (results_row2 rfl _ _ w.heap.size 113 _ (0, 0) _ rfl (set3 HZ1.out.r _ _ _) Tryz.underlying113 rfl sizeState) rfl ?_
  exact ⟨rfl, ((HZ1.out.b.setCell (Nat.le_refl _) _).setCell (Nat.le_refl _) _).setCell (Nat.le_refl _) _⟩
end
def heldN (N : PN) (d : Nat) : Bool := (N.ld d).isSome || !(decide ((stN N d).ph = 0 ∧ (stN N d).pr = 0 ∧ (stN N d).at_ = 0))
theorem heldX_any {n : Nat} {V : PX} {d i : Nat} (hi : i < n) (h : heldN (V.nd i) d = true) : heldX n V d = true := by
  unfold heldX
  rw [List.any_eq_true]
  exact ⟨i, List.mem_range.2 hi, h⟩
theorem heldX_none {n : Nat} {V : PX} {d : Nat} (h : ∀ i, i < n → heldN (V.nd i) d = false) : heldX n V d = false := by
  unfold heldX
  rw [List.any_eq_false]
  intro i hi
  rw [show (((V.nd i).ld d).isSome || !(decide ((stN (V.nd i) d).ph = 0 ∧ (stN (V.nd i) d).pr = 0 ∧ (stN (V.nd i) d).at_ = 0))) = false from h i (List.mem_range.1 hi)]
  decide
theorem st_neI (x0 x1 x2 y0 y1 y2 : Int) (w : World) : (binOp .neq 113 (.agg #[.int .i64 x0, .int .i64 x1, .int .i64 x2]) (.agg #[.int .i64 y0, .int .i64 y1, .int .i64 y2])).run Tryz.prog w = .ok (.bool (!decide (x0 = y0 ∧ x1 = y1 ∧ x2 = y2))) w := by
  by_cases h0 : x0 = y0 <;> by_cases h1 : x1 = y1 <;> by_cases h2 : x2 = y2
  all_goals
    simp only [h0, h1, h2, and_true, and_self, and_false, decide_true, decide_false]
    go_simp
theorem st_ne0 (h1 h2 h3 : Nat) (w : World) : (binOp .neq 113 (agS h1 h2 h3) (.agg #[.int .i64 0, .int .i64 0, .int .i64 0])).run Tryz.prog w = .ok (.bool (!decide (h1 = 0 ∧ h2 = 0 ∧ h3 = 0))) w := by
  rw [st_neI]
  congr 4
  exact propext (by omega)
section
variable {w0 w : World} {C : Nat → Nat} {K : NB} {X : XB} {i m : Nat} {zs : List Int} {N : PN} {V : PX} {A : Nat → Addr}
set_option maxHeartbeats 4000000 in
set_option maxRecDepth 100000 in
theorem isHeld_is (d : Nat) (h : WD w0 w C X zs V m) (hE : Held9 w0 A) (hd : d < 6) :
    Calls Tryz.prog 83 #[.pointer (some ⟨X.xb, 0, none⟩), .int .i64 (d : Int)] w fun e w' => e = .returned (.bool (heldX zs.length V d)) ∧ Below w.heap.size w w' := by
  obtain ⟨-, c1, -, -, -⟩ := h.cells
  have n7 := h.n7
  have H := hid h
  have HE := hid hE
  obtain ⟨n, hn⟩ : ∃ n, Hid (zs.length = n) := ⟨_, rfl⟩
  rw [hn.out] at c1 n7 ⊢
  clear h hE
  go_enter Tryz.func83, Tryz.ntmps83
  go_wp2_with fail
  go_loopw [12] (fun v wr => ∃ k : Nat, k ≤ n ∧ v = .int .i64 (k : Int) ∧ Below w.heap.size w wr ∧ ∀ j, j < k → heldN (V.nd j) d = false) (fun v _ => n - (intOf v).toNat)
  case atStart => exact ⟨0, Nat.zero_le _, rfl, Below.refl _ _, fun j hj => absurd hj (Nat.not_lt_zero _)⟩
  case round =>
    obtain ⟨k, hk, rfl, hb, hno⟩ := hrel
    rename_i wr _
    have HNo := hid hno
    have HB := hid hb
    have H1 := hid (H.out.later hb)
    clear hno hb
    by_cases hlt : k < n
    · have c2 := H1.out.ns k (by rw [hn.out]; exact hlt)
      have HN := hid (H1.out.nds k (by rw [hn.out]; exact hlt))
      have c3 := HN.out.lead hd
      have hinv := hid (H1.out.inv.nd k (by rw [hn.out]; exact hlt))
      cases hl : (V.nd k).ld d with
      | some x =>
        rw [ldV_some hl] at c3
        have HH : Hid (heldN (V.nd k) d = true) := by unfold heldN; rw [hl]; rfl
        clear hl
        go_wp2_with fail
        go_ret
        exact ⟨by rw [heldX_any hlt HH.out]; rfl, HB.out⟩
      | none =>
        rw [ldV_none hl] at c3
        obtain ⟨⟨h1, h2, h3⟩, HS⟩ : ∃ x, Hid (stN (V.nd k) d = x) := ⟨_, rfl⟩
        obtain ⟨b, HBn⟩ : ∃ b, Hid ((!decide (h1 = 0 ∧ h2 = 0 ∧ h3 = 0)) = b) := ⟨_, rfl⟩
        have HH : Hid (heldN (V.nd k) d = b) := by unfold heldN; rw [hl, HS.out, ← HBn.out]; rfl
        have hcmp : ∀ w, (binOp .neq 113 (agS h1 h2 h3) (.agg #[.int .i64 0, .int .i64 0, .int .i64 0])).run Tryz.prog w = .ok (.bool b) w := fun w => by rw [← HBn.out]; exact st_ne0 h1 h2 h3 w
        clear hl
        cases b with
        | true =>
          go_wp2_with (go_at_call 125; refine (kept_is d h1 h2 h3 HN.out (H1.out.held HE.out) hinv.out.sz hd HS.out).mono ?_; rintro e w2 ⟨rfl, hb2⟩; have HB2 := hid (HB.out.trans (hb2.mono HB.out.size)); clear hb2)
          go_ret
          exact ⟨by rw [heldX_any hlt HH.out]; rfl, HB2.out⟩
        | false =>
          go_wp2_with (go_at_call 125; refine (kept_is d h1 h2 h3 HN.out (H1.out.held HE.out) hinv.out.sz hd HS.out).mono ?_; rintro e w2 ⟨rfl, hb2⟩; have HB2 := hid (HB.out.trans (hb2.mono HB.out.size)); clear hb2)
          go_roundw
          case rel =>
            refine ⟨k + 1, by omega, by go_num, HB2.out, fun j hj => ?_⟩
            by_cases e : j = k
            · subst e; exact HH.out
            · exact HNo.out j (by omega)
          case measure => simp [intOf]; omega
    · obtain rfl : k = n := by omega
      have HH := hid (heldX_none HNo.out)
      go_wp2_with fail
      go_ret
      exact ⟨by rw [HH.out]; rfl, HB.out⟩
end
end Go.Proofs.YtbaamegnmeohoacGreatDoor
namespace Go.Proofs.YtbaamegnmeohoacGreatDoor
theorem put_wellB {B : ByteArray} {over : Bool} {l : Int} {m d : Nat} {s : St} {o : POut} (hB : 216 ≤ B.size) (h : Well B over l m) (hm : m < 4000000000) (hd : d < 6) (hs : s.good) (ho : pOut (dealL B.data.toList) over B l d s.ph s.pr s.at_ = o) :
    o.e = dealL o.b.data.toList ∧ Well o.b o.over o.l (m + 1) ∧ (∀ e, e ≠ d → dealL o.b.data.toList e = dealL B.data.toList e) ∧ ((o.c = 0 ∧ (dealL o.b.data.toList d).2 = s) ∨ (o.c = 6 ∧ dealL o.b.data.toList d = dealL B.data.toList d)) := by
  subst ho
  unfold pOut
  cases over with
  | true =>
    rw [if_pos rfl]
    exact ⟨rfl, h.mono (Nat.le_succ _), fun _ _ => rfl, .inr ⟨rfl, rfl⟩⟩
  | false =>
    rw [if_neg (by decide), if_pos ⟨by omega, good_fits hs⟩]
    simp only [Int.toNat_natCast]
    have hn := h.num d hd
    have hp := h.pow rfl
    rcases put_out (s := s) hB hd (fits_of (good_fits hs)) (by omega) hp with ⟨c, ov, ee, hl, hs2, hot, hnn⟩ | ⟨c, ov, hl, hdd⟩
    · refine ⟨ee, ⟨fun e he => ?_, fun e he => ?_, fun _ => hl⟩, hot, .inl ⟨c, hs2⟩⟩
      · by_cases g : e = d
        · rw [g, hs2]; exact hs
        · rw [hot e g]; exact h.good e he
      · by_cases g : e = d
        · rw [g]; exact Nat.le_trans hnn (Nat.succ_le_succ hn)
        · rw [hot e g]; have := h.num e he; omega
    · refine ⟨?_, ⟨fun e he => by rw [hdd]; exact h.good e he, fun e he => by rw [hdd]; have := h.num e he; omega, fun g => by rw [ov] at g; cases g⟩, fun e _ => by rw [hdd], .inr ⟨c, by rw [hdd]⟩⟩
      rw [hdd]
      revert c
      unfold putIn
      split
      · intro c; cases c
      · split
        · intro c; cases c
        · split
          · intro c; cases c
          · intro _; rfl
theorem wOut_l {B s : ByteArray} {l : Int} {a : Nat} (h0 : -2 ≤ l) (h1 : l ≤ 9223372036854775807) : -2 ≤ (wOut B s l a).l ∧ (wOut B s l a).l ≤ 9223372036854775807 := ⟨wL_ge _ _ _ _ h0, wL_le _ _ _ _ h1⟩
theorem fill3_l {B : ByteArray} {l : Int} {k n : Nat} {s : St} (h0 : -2 ≤ l) (h1 : l ≤ 9223372036854775807) : -2 ≤ (fill3 B l k n s).l ∧ (fill3 B l k n s).l ≤ 9223372036854775807 := by
  have a1 : -2 ≤ (fill1 B l k).l ∧ (fill1 B l k).l ≤ 9223372036854775807 := by
    unfold fill1
    split
    · exact ⟨h0, h1⟩
    · split
      · exact ⟨h0, h1⟩
      · exact wOut_l h0 h1
  have a2 : -2 ≤ (fill2 B l k n s).l ∧ (fill2 B l k n s).l ≤ 9223372036854775807 := by
    unfold fill2
    split
    · exact wOut_l a1.1 a1.2
    · exact a1
  unfold fill3
  split
  · exact wOut_l a2.1 a2.2
  · exact a2
theorem pOut_more {B : ByteArray} {l : Int} {m d : Nat} {s : St} {o : POut} (hB : 216 ≤ B.size) (h : Well B false l m) (hm : m < 4000000000) (hd : d < 6) (hs : s.good) (h0 : -2 ≤ l) (h1 : l ≤ 9223372036854775807) (ho : pOut (dealL B.data.toList) false B l d s.ph s.pr s.at_ = o) :
    o.b.size = B.size ∧ (-2 ≤ o.l ∧ o.l ≤ 9223372036854775807) ∧ ((o.c = 0 ∧ o.over = false ∧ o.l ≠ -2) ∨ (o.c = 6 ∧ o.over = true ∧ o.l = -2)) := by
  subst ho
  unfold pOut
  rw [if_neg (by decide), if_pos ⟨by omega, good_fits hs⟩]
  simp only [Int.toNat_natCast]
  have hn := h.num d hd
  refine ⟨putIn_size _, ?_, ?_⟩
  · unfold putIn
    split
    · exact ⟨h0, h1⟩
    · split
      · exact ⟨h0, h1⟩
      · split
        · exact fill3_l h0 h1
        · exact fill3_l h0 h1
  · rcases put_out (s := s) hB hd (fits_of (good_fits hs)) (by omega) (h.pow rfl) with ⟨c, ov, -, hl, -⟩ | ⟨c, ov, hl, -⟩
    · exact .inl ⟨c, ov, hl⟩
    · exact .inr ⟨c, ov, hl⟩
structure HF (n : Nat) (N : PN) (f : F9) (m : Nat) : Prop where
  ni : NI n (hearN N f) (m + 1)
  c : (oHN N f).c = 0 ∨ (oHN N f).c = 6
  up : upN (hearN N f) = decide ((oHN N f).c = 0)
  e : (oHN N f).e = dlN (hearN N f)
  other : ∀ e, e ≠ f.d.toNat → dlN (hearN N f) e = dlN N e
  yes : (oHN N f).c = 0 → stN (hearN N f) f.d.toNat = (gHN N f).st
  no : (oHN N f).c = 6 → dlN (hearN N f) f.d.toNat = dlN N f.d.toNat
  ld : (oHN N f).c = 0 → (hearN N f).ld = N.ld
  good : (gHN N f).st.good
  may : mayN (stN N f.d.toNat).ph (gHN N f).st.ph
theorem hearN_hf {n m : Nat} {N : PN} {f : F9} (h : NI n N m) (hu : N.l ≠ -2) (hf : FI n f) (hm : m < 4000000000) : HF n N f m := by
  have hov := h.up hu
  have hd : f.d.toNat < 6 := by have := hf.ok.2.2.1; omega
  have ha : f.a.toNat ≤ 1048576 := by have := hf.ok.2.2.2.2.1; omega
  have hp : f.ph.toNat ≤ 5 := by have := hf.ok.2.2.2.2.2.1; omega
  have hg := hear_good (stN N f.d.toNat) (N.R f.d.toNat) f.k.toNat f.a.toNat f.ph.toNat (h.gd _ hd) ha hp
  have hgg : (gHN N f).st.good := hg.1
  have hw : Well N.B false N.l m := ⟨h.gd, h.nm, fun _ => hu⟩
  have hB : 216 ≤ N.B.size := by have := h.sz; omega
  obtain ⟨o, ho⟩ : ∃ o, oHN N f = o := ⟨_, rfl⟩
  have ho2 : pOut (dealL N.B.data.toList) false N.B N.l f.d.toNat (gHN N f).st.ph (gHN N f).st.pr (gHN N f).st.at_ = o := by rw [← ho, ← hov]; rfl
  obtain ⟨p1, p2, p3, p4⟩ := put_wellB hB hw hm hd hgg ho2
  obtain ⟨q1, q2, q3⟩ := pOut_more hB hw hm hd hgg h.l0 h.l1 ho2
  rcases q3 with ⟨c, ov, hl⟩ | ⟨c, ov, hl⟩
  · have e : hearN N f = { N with B := o.b, l := o.l, over := o.over } := by unfold hearN; rw [ho, if_neg (by omega)]
    rcases p4 with ⟨-, p4⟩ | ⟨c2, -⟩
    · rw [ov] at p2
      refine ⟨?_, .inl (by rw [ho]; exact c), ?_, ?_, ?_, ?_, ?_, ?_, hgg, hg.2.2.2⟩
      · rw [e]
        refine ⟨p2.good, p2.num, q1.trans h.sz, fun _ => ov, q2.1, q2.2, fun d x hx => ?_⟩
        have := h.ld d x hx
        exact ⟨hl, this.2⟩
      · rw [e, ho, c]; unfold upN; simpa using hl
      · rw [e, ho]; exact p1
      · rw [e]; exact p3
      · intro _; rw [e]; exact p4
      · intro g; rw [ho, c] at g; cases g
      · intro _; rw [e]
    · rw [c] at c2; cases c2
  · have e : hearN N f = fallN { N with B := o.b, over := o.over } := by unfold hearN; rw [ho, if_pos c]
    rcases p4 with ⟨c2, -⟩ | ⟨-, p4⟩
    · rw [c] at c2; cases c2
    · refine ⟨?_, .inr (by rw [ho]; exact c), ?_, ?_, ?_, ?_, ?_, ?_, hgg, hg.2.2.2⟩
      · rw [e]
        exact ⟨p2.good, p2.num, q1.trans h.sz, fun g => (g rfl).elim, by show -2 ≤ (-2 : Int); omega, by show (-2 : Int) ≤ _; omega, fun d x hx => by cases hx⟩
      · rw [e, ho, c]; rfl
      · rw [e, ho]; exact p1
      · rw [e]; exact p3
      · intro g; rw [ho, c] at g; cases g
      · intro _; rw [e]; exact p4
      · intro g; rw [ho, c] at g; cases g
end Go.Proofs.YtbaamegnmeohoacGreatDoor
namespace Go.Proofs.YtbaamegnmeohoacGreatDoor
open Go.RowKit
section
variable {w0 w w' : World} {C : Nat → Nat} {K : NB} {X : XB} {i m : Nat} {zs : List Int} {N : PN} {V : PX} {A : Nat → Addr}
theorem ND.power {l : Int} (h : ND w0 w C K i zs N m) (hk : Kept (In2 K.p K.q) w w') (hp : Pl w' K.p K.q N.B l) (h0 : -2 ≤ l) (h1 : l ≤ 9223372036854775807) : ND w0 w' C K i zs { N with l := l } m := by
  have e1 := h.cs; have e2 := h.cj; have e3 := h.cm; have e4 := h.cp; have e5 := h.cq; have e6 := h.cn
  have nS : ∀ x, C x ≠ 100 * i + 5 → C x ≠ 100 * i + 6 → ¬ In2 K.p K.q x := fun x g1 g2 hx => by
    rcases hx with rfl | rfl
    · exact g1 e4
    · exact g2 e5
  refine ⟨hk.row h.row (nS _ (by omega) (by omega)), h.sp.turn (h.sp.jp.plate hk hp h0 h1 rfl) (hk.mono (fun x hx => .inr hx)), fun d hd x hx => ?_, h.cn, h.cs, h.cj, h.cm, h.cp, h.cq, h.cl, h.n0⟩
  have g := h.cl d hd x hx
  exact (h.lds d hd x hx).kept hk (nS _ (by omega) (by omega)) (nS _ (by omega) (by omega))
theorem ND.in2 (h : ND w0 w C K i zs N m) : ∀ x, In2 K.p K.q x → C x / 100 = i := fun x hx => by
  have e4 := h.cp; have e5 := h.cq
  rcases hx with rfl | rfl <;> omega
theorem ND.in3 (h : ND w0 w C K i zs N m) : ∀ x, In3 K.j K.p K.q x → C x / 100 = i := fun x hx => by
  have e3 := h.cj; have e4 := h.cp; have e5 := h.cq
  rcases hx with rfl | rfl | rfl <;> omega
theorem set6 {w : World} {g : Nat} {a b0 b1 b2 b3 b4 b5 : Value} {t : TypeId} (h : w.heap[g]? = some (.cells #[a, b0, b1, b2, b3, b4, b5] t (0, 0))) (x0 x1 x2 x3 x4 x5 : Value) :
    ((((((w.setCell ⟨g, 1, none⟩ x0).setCell ⟨g, 2, none⟩ x1).setCell ⟨g, 3, none⟩ x2).setCell ⟨g, 4, none⟩ x3).setCell ⟨g, 5, none⟩ x4).setCell ⟨g, 6, none⟩ x5).heap[g]? = some (.cells #[a, x0, x1, x2, x3, x4, x5] t (0, 0)) := by
  have h0 := heap_setCell_same w g 1 _ _ x0 h
  have h1 := heap_setCell_same _ g 2 _ _ x1 h0
  have h2 := heap_setCell_same _ g 3 _ _ x2 h1
  have h3 := heap_setCell_same _ g 4 _ _ x3 h2
  have h4 := heap_setCell_same _ g 5 _ _ x4 h3
  have h5 := heap_setCell_same _ g 6 _ _ x5 h4
  rw [h5]
  rfl
theorem ND.noLeads (h : ND w0 w C K i zs N m) (hl : N.l = -2) :
    ND w0 ((((((w.setCell ⟨K.nd, 1, none⟩ (.pointer none)).setCell ⟨K.nd, 2, none⟩ (.pointer none)).setCell ⟨K.nd, 3, none⟩ (.pointer none)).setCell ⟨K.nd, 4, none⟩ (.pointer none)).setCell ⟨K.nd, 5, none⟩ (.pointer none)).setCell ⟨K.nd, 6, none⟩ (.pointer none)) C K i zs (fallN N) m ∧
    Kept (fun x => C x / 100 = i) w ((((((w.setCell ⟨K.nd, 1, none⟩ (.pointer none)).setCell ⟨K.nd, 2, none⟩ (.pointer none)).setCell ⟨K.nd, 3, none⟩ (.pointer none)).setCell ⟨K.nd, 4, none⟩ (.pointer none)).setCell ⟨K.nd, 5, none⟩ (.pointer none)).setCell ⟨K.nd, 6, none⟩ (.pointer none)) := by
  have e1 := h.cs; have e2 := h.cj; have e3 := h.cm; have e4 := h.cp; have e5 := h.cq; have e6 := h.cn
  have hk : Kept (In1 K.nd) w ((((((w.setCell ⟨K.nd, 1, none⟩ (.pointer none)).setCell ⟨K.nd, 2, none⟩ (.pointer none)).setCell ⟨K.nd, 3, none⟩ (.pointer none)).setCell ⟨K.nd, 4, none⟩ (.pointer none)).setCell ⟨K.nd, 5, none⟩ (.pointer none)).setCell ⟨K.nd, 6, none⟩ (.pointer none)) :=
    ((((((Kept.refl _ w).set1 1 _).set1 2 _).set1 3 _).set1 4 _).set1 5 _).set1 6 _
  have nS : ∀ x, C x ≠ 100 * i + 1 → ¬ In1 K.nd x := fun x g hx => by rw [show x = K.nd from hx] at g; exact g e6
  have hlo : ∀ x, In1 K.nd x → w0.heap.size ≤ x := fun x hx => by rw [show x = K.nd from hx]; exact h.n0
  refine ⟨⟨set6 h.row _ _ _ _ _ _, ?_, fun d hd x hx => (by cases hx), h.cn, h.cs, h.cj, h.cm, h.cp, h.cq, fun d hd x hx => (by cases hx), h.n0⟩, hk.mono (fun x hx => by rw [show x = K.nd from hx]; show C K.nd / 100 = i; omega)⟩
  have := h.sp.far hk hlo (fun x hx => nS x (by rcases hx with rfl | rfl | rfl <;> omega)) (nS _ (by omega)) (nS _ (by omega))
  rw [hl] at this
  exact this
set_option maxRecDepth 100000 in
theorem fall_any (h : ND w0 w C K i zs N m) :
    Calls Tryz.prog 107 #[.pointer (some ⟨K.nd, 0, none⟩)] w fun e w' => e = .returned (.tuple #[]) ∧ ND w0 w' C K i zs (fallN N) m ∧ Kept (fun x => C x / 100 = i) w w' := by
  obtain ⟨c0, c1, c2⟩ := h.way
  have H := hid h
  clear h
  go_enter Tryz.func107, Tryz.ntmps107
  go_wp2_with fail
  refine (poff_any K.p K.q N.B N.l w H.out.sp.jp.pl).mono ?_
  rintro e w1 ⟨rfl, hp, hk⟩
  have HK := hid (hk.mono H.out.in2)
  have H1 := hid (H.out.power hk hp (by decide) (by decide))
  clear hp hk
  have d1 := H1.out.cell 1
  have d2 := H1.out.cell 2
  have d3 := H1.out.cell 3
  have d4 := H1.out.cell 4
  have d5 := H1.out.cell 5
  have d6 := H1.out.cell 6
  have z1 := H1.out.fz 1
  have z2 := H1.out.fz 2
  have z3 := H1.out.fz 3
  have z4 := H1.out.fz 4
  have z5 := H1.out.fz 5
  have z6 := H1.out.fz 6
  simp only [ndC, List.getElem?_cons_succ, List.getElem?_cons_zero] at d1 d2 d3 d4 d5 d6
  go_wp2_with fail
  go_end0
  obtain ⟨g1, g2⟩ := H1.out.noLeads rfl
  exact ⟨rfl, g1, HK.out.trans g2⟩
end
end Go.Proofs.YtbaamegnmeohoacGreatDoor
