/-
  THE LAW LeadDecides: what stands along it; where it ends at once.
-/
import Derived.Test.YtkopfpaldmapdaaDoorQD
import Derived.Test.YtkopfpaldmapdaaDoorQA
import Derived.Test.YtkopfpaldmapdaaDoorTK
namespace Go.Proofs.YtkopfpaldmapdaaDoor
open Go.RowKit

theorem lfinal_is (p : Int) (x : Bool) (w : World) (h : decide (p = 2 ∨ p = 3) = x) : Calls Tryd.prog 34 #[.int .i64 p] w fun e w' => e = .returned (.bool x) ∧ w' = w := by
  subst h
  by_cases h2 : p = 2
  · subst h2
    go_enter Tryd.func34, Tryd.ntmps34
    go_wp2_with fail
    go_ret
    exact ⟨rfl, rfl⟩
  · by_cases h3 : p = 3
    · subst h3
      go_enter Tryd.func34, Tryd.ntmps34
      go_wp2_with fail
      go_ret
      exact ⟨rfl, rfl⟩
    · have e2 : (p == 2) = false := beq_eq_false_iff_ne.2 h2
      have e3 : (p == 3) = false := beq_eq_false_iff_ne.2 h3
      rw [decide_eq_false (by omega)]
      go_enter Tryd.func34, Tryd.ntmps34
      go_wp2_with fail
      go_ret
      exact ⟨by simp [*], rfl⟩
/-- Along the law. -/
structure DJ (w0 w : World) (lb b cap : Nat) (att : Int) (zs : List Int) (P : PL) (acks : Int) (no : Bool) (fin phase : Int) : Prop where
  ld : LD w lb b cap 0 0 att zs P
  di : DI zs.length att P acks no fin phase
  bel : Below w0.heap.size w0 w
  b0 : w0.heap.size ≤ b
section
variable {w0 w w' : World} {lb b cap : Nat} {att : Int} {zs : List Int} {P : PL} {acks : Int} {no : Bool} {fin phase : Int}
theorem DJ.later (h : DJ w0 w lb b cap att zs P acks no fin phase) (hb : Below w.heap.size w w') : DJ w0 w' lb b cap att zs P acks no fin phase :=
  ⟨h.ld.later hb, h.di, h.bel.trans (hb.mono h.bel.size), h.b0⟩
/-- A new block was written. -/
theorem DJ.aside {g : Nat} (h : DJ w0 w lb b cap att zs P acks no fin phase) (k : Kept (In1 g) w w') (hg : lb < g) : DJ w0 w' lb b cap att zs P acks no fin phase := by
  have h1 := h.ld.bl; have h2 := h.b0
  exact ⟨h.ld.kept k (fun e => by have : lb = g := e; omega) (fun e => by have : b = g := e; omega), h.di, k.below h.bel.size (fun i e => by have : i = g := e; omega) h.bel, h.b0⟩
theorem DJ.hear {Q : PL} {acks' : Int} {no' : Bool} {fin' phase' : Int} (h : DJ w0 w lb b cap att zs P acks no fin phase) (hl : LD w' lb b cap 0 0 att zs Q) (k : Kept (In1 lb) w w') (hd : DI zs.length att Q acks' no' fin' phase') : DJ w0 w' lb b cap att zs Q acks' no' fin' phase' := by
  have h1 := h.ld.bl; have h2 := h.b0
  exact ⟨hl, hd, k.below h.bel.size (fun i e => by have : i = lb := e; omega) h.bel, h.b0⟩
end
theorem toL_first (id : Nat) (deal kind att ph : Int) : ∀ {n : Nat}, 1 ≤ n → ∀ {h : 0 < (toL id deal kind att ph n).length}, (toL id deal kind att ph n)[0] = ⟨id, 0, deal, kind, att, false, ph, 0, 0⟩
  | 0, hn, _ => absurd hn (by omega)
  | 1, _, _ => rfl
  | n + 2, _, h => by
    have h1 : 0 < (toL id deal kind att ph (n + 1)).length := by rw [toL_length]; omega
    have := toL_first id deal kind att ph (n := n + 1) (by omega) (h := h1)
    rw [← this]
    exact List.getElem_append_left h1
theorem di0 (n : Nat) (att : Int) : DI n att P0 0 false 0 0 := ⟨P0_w n, .inl rfl, fun _ => ⟨rfl, rfl⟩, fun e => (by cases e), fun s hs hp => by
  have : s = ⟨0, 0, 0⟩ := by
    simp [P0] at hs
    exact hs
  subst this
  rcases hp with hp | hp <;> cases hp⟩
set_option maxHeartbeats 1000000 in
set_option maxRecDepth 100000 in
theorem decides_early (A : Nat → Addr) (v : Value) (zs : List Int) (att : Int) (aL : Option Addr) (n cL : Nat) (w : World) (hv : IsSl w v zs) (hE : Held3 w A) (hn : n ≤ maxLen)
    (h : ¬ (errW zs = 0 ∧ 0 ≤ att ∧ att ≤ 1048576 ∧ n ≤ 60)) :
    Calls Tryd.prog 6 #[v, .int .i64 att, .slice aL n cL] w fun e w' => e = .returned (.bool true) ∧ Below w.heap.size w w' := by
  have HS := hid hv
  have HE := hid hE
  obtain ⟨av, capv, rfl, -, -, -⟩ := hv
  unfold maxLen at hn
  obtain ⟨ec, HEC⟩ : ∃ k, Hid (errW zs = k) := ⟨_, rfl⟩
  rw [HEC.out] at h
  clear hE
  go_enter Tryd.func6, Tryd.ntmps6
  go_wp2_with fail
  refine (leads_any A w HE.out).mono ?_
  rintro e w1 ⟨rfl, hb⟩
  have HS1 := hid (HS.out.later hb)
  have HB := hid hb
  clear hb
  by_cases g1 : ec = 0
  · subst g1
    by_cases g2 : att < 0
    · clear h
      go_wp2_with (go_at_call 27; refine (rErr_is _ zs 0 _ HS1.out HEC.out).mono ?_; rintro e wx ⟨rfl, rfl⟩)
      go_ret
      exact ⟨rfl, HB.out⟩
    · by_cases g3 : 1048576 < att
      · clear h
        go_wp2_with (go_at_call 27; refine (rErr_is _ zs 0 _ HS1.out HEC.out).mono ?_; rintro e wx ⟨rfl, rfl⟩)
        go_ret
        exact ⟨rfl, HB.out⟩
      · have g4 : 60 < n := by
          rcases Nat.lt_or_ge 60 n with x | x
          · exact x
          · exact absurd ⟨rfl, by omega, by omega, x⟩ h
        have g4' : (60 : Int) < (n : Int) := by omega
        clear h
        go_wp2_with (go_at_call 27; refine (rErr_is _ zs 0 _ HS1.out HEC.out).mono ?_; rintro e wx ⟨rfl, rfl⟩)
        go_ret
        exact ⟨rfl, HB.out⟩
  · have g1' : (0 : Int) < (ec : Int) := by omega
    clear h
    go_wp2_with (go_at_call 27; refine (rErr_is _ zs ec _ HS1.out HEC.out).mono ?_; rintro e wx ⟨rfl, rfl⟩)
    go_ret
    exact ⟨rfl, HB.out⟩
end Go.Proofs.YtkopfpaldmapdaaDoor
