/-
  THE LAW LeadStale: what stands along it.
-/
import Derived.Test.YtkopfpaldmapdaaDoorQ9
import Derived.Test.YtkopfpaldmapdaaDoorQI
import Derived.Deep.CutBlock
namespace Go.Proofs.YtkopfpaldmapdaaDoor
open Go.RowKit

/-- Two leads that are alike. -/
structure SI (w0 w : World) (lx bx cx ly by_ cy : Nat) (att : Int) (zs : List Int) (P : PL) : Prop where
  x : LD w lx bx cx 0 0 att zs P
  y : LD w ly by_ cy 0 0 att zs P
  bel : Below w0.heap.size w0 w
  x0 : w0.heap.size ≤ bx
  yx : lx < by_
  st : P.stt < 4
section
variable {w0 w w' : World} {lx bx cx ly by_ cy : Nat} {att : Int} {zs : List Int} {P : PL}
theorem SI.later (h : SI w0 w lx bx cx ly by_ cy att zs P) (hb : Below w.heap.size w w') : SI w0 w' lx bx cx ly by_ cy att zs P :=
  ⟨h.x.later hb, h.y.later hb, h.bel.trans (hb.mono h.bel.size), h.x0, h.yx, h.st⟩
theorem SI.drew (h : SI w0 w lx bx cx ly by_ cy att zs P) : SI w0 w.drew lx bx cx ly by_ cy att zs P := h.later (Below.refl _ _).drew
/-- The second one passed a frame over. -/
theorem SI.pass (h : SI w0 w lx bx cx ly by_ cy att zs P) (hy : LD w' ly by_ cy 0 0 att zs P) (k : Kept (In1 ly) w w') : SI w0 w' lx bx cx ly by_ cy att zs P := by
  have h1 := h.x.bl; have h2 := h.y.bl; have h3 := h.yx; have h4 := h.x0
  exact ⟨h.x.kept k (fun e => by have : lx = ly := e; omega) (fun e => by have : bx = ly := e; omega), hy, k.below h.bel.size (fun i e => by have : i = ly := e; omega) h.bel, h.x0, h.yx, h.st⟩
/-- The first one heard a frame. -/
theorem SI.one (h : SI w0 w lx bx cx ly by_ cy att zs P) (k : Kept (In1 lx) w w') : LD w' ly by_ cy 0 0 att zs P ∧ Below w0.heap.size w0 w' := by
  have h1 := h.x.bl; have h2 := h.y.bl; have h3 := h.yx; have h4 := h.x0
  exact ⟨h.y.kept k (fun e => by have : ly = lx := e; omega) (fun e => by have : by_ = lx := e; omega), k.below h.bel.size (fun i e => by have : i = lx := e; omega) h.bel⟩
/-- Both heard it. -/
theorem SI.both {V : World} {Q : PL} (h : SI w0 w lx bx cx ly by_ cy att zs P) (hx : LD w' lx bx cx 0 0 att zs Q) (k : Kept (In1 lx) w w') (hy : LD V ly by_ cy 0 0 att zs Q) (k2 : Kept (In1 ly) w' V) (hq : Q.stt < 4) : SI w0 V lx bx cx ly by_ cy att zs Q := by
  have h1 := h.x.bl; have h2 := h.y.bl; have h3 := h.yx; have h4 := h.x0
  have hb := (h.one k).2
  exact ⟨hx.kept k2 (fun e => by have : lx = ly := e; omega) (fun e => by have : bx = ly := e; omega), hy, k2.below hb.size (fun i e => by have : i = ly := e; omega) hb, h.x0, h.yx, hq⟩
end
theorem rErr_is (v : Value) (zs : List Int) (n : Nat) (w : World) (hv : IsSl w v zs) (hn : errW zs = n) :
    Calls Tryd.prog 27 #[v] w fun e w' => e = .returned (.int .i64 (n : Int)) ∧ w' = w := by
  subst hn; exact rErr_any v zs w hv
set_option maxHeartbeats 1000000 in
set_option maxRecDepth 100000 in
theorem stale_early (A : Nat → Addr) (v : Value) (zs : List Int) (att : Int) (aL aM : Option Addr) (n cL m cM : Nat) (w : World) (hv : IsSl w v zs) (hE : Held3 w A) (hn : n ≤ maxLen) (hm : m ≤ maxLen)
    (h : ¬ (errW zs = 0 ∧ 1 ≤ att ∧ att ≤ 1048576 ∧ n ≤ 60 ∧ m ≤ 60)) :
    Calls Tryd.prog 7 #[v, .int .i64 att, .slice aL n cL, .slice aM m cM] w fun e w' => e = .returned (.bool true) ∧ Below w.heap.size w w' := by
  have HS := hid hv
  have HE := hid hE
  obtain ⟨av, capv, rfl, -, -, -⟩ := hv
  unfold maxLen at hn hm
  obtain ⟨ec, HEC⟩ : ∃ k, Hid (errW zs = k) := ⟨_, rfl⟩
  rw [HEC.out] at h
  clear hE
  go_enter Tryd.func7, Tryd.ntmps7
  go_wp2_with fail
  refine (leads_any A w HE.out).mono ?_
  rintro e w1 ⟨rfl, hb⟩
  have HS1 := hid (HS.out.later hb)
  have HB := hid hb
  clear hb
  by_cases g1 : ec = 0
  · subst g1
    by_cases g2 : att < 1
    · clear h
      go_wp2_with (go_at_call 27; refine (rErr_is _ zs 0 _ HS1.out HEC.out).mono ?_; rintro e wx ⟨rfl, rfl⟩)
      go_ret
      exact ⟨rfl, HB.out⟩
    · by_cases g3 : 1048576 < att
      · clear h
        go_wp2_with (go_at_call 27; refine (rErr_is _ zs 0 _ HS1.out HEC.out).mono ?_; rintro e wx ⟨rfl, rfl⟩)
        go_ret
        exact ⟨rfl, HB.out⟩
      · by_cases g4 : 60 < n
        · clear h
          have g4' : (60 : Int) < (n : Int) := by omega
          go_wp2_with (go_at_call 27; refine (rErr_is _ zs 0 _ HS1.out HEC.out).mono ?_; rintro e wx ⟨rfl, rfl⟩)
          go_ret
          exact ⟨rfl, HB.out⟩
        · have g5 : 60 < m := by
            rcases Nat.lt_or_ge 60 m with x | x
            · exact x
            · exact absurd ⟨rfl, by omega, by omega, by omega, x⟩ h
          have g4' : ¬ (60 : Int) < (n : Int) := by omega
          have g5' : (60 : Int) < (m : Int) := by omega
          clear h
          go_wp2_with (go_at_call 27; refine (rErr_is _ zs 0 _ HS1.out HEC.out).mono ?_; rintro e wx ⟨rfl, rfl⟩)
          go_ret
          exact ⟨rfl, HB.out⟩
  · have g1' : (0 : Int) < (ec : Int) := by omega
    clear h
    go_wp2_with (go_at_call 27; refine (rErr_is _ zs ec _ HS1.out HEC.out).mono ?_; rintro e wx ⟨rfl, rfl⟩)
    go_ret
    exact ⟨rfl, HB.out⟩
end Go.Proofs.YtkopfpaldmapdaaDoor
