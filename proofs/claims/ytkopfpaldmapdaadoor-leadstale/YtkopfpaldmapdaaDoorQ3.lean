/-
  THE PROGRAM's LEAD: waitsFor, takes.
-/
import Derived.Test.YtkopfpaldmapdaaDoorQ2
namespace Go.Proofs.YtkopfpaldmapdaaDoor
open Go.RowKit

theorem st_eq0 (k : Nat) (hk : k < 4) : (stP k == ⟨#[97, 115, 107, 105, 110, 103]⟩) = (k == 0) := by
  match k, hk with
  | 0, _ => decide
  | 1, _ => decide
  | 2, _ => decide
  | 3, _ => decide
theorem st_eq1 (k : Nat) (hk : k < 4) : (stP k == ⟨#[112, 114, 101, 112, 97, 114, 105, 110, 103]⟩) = (k == 1) := by
  match k, hk with
  | 0, _ => decide
  | 1, _ => decide
  | 2, _ => decide
  | 3, _ => decide
section
variable {w : World} {lb b cap id : Nat} {deal att : Int} {zs : List Int} {P : PL}
set_option maxRecDepth 100000 in
theorem ldwaits_any (k : Int) (hs : P.stt < 4) (h : LD w lb b cap id deal att zs P) :
    Calls Tryd.prog 81 #[.pointer (some ⟨lb, 0, none⟩), .int .i64 k] w fun e w' => e = .returned (.bool (waitsB P att k)) ∧ w' = w := by
  obtain ⟨c0, c1, c2, c3, c4, c5, c27, c28, c29⟩ := h.cells
  clear h
  unfold waitsB
  generalize P.stt = q at hs c4 ⊢
  by_cases k2 : k = 2
  · subst k2
    match q, hs with
    | 0, _ =>
      rw [stP0] at c4
      by_cases ha : att = 0
      · subst ha
        go_enter Tryd.func81, Tryd.ntmps81
        go_wp2_with fail
        go_ret
        exact ⟨rfl, rfl⟩
      · go_enter Tryd.func81, Tryd.ntmps81
        go_wp2_with fail
        go_ret
        exact ⟨by simp [ha], rfl⟩
    | 1, _ =>
      rw [stP1] at c4
      go_enter Tryd.func81, Tryd.ntmps81
      go_wp2_with fail
      go_ret
      exact ⟨rfl, rfl⟩
    | 2, _ =>
      rw [stP2] at c4
      go_enter Tryd.func81, Tryd.ntmps81
      go_wp2_with fail
      go_ret
      exact ⟨rfl, rfl⟩
    | 3, _ =>
      rw [stP3] at c4
      go_enter Tryd.func81, Tryd.ntmps81
      go_wp2_with fail
      go_ret
      exact ⟨rfl, rfl⟩
  · by_cases k4 : k = 4
    · subst k4
      match q, hs with
      | 0, _ =>
        rw [stP0] at c4
        by_cases ha : 0 < att
        · go_enter Tryd.func81, Tryd.ntmps81
          go_wp2_with fail
          go_ret
          exact ⟨by simp [ha], rfl⟩
        · go_enter Tryd.func81, Tryd.ntmps81
          go_wp2_with fail
          go_ret
          exact ⟨by simp [ha], rfl⟩
      | 1, _ =>
        rw [stP1] at c4
        go_enter Tryd.func81, Tryd.ntmps81
        go_wp2_with fail
        go_ret
        exact ⟨rfl, rfl⟩
      | 2, _ =>
        rw [stP2] at c4
        go_enter Tryd.func81, Tryd.ntmps81
        go_wp2_with fail
        go_ret
        exact ⟨rfl, rfl⟩
      | 3, _ =>
        rw [stP3] at c4
        go_enter Tryd.func81, Tryd.ntmps81
        go_wp2_with fail
        go_ret
        exact ⟨rfl, rfl⟩
    · by_cases k6 : k = 6
      · subst k6
        match q, hs with
        | 0, _ =>
          rw [stP0] at c4
          go_enter Tryd.func81, Tryd.ntmps81
          go_wp2_with fail
          go_ret
          exact ⟨rfl, rfl⟩
        | 1, _ =>
          rw [stP1] at c4
          go_enter Tryd.func81, Tryd.ntmps81
          go_wp2_with fail
          go_ret
          exact ⟨rfl, rfl⟩
        | 2, _ =>
          rw [stP2] at c4
          go_enter Tryd.func81, Tryd.ntmps81
          go_wp2_with fail
          go_ret
          exact ⟨rfl, rfl⟩
        | 3, _ =>
          rw [stP3] at c4
          go_enter Tryd.func81, Tryd.ntmps81
          go_wp2_with fail
          go_ret
          exact ⟨rfl, rfl⟩
      · go_enter Tryd.func81, Tryd.ntmps81
        go_wp2_with fail
        go_ret
        exact ⟨by simp [k2, k4, k6], rfl⟩
end
end Go.Proofs.YtkopfpaldmapdaaDoor
