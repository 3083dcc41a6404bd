/-
  THE LAW JudgeChecks: its closed fact; the loops ahead of its answer.
-/
import Derived.Test.YtadhpkopkkjmfaaDoorEG
import Derived.Test.YtadhpkopkkjmfaaDoorEHJ
import Derived.Test.YtadhpkopkkjmfaaDoorTQ
import Derived.BigRegion
namespace Go.Proofs.YtadhpkopkkjmfaaDoor
open Go.RowKit

theorem FltV.later {w w' : World} {A : Nat → Addr} {c k base : Nat} {v : Value} (h : FltV w A c k v base) (hb : Below w.heap.size w w') : FltV w' A c k v base := by
  rcases h with h | ⟨x, fb, h1, h2, h3, h4, h5⟩
  · exact .inl h
  · exact .inr ⟨x, fb, h1, h2, h3, cell_later hb h4, cell_later hb h5⟩
/-- The program's Check and the document's are the same. -/
theorem jpair (A : Nat → Addr) (ad adO : Option Addr) (cap capO : Nat) (L : List E3) (n : Int) (W0 : World) (hE : Held9 W0 A) (hL : EL W0 ad L) (hO : EL W0 adO L) (hl : L.length ≤ 60) :
    ∃ r1 r2 : Int, (∀ W, Below W0.heap.size W0 W → Calls Tryd.prog 9 #[.slice ad L.length cap, .int .i64 n] W fun e w' => e = .returned (fltV r1 r2) ∧ Below W.heap.size W w') ∧
      ∀ W, Below W0.heap.size W0 W → Calls Tryd.prog 8 #[.slice adO L.length capO, .int .i64 n] W fun e w' => ∃ v, e = .returned v ∧ Below W.heap.size W w' ∧
        ∀ W3, Below w'.heap.size w' W3 → Calls Tryd.prog 7 #[v, fltV r1 r2] W3 fun e w'' => e = .returned (.bool true) ∧ Below W3.heap.size W3 w'' := by
  by_cases hn : 1 ≤ n ∧ n ≤ 7
  · obtain ⟨c, kk, hF⟩ := evF_ex n L
    refine ⟨(c : Int), if c = 0 then -1 else (kk : Int), fun W hb => ?_, fun W hb => ?_⟩
    · exact revf_ok ad cap L n c kk _ _ W hn.1 hn.2 (hL.later hb) (by omega) hF rfl rfl
    · refine (jcheck_ok A adO capO L n c kk W (hE.later hb) hn.1 hn.2 (hO.later hb) (by omega) hF).mono ?_
      rintro e w' ⟨v, rfl, hv, hb2⟩
      exact ⟨v, rfl, hb2, fun W3 hb3 => faulted_flt A c kk _ v _ _ W3 (((hE.later hb).later hb2).later hb3) hF.le (hv.later hb3) rfl rfl⟩
  · refine ⟨2, -1, fun W _ => revf_no _ n W hn, fun W hb => ?_⟩
    refine (jcheck_no A _ n W (hE.later hb) hn).mono ?_
    rintro e w' ⟨rfl, rfl⟩
    exact ⟨_, rfl, Below.refl _ _, fun W3 hb3 => faulted_bare A W3 ((hE.later hb).later hb3)⟩
end Go.Proofs.YtadhpkopkkjmfaaDoor
