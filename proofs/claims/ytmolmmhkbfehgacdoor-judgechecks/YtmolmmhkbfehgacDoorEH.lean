/-
  THE LAW JudgeChecks: its closed fact; the loops ahead of its answer.
-/
import Derived.Test.YtmolmmhkbfehgacDoorEG
import Derived.Test.YtmolmmhkbfehgacDoorTQ
import Derived.BigRegion
namespace Go.Proofs.YtmolmmhkbfehgacDoor
open Go.RowKit

theorem evF_nil (n : Int) : EvF n [] 0 0 := ⟨fun _ h => absurd h (Nat.not_lt_zero _), .inl ⟨rfl, rfl⟩⟩
theorem agF_nil : AgF [] 0 0 := ⟨fun _ h => absurd h (Nat.not_lt_zero _), .inl ⟨rfl, rfl⟩⟩
theorem FltV.nil {w : World} {A : Nat → Addr} {k base : Nat} {v : Value} (h : FltV w A 0 k v base) : v = .nilIface := by
  rcases h with ⟨-, h⟩ | ⟨x, _, h, -⟩
  · exact h
  · cases h
set_option maxHeartbeats 1000000 in
set_option maxRecDepth 100000 in
theorem judged_any (A : Nat → Addr) (w : World) (hE : Held9 w A) : Calls Tryd.prog 7 #[] w fun e w' => e = .returned (.bool true) ∧ Below w.heap.size w w' := by
  have HE := hid hE
  clear hE
  go_enter Tryd.func7, Tryd.ntmps7
  go_wp2_with fail
  refine (jcheck_ok A none 0 [] 1 0 0 w HE.out (by decide) (by decide) (EL.nil _ _) (by simp) (evF_nil 1)).mono ?_
  rintro e w1 ⟨v, rfl, hv, hb⟩
  obtain rfl := hv.nil
  have HB1 := hid hb
  clear hb hv
  go_wp2_with fail
  refine (jcheck_no A _ 0 w1 (HE.out.later HB1.out) (by decide)).mono ?_
  rintro e w2 ⟨rfl, hx⟩
  subst w2
  rw [show ev A 2 = .iface 169 (.pointer (some (A 1))) from rfl]
  go_wp2_with fail
  refine (coded_at A 1 2 w1 (HE.out.later HB1.out) (by decide)).mono ?_
  rintro e w2 ⟨rfl, hb2⟩
  have HB2 := hid (below_trans HB1.out hb2)
  clear hb2
  rw [show (((1 : Nat) : Int) + 1 == 2) = true from rfl]
  go_wp2_with fail
  refine (jagree_any A none 0 [] 0 0 w2 (HE.out.later HB2.out) (SL.nil _ _) (by simp) agF_nil).mono ?_
  rintro e w3 ⟨v, rfl, hv, hb⟩
  obtain rfl := hv.nil
  have HB3 := hid (below_trans HB2.out hb)
  clear hb hv
  go_wp2_with fail
  go_ret
  exact ⟨rfl, HB3.out⟩
theorem FltV.later {w w' : World} {A : Nat → Addr} {c k base : Nat} {v : Value} (h : FltV w A c k v base) (hb : Below w.heap.size w w') : FltV w' A c k v base := by
  rcases h with h | ⟨x, fb, h1, h2, h3, h4, h5⟩
  · exact .inl h
  · exact .inr ⟨x, fb, h1, h2, h3, cell_later hb h4, cell_later hb h5⟩
/-- The program's Check and the document's are the same. -/
theorem jpair (A : Nat → Addr) (ad adO : Option Addr) (cap capO : Nat) (L : List E3) (n : Int) (W0 : World) (hE : Held9 W0 A) (hL : EL W0 ad L) (hO : EL W0 adO L) (hl : L.length ≤ 60) :
    ∃ r1 r2 : Int, (∀ W, Below W0.heap.size W0 W → Calls Tryd.prog 12 #[.slice ad L.length cap, .int .i64 n] W fun e w' => e = .returned (fltV r1 r2) ∧ Below W.heap.size W w') ∧
      ∀ W, Below W0.heap.size W0 W → Calls Tryd.prog 11 #[.slice adO L.length capO, .int .i64 n] W fun e w' => ∃ v, e = .returned v ∧ Below W.heap.size W w' ∧
        ∀ W3, Below w'.heap.size w' W3 → Calls Tryd.prog 10 #[v, fltV r1 r2] W3 fun e w'' => e = .returned (.bool true) ∧ Below W3.heap.size W3 w'' := by
  by_cases hn : 1 ≤ n ∧ n ≤ 7
  · obtain ⟨c, kk, hF⟩ := evF_ex n L
    refine ⟨(c : Int), if c = 0 then -1 else (kk : Int), fun W hb => ?_, fun W hb => ?_⟩
    · exact revf_ok ad cap L n c kk _ _ W hn.1 hn.2 (hL.later hb) (by omega) hF rfl rfl
    · refine (jcheck_ok A adO capO L n c kk W (hE.later hb) hn.1 hn.2 (hO.later hb) (by omega) hF).mono ?_
      rintro e w' ⟨v, rfl, hv, hb2⟩
      exact ⟨v, rfl, hb2, fun W3 hb3 => faulted_flt A c kk _ v _ _ W3 (((hE.later hb).later hb2).later hb3) hF.le (hv.later hb3) rfl rfl⟩
  · refine ⟨2, -1, fun W _ => revf_no _ n W hn, fun W hb => ?_⟩
    refine (jcheck_no A _ n W (hE.later hb) hn).mono ?_
    rintro e w' ⟨rfl, rfl⟩
    exact ⟨_, rfl, Below.refl _ _, fun W3 hb3 => faulted_bare A W3 ((hE.later hb).later hb3)⟩
end Go.Proofs.YtmolmmhkbfehgacDoor
