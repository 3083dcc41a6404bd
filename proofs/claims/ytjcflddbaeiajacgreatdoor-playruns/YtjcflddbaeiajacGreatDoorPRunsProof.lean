/-
  PROVED: the law PlayRuns holds: whatever weights, script, set and number of rounds it is called with, it returns true: a world plays as its model does, number by number, then round by round, and the arguments read afterwards as before.
  Condition: package api's error variables and errors.errorType hold at the call what the program's text lays in them (the card ties this).
-/
import Derived.Test.YtjcflddbaeiajacGreatDoorBt53
import Derived.Test.YtjcflddbaeiajacGreatDoorTie
import Derived.OpenShut
import Derived.ShutString
import Derived.ChangeOld
import Derived.ChangeMaps5
import Derived.Stop.Joined
namespace Go.Proofs.YtjcflddbaeiajacGreatDoor
open Go.ChangeShapes Go.WideShapes Go.ChangeAt Go.RowKit
theorem pruns_laid : Rows.playRunsRow.laid = Rows.worldStepsRow.laid := by kernel_rfl
set_option maxRecDepth 100000 in
theorem pruns_lifted (os : Os) (started : os.Started) (H : Type) (enc : TypeId × Value → H) :
    ReturnsInHanded {} Tryz.checked os 7 .any (fun w args => (Rows.playRunsSpec.pre enc Tryz.prog Tryz.f7 [] false w args ∧ laidMetH Tryz.prog Rows.playRunsRow.laid w) ∧ sizedMet enc Tryz.prog Tryz.f7 (OpenSpec.ofChange Rows.playRunsSpec) false w args)
      (Rows.playRunsSpec.post enc Tryz.prog Tryz.f7 false true false false) := by
  refine returnsInHanded_of_change_and (C := Tryz.checked) (X := fun w _ => laidMetH Tryz.prog Rows.playRunsRow.laid w) (fun _ _ _ hh h => h.of_heap hh) own started (by kernel_rfl) Tryz.func7
    (ChangeSpec.witness_shaped (enc := enc) (C := Tryz.checked) (os := os) (X := fun w _ => laidMetH Tryz.prog Rows.playRunsRow.laid w) false (World.doorLaid Tryz.prog 212 os) #[.slice none 0 0, .slice none 0 0, .int .i64 0, .int .i64 0] 8 rfl (World.shaped_of_RefB (by kernel_rfl) (by kernel_rfl)) (by kernel_rfl) (by kernel_rfl) (by kernel_rfl) (by rw [pruns_laid]; exact door_met9 os _)) ?_
  intro W base args ds gs before hval0 hW _ _ hL _
  have hval : ∀ (j : Nat) t v, Tryz.f7.params[j]? = some t → args[j]? = some v → Value.okWide Tryz.prog W .any base t v := hval0
  have hW' := hW
  obtain ⟨p, q, hA0, hV, rfl, hfz, hnd⟩ := hW
  have hA : DataW.TrodAll enc Tryz.prog W 0 (fun _ => true) true Tryz.f7.params.toList args.toList ds p := hA0
  rw [Tryz.params7] at hA hval
  obtain ⟨v0, vs0, d0, ds0, p0, q0, hargs, rfl, rfl, h0, r0⟩ := trodAll_cons hA
  obtain ⟨v1, vs1, d1, ds1, p1, q1, rfl, rfl, rfl, h1, r1⟩ := trodAll_cons r0
  obtain ⟨v2, vs2, d2, ds2, p2, q2, rfl, rfl, rfl, h2, r2⟩ := trodAll_cons r1
  obtain ⟨v3, vs3, d3, ds3, p3, q3, rfl, rfl, rfl, h3, r3⟩ := trodAll_cons r2
  obtain ⟨rfl, rfl, rfl⟩ := trodAll_nil r3
  obtain rfl : args = #[v0, v1, v2, v3] := by cases args; simp_all
  obtain ⟨rfl, rfl⟩ := trodVars_none hV
  obtain ⟨a0, len0, cap0, rfl⟩ := okWide_slice Tryz.underlying22 (hval 0 22 v0 rfl rfl)
  obtain ⟨a1, len1, cap1, rfl⟩ := okWide_slice Tryz.underlying22 (hval 1 22 v1 rfl rfl)
  obtain ⟨a2, rfl, rfl, rfl, w2⟩ := open_int Tryz.underlying3 (hval 2 3 v2 rfl rfl) h2
  obtain ⟨a3, rfl, rfl, rfl, w3⟩ := open_int Tryz.underlying3 (hval 3 3 v3 rfl rfl) h3
  have k0 := h0
  have k1 := h1
  have lt0 : ∀ x ∈ p0, x.block < W.heap.size := by obtain ⟨m, hm⟩ := k0; exact DataW.trod_lt m _ _ _ hm
  have lt1 : ∀ x ∈ p1, x.block < W.heap.size := by obtain ⟨m, hm⟩ := k1; exact DataW.trod_lt m _ _ _ hm
  obtain ⟨z0, w0⟩ : ∃ zs, IsSl W (.slice a0 len0 cap0) zs := by
    obtain ⟨fuel, hf⟩ := h0
    exact isSl_of_trod hf
  obtain ⟨z1, w1, hr1⟩ : ∃ zs, IsSl W (.slice a1 len1 cap1) zs ∧ ∀ x, x ∈ zs → x ≤ 9223372036854775807 := by
    obtain ⟨fuel, hf⟩ := h1
    exact isSlIn_of_trod hf
  obtain ⟨A, hE⟩ := held9_of_laid (by rw [pruns_laid] at hL; exact hL)
  clear hA0 hval0
  refine (pruns_any (fun w aw cap zs hs he => rwnew_ok hs he) A (.slice a0 len0 cap0) (.slice a1 len1 cap1) z0 z1 a2 a3 W hE w0 w1 hr1 (int_top w2)).mono fun e W' ⟨he, bel⟩ => ?_
  subst he
  exact ⟨_, rfl, _, _, _, [], _, [], hW', trodAll_mk1 (shut_bool Tryz.underlying4 _), (trodAll_cons_mk (Below.trod laidOut (by kernel_rfl) (of_decide_eq_true (by kernel_rfl)) k0 bel lt0) (trodAll_cons_mk (Below.trod laidOut (by kernel_rfl) (of_decide_eq_true (by kernel_rfl)) k1 bel lt1) (trodAll_cons_mk (shut_int Tryz.underlying3 w2) (trodAll_cons_mk (shut_int Tryz.underlying3 w3) trodAll_mk0)))), rfl, bel.frame _, fun h => by cases h⟩
theorem pruns_named : Tryz.prog.funcNamed Rows.playRunsRow.func = some 7 := by kernel_rfl
theorem pruns_instB : decide (Tryz.f7.isInstance Tryz.prog Rows.playRunsRow.origin Rows.playRunsRow.targs) = true := by kernel_rfl
theorem pruns_wrap : Tryz.f7.isWrapper Tryz.prog Rows.playRunsRow.wrapper Rows.playRunsRow.mainSum := by
  unfold Func.isWrapper
  first
  | (rw [if_pos (by decide +kernel)]; kernel_rfl)
  | (rw [if_neg (by decide +kernel)]; exact ⟨rfl, rfl⟩)
theorem pruns_holds : Rows.PlayRunsSaid := by
  first
  | exact OpenClaim.holds_of_wide_leaving 7 Tryz.f7 rfl rfl rfl rfl rfl rfl rfl ⟨rfl, rfl, rfl, rfl, rfl⟩ rfl rfl rfl rfl rfl pruns_named Tryz.func7 pruns_closed
      (of_decide_eq_true pruns_instB) pruns_wrap
      (fun os started H enc _ => leaving_of_handed (pruns_lifted os started H enc))
  | exact OpenClaim.holds_of_wide 7 Tryz.f7 rfl rfl rfl rfl rfl rfl rfl ⟨rfl, rfl, rfl, rfl, rfl⟩ rfl rfl rfl rfl rfl pruns_named Tryz.func7 pruns_closed
      (of_decide_eq_true pruns_instB) pruns_wrap
      (fun os started H enc _ => pruns_lifted os started H enc)
theorem pruns_wf : Rows.playRunsRow.wfByText (OpenSpec.ofChange Rows.playRunsSpec) = true := by kernel_rfl
theorem pruns_main : Tryz.prog.mainIs = some (true, "a741fac919bac808fd7b7d59f27662e945b28d68910273552ba0846a0acaf6fb".toList) := by kernel_rfl
theorem pruns_goes : Rows.playRunsCard.goes = Rows.playRunsRow.goesBy Tryz.prog := by kernel_rfl
theorem pruns_looks : true = Tryz.prog.looks [] := by kernel_rfl
theorem pruns_stand : ([22, 22, 3, 3].all fun u => !Tryz.prog.wantsStandIn u) = true := by kernel_rfl
theorem pruns_card : Rows.PlayRunsCardSaid :=
  tied_goes .later [] [.handle, .sentinel, .sentinel, .sentinel, .sentinel, .sentinel, .sentinel, .sentinel, .sentinel, .sentinel] true (true, "a741fac919bac808fd7b7d59f27662e945b28d68910273552ba0846a0acaf6fb") true Rows.playRunsCard.goes
    pruns_holds (fun _ h => by cases h) pruns_wf (fun _ h => by cases h) playRuns_row_tie rfl ⟨rfl, rfl⟩ pruns_main rfl
    (fun f fn hf hfn => by
      obtain rfl : f = 7 := Option.some.inj (pruns_named.symm.trans hf) |>.symm
      obtain rfl : fn = Tryz.f7 := (Option.some.inj (Tryz.func7.symm.trans hfn)).symm
      exact ⟨pruns_looks, fun j t ht => by
        rw [Tryz.params7] at ht
        have hm : t ∈ [22, 22, 3, 3] := by simpa using Array.mem_of_getElem? ht
        exact (show Tryz.prog.wantsStandIn t = false by simpa using List.all_eq_true.1 pruns_stand t hm)⟩)
    pruns_goes
#print axioms pruns_card
end Go.Proofs.YtjcflddbaeiajacGreatDoor
