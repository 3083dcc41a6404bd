/-
  PROVED: the law ScriptReads holds: whatever lines it is called with, it returns true: Run answers every line, a line of no command by the error of a text, more than a hundred by the error of a bound; and the lines read afterwards as before.
  Condition: package api's error variables, errors.errorType and the tables that are listed hold at the call what the program's text lays in them (the card ties this).
-/
import Derived.Test.YtjcflddbaeiajacGreatDoorBu52
import Derived.Test.YtjcflddbaeiajacGreatDoorTie
import Derived.OpenShut
import Derived.ShutString
import Derived.ChangeOld
import Derived.ChangeMaps5
import Derived.Stop.Joined
namespace Go.Proofs.YtjcflddbaeiajacGreatDoor
open Go.ChangeShapes Go.WideShapes Go.ChangeAt Go.RowKit
set_option maxRecDepth 100000 in
theorem sreads_lifted (os : Os) (started : os.Started) (H : Type) (enc : TypeId × Value → H) :
    ReturnsInHanded {} Tryz.checked os 9 .any (fun w args => (Rows.scriptReadsSpec.pre enc Tryz.prog Tryz.f9 [] false w args ∧ laidMetH Tryz.prog Rows.scriptReadsRow.laid w) ∧ sizedMet enc Tryz.prog Tryz.f9 (OpenSpec.ofChange Rows.scriptReadsSpec) false w args)
      (Rows.scriptReadsSpec.post enc Tryz.prog Tryz.f9 false true false false) := by
  refine returnsInHanded_of_change_and (C := Tryz.checked) (X := fun w _ => laidMetH Tryz.prog Rows.scriptReadsRow.laid w) (fun _ _ _ hh h => h.of_heap hh) own started (by kernel_rfl) Tryz.func9
    (ChangeSpec.witness_shaped (enc := enc) (C := Tryz.checked) (os := os) (X := fun w _ => laidMetH Tryz.prog Rows.scriptReadsRow.laid w) false ((World.doorLaid Tryz.prog 212 os).layVars Tryz.prog srGreat) #[.slice none 0 0] 8 (World.layVars_os _ _ _) (World.shaped_of_ZipB (by kernel_rfl) (by kernel_rfl)) (by kernel_rfl) (by kernel_rfl) (by kernel_rfl) (sreads_door os _)) ?_
  intro W base args ds gs before hval0 hW _ _ hL _
  have hval : ∀ (j : Nat) t v, Tryz.f9.params[j]? = some t → args[j]? = some v → Value.okWide Tryz.prog W .any base t v := hval0
  have hW' := hW
  obtain ⟨p, q, hA0, hV, rfl, hfz, hnd⟩ := hW
  have hA : DataW.TrodAll enc Tryz.prog W 0 (fun _ => true) true Tryz.f9.params.toList args.toList ds p := hA0
  rw [Tryz.params9] at hA hval
  obtain ⟨v0, vs0, d0, ds0, p0, q0, hargs, rfl, rfl, h0, r0⟩ := trodAll_cons hA
  obtain ⟨rfl, rfl, rfl⟩ := trodAll_nil r0
  obtain rfl : args = #[v0] := by cases args; simp_all
  obtain ⟨rfl, rfl⟩ := trodVars_none hV
  obtain ⟨a0, len0, cap0, rfl⟩ := okWide_slice Tryz.underlying74 (hval 0 74 v0 rfl rfl)
  have k0 := h0
  have lt0 : ∀ x ∈ p0, x.block < W.heap.size := by obtain ⟨m, hm⟩ := k0; exact DataW.trod_lt m _ _ _ hm
  obtain ⟨xs, hn, hx⟩ : ∃ xs : List ByteArray, xs.length = len0 ∧ IsSs W a0 xs := by
    obtain ⟨fuel, hf⟩ := h0
    exact strs_of_trod hf
  subst hn
  obtain ⟨A, hE, hX, hT⟩ := heldO_of_laid hL
  clear hA0 hval0
  refine (sreads_any a0 cap0 xs hx hE hT hX).mono fun e W' ⟨he, bel⟩ => ?_
  subst he
  exact ⟨_, rfl, _, _, _, [], _, [], hW', trodAll_mk1 (shut_bool Tryz.underlying4 _), trodAll_cons_mk (Below.trod laidOut (by kernel_rfl) (of_decide_eq_true (by kernel_rfl)) k0 bel lt0) trodAll_mk0, rfl, bel.frame _, fun h => by cases h⟩
theorem sreads_named : Tryz.prog.funcNamed Rows.scriptReadsRow.func = some 9 := by kernel_rfl
theorem sreads_instB : decide (Tryz.f9.isInstance Tryz.prog Rows.scriptReadsRow.origin Rows.scriptReadsRow.targs) = true := by kernel_rfl
theorem sreads_wrap : Tryz.f9.isWrapper Tryz.prog Rows.scriptReadsRow.wrapper Rows.scriptReadsRow.mainSum := by
  unfold Func.isWrapper
  first
  | (rw [if_pos (by decide +kernel)]; kernel_rfl)
  | (rw [if_neg (by decide +kernel)]; exact ⟨rfl, rfl⟩)
theorem sreads_holds : Rows.ScriptReadsSaid := by
  first
  | exact OpenClaim.holds_of_wide_leaving 9 Tryz.f9 rfl rfl rfl rfl rfl rfl rfl ⟨rfl, rfl, rfl, rfl, rfl⟩ rfl rfl rfl rfl rfl sreads_named Tryz.func9 sreads_closed
      (of_decide_eq_true sreads_instB) sreads_wrap
      (fun os started H enc _ => leaving_of_handed (sreads_lifted os started H enc))
  | exact OpenClaim.holds_of_wide 9 Tryz.f9 rfl rfl rfl rfl rfl rfl rfl ⟨rfl, rfl, rfl, rfl, rfl⟩ rfl rfl rfl rfl rfl sreads_named Tryz.func9 sreads_closed
      (of_decide_eq_true sreads_instB) sreads_wrap
      (fun os started H enc _ => sreads_lifted os started H enc)
theorem sreads_wf : Rows.scriptReadsRow.wfByText (OpenSpec.ofChange Rows.scriptReadsSpec) = true := by kernel_rfl
theorem sreads_main : Tryz.prog.mainIs = some (true, "a741fac919bac808fd7b7d59f27662e945b28d68910273552ba0846a0acaf6fb".toList) := by kernel_rfl
theorem sreads_goes : Rows.scriptReadsCard.goes = Rows.scriptReadsRow.goesBy Tryz.prog := by kernel_rfl
theorem sreads_looks : true = Tryz.prog.looks [] := by kernel_rfl
theorem sreads_stand : ([74].all fun u => !Tryz.prog.wantsStandIn u) = true := by kernel_rfl
theorem sreads_card : Rows.ScriptReadsCardSaid :=
  tied_goes .later [] [.data, .data, .data, .data, .handle, .sentinel, .sentinel, .sentinel, .sentinel, .sentinel, .sentinel, .sentinel, .sentinel, .sentinel, .pinned] true (true, "a741fac919bac808fd7b7d59f27662e945b28d68910273552ba0846a0acaf6fb") true Rows.scriptReadsCard.goes
    sreads_holds (fun _ h => by cases h) sreads_wf (fun _ h => by cases h) scriptReads_row_tie rfl ⟨rfl, rfl⟩ sreads_main rfl
    (fun f fn hf hfn => by
      obtain rfl : f = 9 := Option.some.inj (sreads_named.symm.trans hf) |>.symm
      obtain rfl : fn = Tryz.f9 := (Option.some.inj (Tryz.func9.symm.trans hfn)).symm
      exact ⟨sreads_looks, fun j t ht => by
        rw [Tryz.params9] at ht
        have hm : t ∈ [74] := by simpa using Array.mem_of_getElem? ht
        exact (show Tryz.prog.wantsStandIn t = false by simpa using List.all_eq_true.1 sreads_stand t hm)⟩)
    sreads_goes
#print axioms sreads_card
end Go.Proofs.YtjcflddbaeiajacGreatDoor
