/-
  PROVED: the law ScriptPlays holds: whatever commands it is called with, it returns true: each line is answered as the document answers it; and the lines read afterwards as before.
  Condition: eight of package api's error variables and the tables that are listed hold at the call what the program's text lays in them (the card ties this).
-/
import Derived.Test.YtaehdgemkafinaaGreatDoorBx52
import Derived.Test.YtaehdgemkafinaaGreatDoorBx46
import Derived.Test.YtaehdgemkafinaaGreatDoorTie
import Derived.OpenShut
import Derived.ShutString
import Derived.ChangeOld
import Derived.ChangeMaps5
import Derived.Stop.Joined
namespace Go.Proofs.YtaehdgemkafinaaGreatDoor
open Go.ChangeShapes Go.WideShapes Go.ChangeAt Go.RowKit
open Go.Proofs.Tryz
set_option maxRecDepth 100000 in
theorem mS (os : Os) (started : os.Started) (H : Type) (enc : TypeId × Value → H) :
    ReturnsInHanded {} Tryz.checked os 5 .any (fun w args => (Rows.scriptPlaysSpec.pre enc prog Tryz.f5 [] false w args ∧ laidMetH prog Rows.scriptPlaysRow.laid w) ∧ sizedMet enc prog Tryz.f5 (OpenSpec.ofChange Rows.scriptPlaysSpec) false w args)
      (Rows.scriptPlaysSpec.post enc prog Tryz.f5 false true false false) := by
  refine returnsInHanded_of_change_and (C := Tryz.checked) (X := fun w _ => laidMetH prog Rows.scriptPlaysRow.laid w) (fun _ _ _ hh h => h.of_heap hh) own started (by kernel_rfl) func5
    (ChangeSpec.witness_shaped (enc := enc) (C := Tryz.checked) (os := os) (X := fun w _ => laidMetH prog Rows.scriptPlaysRow.laid w) false ((World.doorLaid prog 212 os).layVars prog jw) #[.slice none 0 0] 8 (World.layVars_os _ _ _) (World.shaped_of_ZipB (by kernel_rfl) (by kernel_rfl)) (by kernel_rfl) (by kernel_rfl) (by kernel_rfl) (yz os _)) ?_
  intro W base args ds gs before hval0 hW _ _ hL _
  have hval : ∀ (j : Nat) t v, Tryz.f5.params[j]? = some t → args[j]? = some v → Value.okWide prog W .any base t v := hval0
  have hW' := hW
  obtain ⟨p, q, hA0, hV, rfl, hfz, hnd⟩ := hW
  have hA : DataW.TrodAll enc prog W 0 (fun _ => true) true Tryz.f5.params.toList args.toList ds p := hA0
  rw [params5] at hA hval
  obtain ⟨v0, vs0, d0, ds0, p0, q0, hargs, rfl, rfl, h0, r0⟩ := trodAll_cons hA
  obtain ⟨rfl, rfl, rfl⟩ := trodAll_nil r0
  obtain rfl : args = #[v0] := by cases args; simp_all
  obtain ⟨rfl, rfl⟩ := trodVars_none hV
  obtain ⟨a0, len0, cap0, rfl⟩ := okWide_slice underlying33 (hval 0 33 v0 rfl rfl)
  have k0 := h0
  have lt0 : ∀ x ∈ p0, x.block < W.heap.size := by obtain ⟨m, hm⟩ := k0; exact DataW.trod_lt m _ _ _ hm
  obtain ⟨xs, hn, hx⟩ : ∃ xs : List Ln, xs.length = len0 ∧ IsLn W a0 xs := by
    obtain ⟨fuel, hf⟩ := h0
    exact wk hf
  subst hn
  obtain ⟨A, hE, hX, hT⟩ := tD hL
  clear hA0 hval0
  refine (zX a0 cap0 xs hx hE hT hX).mono fun e W' ⟨he, bel⟩ => ?_
  subst he
  exact ⟨_, rfl, _, _, _, [], _, [], hW', trodAll_mk1 (shut_bool underlying4 _), trodAll_cons_mk (Below.trod afD (by kernel_rfl) (of_decide_eq_true (by kernel_rfl)) k0 bel lt0) trodAll_mk0, rfl, bel.frame _, fun h => by cases h⟩
theorem kE : prog.funcNamed Rows.scriptPlaysRow.func = some 5 := by kernel_rfl
theorem mY : decide (Tryz.f5.isInstance prog Rows.scriptPlaysRow.origin Rows.scriptPlaysRow.targs) = true := by kernel_rfl
theorem pj : Tryz.f5.isWrapper prog Rows.scriptPlaysRow.wrapper Rows.scriptPlaysRow.mainSum := by
  unfold Func.isWrapper
  first
  | (rw [if_pos (by decide +kernel)]; kernel_rfl)
  | (rw [if_neg (by decide +kernel)]; exact ⟨rfl, rfl⟩)
theorem uq : Rows.ScriptPlaysSaid := by
  first
  | exact OpenClaim.holds_of_wide_leaving 5 Tryz.f5 rfl rfl rfl rfl rfl rfl rfl ⟨rfl, rfl, rfl, rfl, rfl⟩ rfl rfl rfl rfl rfl kE func5 mU
      (of_decide_eq_true mY) pj
      (fun os started H enc _ => oS (mS os started H enc))
  | exact OpenClaim.holds_of_wide 5 Tryz.f5 rfl rfl rfl rfl rfl rfl rfl ⟨rfl, rfl, rfl, rfl, rfl⟩ rfl rfl rfl rfl rfl kE func5 mU
      (of_decide_eq_true mY) pj
      (fun os started H enc _ => mS os started H enc)
theorem abR : Rows.scriptPlaysRow.wfByText (OpenSpec.ofChange Rows.scriptPlaysSpec) = true := by kernel_rfl
theorem wj : prog.mainIs = some (true, "f13e368701ad1d0fea8dbfd123b8a959652f7d5b3e9364b811215517e21ca6d9".toList) := by kernel_rfl
theorem vZ : Rows.scriptPlaysCard.goes = Rows.scriptPlaysRow.goesBy prog := by kernel_rfl
theorem vB : true = prog.looks [] := by kernel_rfl
theorem uW : ([33].all fun u => !prog.wantsStandIn u) = true := by kernel_rfl
theorem splays_card : Rows.ScriptPlaysCardSaid :=
  abx .later [] [.data, .data, .data, .data, .sentinel, .sentinel, .sentinel, .sentinel, .sentinel, .sentinel, .sentinel, .sentinel, .pinned] true (true, "f13e368701ad1d0fea8dbfd123b8a959652f7d5b3e9364b811215517e21ca6d9") true Rows.scriptPlaysCard.goes
    uq (fun _ h => by cases h) abR (fun _ h => by cases h) scriptPlays_row_tie rfl ⟨rfl, rfl⟩ wj rfl
    (fun f fn hf hfn => by
      obtain rfl : f = 5 := Option.some.inj (kE.symm.trans hf) |>.symm
      obtain rfl : fn = Tryz.f5 := (Option.some.inj (func5.symm.trans hfn)).symm
      exact ⟨vB, fun j t ht => by
        rw [params5] at ht
        have hm : t ∈ [33] := by simpa using Array.mem_of_getElem? ht
        exact (show prog.wantsStandIn t = false by simpa using List.all_eq_true.1 uW t hm)⟩)
    vZ
#print axioms splays_card
end Go.Proofs.YtaehdgemkafinaaGreatDoor
