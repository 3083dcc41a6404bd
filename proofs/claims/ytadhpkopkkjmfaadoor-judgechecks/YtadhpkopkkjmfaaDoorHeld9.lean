/-
  FROM 'laid' TO WHAT THE WALKS ASK: package api's nine error variables hold nine different errors, errors.errorType its handle; the door's own heap meets the condition (the witness).
-/
import Derived.Test.YtadhpkopkkjmfaaDoorLaid
import Derived.Test.YtadhpkopkkjmfaaDoorCode
namespace Go.Proofs.YtadhpkopkkjmfaaDoor
open Go.ChangeShapes Go.WideShapes Go.RowKit

theorem door_met9 (os : Os) (args : Array Value) : laidMetH Tryd.prog Rows.judgeChecksRow.laid ((World.doorLaid Tryd.prog 187 os).forCall (fun _ _ => 0) ⟨#[], args, []⟩).memory :=
  laidMetH_of_parts3 (fuel := 8) (laidMet_of_run' 8 (by kernel_rfl) (by kernel_rfl)) (by kernel_rfl) (by kernel_rfl)
theorem plainOf : (Rows.judgeChecksRow.laid.filter fun x => x.2.handleName?.isNone).map (fun x => Tryd.prog.globalNamed x.1) = [2, 0, 3, 4, 5, 6, 7, 8, 1].map some := by kernel_rfl
theorem textsOf : (Rows.judgeChecksRow.laid.filter fun x => x.2.handleName?.isNone).map (·.2) = ((Rows.judgeChecksRow.laid.filter fun x => x.2.handleName?.isNone).map fun x => textOf x.2).map errD := by kernel_rfl
theorem typesOf : ([2, 0, 3, 4, 5, 6, 7, 8, 1].all fun g => ((Tryd.prog.globals[g]?).map (·.type)) == some 37) = true := by kernel_rfl
theorem handleOf : (Rows.judgeChecksRow.laid.filter fun x => x.2.handleName?.isSome) = Rows.judgeChecksRow.laid.take 1 := by kernel_rfl
theorem gErrT : Tryd.prog.globalNamed (Rows.judgeChecksRow.laid.map (·.1)).head! = some 9 := by kernel_rfl
theorem rtypeT : (Tryd.prog.cutTypes.find? (·.1 == "internal/reflectlite.rtype")).map (·.2) = some 76 := by kernel_rfl
theorem oneRow : ((List.range 124).filter fun t => Tryd.prog.rowNamed t [101, 114, 114, 111, 114]) = [37] := by kernel_rfl
theorem sizeT : Tryd.prog.types.size = 124 := by kernel_rfl
theorem handleErr : typeHandle Tryd.prog 37 = .pointer (some ⟨10, 37, none⟩) := by kernel_rfl

theorem handle_of {W : World} (h : handlesMet Tryd.prog (Rows.judgeChecksRow.laid.filter fun x => x.2.handleName?.isSome) W) : W.cell? ⟨9, 0, none⟩ = some (.iface 76 (.agg #[.pointer (some ⟨10, 37, none⟩)])) := by
  rw [handleOf] at h
  obtain ⟨name, u, ty, e1, e2, e3, e4, e5⟩ := h _ (List.mem_singleton.2 rfl)
  have en : name = [101, 114, 114, 111, 114] := (Option.some.inj e1).symm
  subst en
  obtain rfl := Option.some.inj (rtypeT.symm.trans e2)
  have hm : ty ∈ (List.range 124).filter fun t => Tryd.prog.rowNamed t [101, 114, 114, 111, 114] := List.mem_filter.2 ⟨List.mem_range.2 (by rw [← sizeT]; exact e3), e4⟩
  rw [oneRow] at hm
  obtain rfl := List.mem_singleton.1 hm
  rw [handleErr] at e5
  simpa using World.var?_cell gErrT e5 0

theorem held9_of_laid {W : World} (h : laidMetH Tryd.prog Rows.judgeChecksRow.laid W) : ∃ A, Held9 W A := by
  obtain ⟨⟨ps, h1, h2, h3⟩, hh⟩ := laidMetH_iff.1 h
  obtain ⟨ads, hl, hnd, -, hs⟩ := sents _ [2, 0, 3, 4, 5, 6, 7, 8, 1] _ plainOf
    (fun g hg => by simpa using List.all_eq_true.1 typesOf g hg) textsOf ps h1 h2 h3
  have hlen : ads.length = 9 := by rw [hl]; rfl
  have hgs : ∀ i, i < 9 → [2, 0, 3, 4, 5, 6, 7, 8, 1][i]? = some (gN i) := by
    intro i hi
    have : i = 0 ∨ i = 1 ∨ i = 2 ∨ i = 3 ∨ i = 4 ∨ i = 5 ∨ i = 6 ∨ i = 7 ∨ i = 8 := by omega
    rcases this with rfl | rfl | rfl | rfl | rfl | rfl | rfl | rfl | rfl <;> rfl
  have hat : ∀ i (hi : i < 9), ads[i]? = some (ads.getD i ⟨0, 0, none⟩) := by
    intro i hi
    rw [List.getD_eq_getElem?_getD, List.getElem?_eq_getElem (by omega)]; rfl
  refine ⟨fun i => ads.getD i ⟨0, 0, none⟩, fun i hi => (hs i (gN i) _ (hgs i hi) (hat i hi)).var, ?_, fun i hi => (hs i (gN i) _ (hgs i hi) (hat i hi)).row, handle_of hh⟩
  intro i j hi hj hne e
  have e1 := hat i hi
  have e2 := hat j hj
  rw [e] at e1
  exact hne ((List.getElem?_inj (by omega) hnd).1 (e1.trans e2.symm))
end Go.Proofs.YtadhpkopkkjmfaaDoor
