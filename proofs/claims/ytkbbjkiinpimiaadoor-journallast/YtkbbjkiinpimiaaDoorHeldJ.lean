/-
  FROM 'laid' TO WHAT THE WALKS OF A JOURNAL ASK, without package errors: four error variables hold their errors; the door's own heap meets the condition (the witness).
-/
import Derived.Test.YtkbbjkiinpimiaaDoorLaid
import Derived.Test.YtkbbjkiinpimiaaDoorP2
namespace Go.Proofs.YtkbbjkiinpimiaaDoor
open Go.ChangeShapes Go.WideShapes Go.RowKit

theorem door_met4 (os : Os) (args : Array Value) : laidMetH Tryd.prog Rows.journalLastRow.laid ((World.doorLaid Tryd.prog 187 os).forCall (fun _ _ => 0) ⟨#[], args, []⟩).memory :=
  laidMetH_of_parts3 (fuel := 8) (laidMet_of_run' 8 (by kernel_rfl) (by kernel_rfl)) (by kernel_rfl) (by kernel_rfl)
theorem types4 : ([1, 2, 4, 5].all fun g => ((Tryd.prog.globals[g]?).map (·.type)) == some 25) = true := by kernel_rfl
theorem held4_of_laid {W : World} (h : laidMetH Tryd.prog Rows.journalLastRow.laid W) : ∃ A, HeldE W A := by
  rw [MakeChecks.laidMetH_plain _ _ _ (by kernel_rfl)] at h
  obtain ⟨ps, h1, h2, h3⟩ := h
  obtain ⟨ads, hl, -, -, hs⟩ := sents Rows.journalLastRow.laid [1, 2, 4, 5] (Rows.journalLastRow.laid.map fun x => textOf x.2) (by kernel_rfl)
    (fun g hg => by simpa using List.all_eq_true.1 types4 g hg) (by kernel_rfl) ps h1 h2 h3
  match ads, hl with
  | [a1, a2, a3, a4], _ =>
    exact ⟨fun i => if i = 1 then a1 else if i = 2 then a2 else if i = 4 then a3 else a4, (hs 0 1 a1 rfl rfl).var, (hs 1 2 a2 rfl rfl).var, (hs 2 4 a3 rfl rfl).var, (hs 3 5 a4 rfl rfl).var⟩
end Go.Proofs.YtkbbjkiinpimiaaDoor
