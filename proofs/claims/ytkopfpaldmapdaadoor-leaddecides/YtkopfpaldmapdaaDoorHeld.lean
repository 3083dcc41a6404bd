/-
  FROM 'laid' TO WHAT THE WALKS OF WEIGHTS ASK: three error variables hold their errors; the door's own heap meets the condition (the witness).
-/
import Derived.Test.YtkopfpaldmapdaaDoorLaid
import Derived.Test.YtkopfpaldmapdaaDoorW4
import Derived.Test.YtkopfpaldmapdaaDoorHI
namespace Go.Proofs.YtkopfpaldmapdaaDoor
open Go.ChangeShapes Go.WideShapes Go.RowKit

theorem door_met3 (os : Os) (args : Array Value) : laidMetH Tryd.prog Rows.leadStaleRow.laid ((World.doorLaid Tryd.prog 187 os).forCall (fun _ _ => 0) ⟨#[], args, []⟩).memory :=
  laidMetH_of_parts3 (fuel := 8) (laidMet_of_run' 8 (by kernel_rfl) (by kernel_rfl)) (by kernel_rfl) (by kernel_rfl)
theorem gl1 : (Tryd.prog.globals[0]?).map (·.type) = some 26 := by kernel_rfl
theorem gl2 : (Tryd.prog.globals[2]?).map (·.type) = some 26 := by kernel_rfl
theorem gl3 : (Tryd.prog.globals[5]?).map (·.type) = some 26 := by kernel_rfl
theorem held3_of_laid {W : World} (h : laidMetH Tryd.prog Rows.leadStaleRow.laid W) : ∃ A, Held3 W A := by
  rw [MakeChecks.laidMetH_plain _ _ _ (by kernel_rfl)] at h
  obtain ⟨ps, h1, h2, h3⟩ := h
  obtain ⟨ads, hl, -, -, hs⟩ := sents Rows.leadStaleRow.laid [0, 2, 5] (Rows.leadStaleRow.laid.map fun x => textOf x.2) (by kernel_rfl)
    (fun g hg => by
      simp only [List.mem_cons, List.not_mem_nil, or_false] at hg
      rcases hg with rfl | rfl | rfl
      · exact gl1
      · exact gl2
      · exact gl3) (by kernel_rfl) ps h1 h2 h3
  match ads, hl with
  | [a1, a2, a3], _ =>
    refine ⟨fun i => if i = 1 then a1 else if i = 2 then a2 else a3, fun i h1 h3 => ?_⟩
    have hi : i = 1 ∨ i = 2 ∨ i = 3 := by omega
    rcases hi with rfl | rfl | rfl
    · exact (hs 0 0 a1 rfl rfl).var
    · exact (hs 1 2 a2 rfl rfl).var
    · exact (hs 2 5 a3 rfl rfl).var

end Go.Proofs.YtkopfpaldmapdaaDoor
