/-
  On the way to SActsProof: S1.
-/
import Derived.Test.YtkopfpaldmapdaaDoorBs23
set_option maxHeartbeats 8000000
set_option maxRecDepth 100000
namespace Go.Proofs.YtkopfpaldmapdaaDoor
open Go.RowKit
theorem Tryd.infoBo:(Tryd.prog.info? 4).map (fun i=>(i.zero,i.size,i.bytes))=some (some (.bool false),1,1):=by kernel_rfl
theorem made_bo:madeCells (Value.bool false).cells 6=#[.bool false,.bool false,.bool false,.bool false,.bool false,.bool false]:=by first|rfl|kernel_rfl
theorem mkBo (w:World):(Instr.makeSlice 48 (.int .i64 6) (.int .i64 6)).run Tryd.prog w=.ok (.slice (some ⟨w.heap.size,0,none⟩) 6 6) (w.alloc (.cells #[.bool false,.bool false,.bool false,.bool false,.bool false,.bool false] 4)):=by
 obtain ⟨i0,hi,hz0,hz1,hz2⟩:=info_parts Tryd.infoBo
 have hr:=run_make (P:=Tryd.prog) w 48 4 i0 _ Tryd.underlying48 hi hz0 .i64 .i64 6 6 (by omega) (Int.le_refl _) (by rw [hz2]; decide) (by decide)
 rw [hz1,show Int.toNat 6 * 1=6 from rfl,made_bo] at hr
 exact hr
end Go.Proofs.YtkopfpaldmapdaaDoor
