/-
  On the way to KeepsProof: S1.
-/
import Derived.Test.YtkopfpaldmapdaaDoorBk14
set_option maxHeartbeats 8000000
set_option maxRecDepth 100000
namespace Go.Proofs.YtkopfpaldmapdaaDoor
open Go.RowKit
theorem Tryd.infoBo:(Tryd.prog.info? 4).map (fun i=>(i.zero,i.size,i.bytes))=some (some (.bool false),1,1):=by kernel_rfl
theorem made_bo:madeCells (Value.bool false).cells 6=#[.bool false,.bool false,.bool false,.bool false,.bool false,.bool false]:=by first|rfl|kernel_rfl
theorem mkBo (w:World):(Instr.makeSlice 48 (.int .i64 6) (.int .i64 6)).run Tryd.prog w=.ok (.slice (some ⟨w.heap.size,0,none⟩) 6 6) (w.alloc (.cells #[.bool false,.bool false,.bool false,.bool false,.bool false,.bool false] 4)):=by
 obtain ⟨i0,hi,hz0,hz1,hz2⟩:=info_parts Tryd.infoBo
 have hr:=run_make (P:=Tryd.prog) w 48 4 i0 _ Tryd.underlying48 hi hz0 .i64 .i64 6 6 (by omega) (Int.le_refl _) (by rw [hz2]; decide) (by decide)
 rw [hz1,show Int.toNat 6 * 1=6 from rfl,made_bo] at hr
 exact hr
def VR (w:World) (b:Nat) (V:Nat→Bool):Prop:=w.heap[b]? = some (.cells #[.bool (V 0),.bool (V 1),.bool (V 2),.bool (V 3),.bool (V 4),.bool (V 5)] 4 (0,0))
def updB (V:Nat→Bool) (d:Nat) (x:Bool):Nat→Bool:=fun e=>if e=d then x else V e
section
variable {w w':World} {b d:Nat} {V:Nat→Bool}
theorem VR.lt (h:VR w b V):b<w.heap.size:=row_ltJ h
theorem VR.later (h:VR w b V) (hb:Below w.heap.size w w'):VR w' b V:=(hb.block b (row_ltJ h)).trans h
theorem VR.at_ (h:VR w b V) (hd:d<6):w.cell? ⟨b,d,none⟩=some (.bool (V d)):=by
 rw [cell_of_row _ _ _ _ _ _ h]
 rcases six hd with rfl|rfl|rfl|rfl|rfl|rfl <;> rfl
theorem VR.fz (h:VR w b V) (i:Nat):w.frozen? ⟨b,i,none⟩=false:=frozen_of_row w b i _ _ h
theorem VR.set (h:VR w b V) (hd:d<6) (x:Bool):VR (w.setCell ⟨b,d,none⟩ (.bool x)) b (updB V d x):=by
 unfold VR
 rw [heap_setCell_same w b d _ _ (.bool x) h]
 rcases six hd with rfl|rfl|rfl|rfl|rfl|rfl <;> rfl
theorem VR.new (w:World):VR (w.alloc (.cells #[.bool false,.bool false,.bool false,.bool false,.bool false,.bool false] 4)) w.heap.size (fun _=>false):=heap_alloc_new w _
end
end Go.Proofs.YtkopfpaldmapdaaDoor
