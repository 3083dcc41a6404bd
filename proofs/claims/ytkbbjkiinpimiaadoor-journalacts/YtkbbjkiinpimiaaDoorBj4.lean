/-
  On the way to ActsProof: Err ErrAs0 ErrAs.
-/
import Derived.Test.YtkbbjkiinpimiaaDoorProg
import Derived.WalkKit
import Derived.LaidEql
import Derived.Stop.Asserts
import Derived.RowKitTokens
import Derived.Below
set_option maxHeartbeats 8000000
set_option maxRecDepth 100000
namespace Go.Proofs.YtkbbjkiinpimiaaDoor
open Go.RowKit Go.Extern.Stop Go.Stop Go.Extern

/-! ### Closed facts on the types that errors.Is meets -/
theorem callTypeOfE (v:Value) (w:World):(callFunc 94 #[.iface 107 v]).run Tryd.prog w=.ok (.value (.iface 159 (.agg #[.pointer (some ⟨10,107,none⟩)]))) w:=by kernel_rfl
theorem callComparable (w:World):(callFunc 132 #[.agg #[.pointer (some ⟨10,107,none⟩)]]).run Tryd.prog w=.ok (.value (.bool true)) w:=by kernel_rfl
theorem methodComparable (v:Value) (w:World):(Go.method 301 159 v "Comparable").run Tryd.prog w=.ok (132,v) w:=by kernel_rfl
theorem compErrS:(Tryd.prog.info? 107).map (·.comparable)=some true:=by kernel_rfl
theorem sizeErrS:(Tryd.prog.info? 109).map (·.size)=some 1:=by kernel_rfl
theorem noIsE (v:Value) (xT:TypeId) (w:World):(Instr.typeAssert (.iface 107 v) xT 170 true).run Tryd.prog w=.ok (.tuple #[.nilIface,.bool false]) w:=run_typeAssert_lacksB Tryd.underlying170 (by kernel_rfl) (by kernel_rfl) v xT w
theorem noUnwrapE (v:Value) (xT:TypeId) (w:World):(Instr.typeAssert (.iface 107 v) xT 166 true).run Tryd.prog w=.ok (.tuple #[.nilIface,.bool false]) w:=run_typeAssert_lacksB Tryd.underlying166 (by kernel_rfl) (by kernel_rfl) v xT w
theorem noUnwrapsE (v:Value) (xT:TypeId) (w:World):(Instr.typeAssert (.iface 107 v) xT 168 true).run Tryd.prog w=.ok (.tuple #[.nilIface,.bool false]) w:=run_typeAssert_lacksB Tryd.underlying168 (by kernel_rfl) (by kernel_rfl) v xT w
theorem noAsE (v:Value) (xT:TypeId) (w:World):(Instr.typeAssert (.iface 107 v) xT 163 true).run Tryd.prog w=.ok (.tuple #[.nilIface,.bool false]) w:=run_typeAssert_lacksB Tryd.underlying163 (by kernel_rfl) (by kernel_rfl) v xT w
theorem is_same (a:Addr) (w:World) :
  Calls Tryd.prog 64 #[.iface 107 (.pointer (some a)),.iface 107 (.pointer (some a))] w fun e w'=>e=.returned (.bool true)∧w'=w:=by
 obtain ⟨i,hi,hcmp⟩:=Option.map_eq_some_iff.1 compErrS
 obtain ⟨j,hj,hjs⟩:=Option.map_eq_some_iff.1 sizeErrS
 have tT:=callTypeOfE
 have cT:=callComparable
 have mR:=methodComparable
 have heq:=run_eql_iface_ptr_same (P:=Tryd.prog) w a Tryd.underlying25 Tryd.underlying107 hi hcmp hj
 go_enter Tryd.func64,Tryd.ntmps64
 go_wp2
 refine wp_loop_rounds 1 ?_
 rw [rounds_succ]
 go_wp2
 go_ret
 exact ⟨rfl,rfl⟩
theorem is_other (a b:Addr) (ca cb:Array Value) (ta tb:TypeId) (w:World) (hne:a≠b) (ha:w.heap[a.block]? = some (.cells ca ta (0,0))) (hb:w.heap[b.block]? = some (.cells cb tb (0,0))) :
  Calls Tryd.prog 64 #[.iface 107 (.pointer (some a)),.iface 107 (.pointer (some b))] w fun e w'=>e=.returned (.bool false)∧w'=w:=by
 obtain ⟨i,hi,hcmp⟩:=Option.map_eq_some_iff.1 compErrS
 obtain ⟨j,hj,hjs⟩:=Option.map_eq_some_iff.1 sizeErrS
 have tT:=callTypeOfE
 have cT:=callComparable
 have mR:=methodComparable
 have nE:=noIsE
 have uE:=noUnwrapE
 have vE:=noUnwrapsE
 have heq:=run_eql_iface_ptr_other (P:=Tryd.prog) w Tryd.underlying25 Tryd.underlying107 hi hcmp hj (by rw [hjs]; decide) hne ha hb
 go_enter Tryd.func64,Tryd.ntmps64
 go_wp2
 refine wp_loop_rounds 1 ?_
 rw [rounds_succ]
 go_wp2
 go_ret
 exact ⟨rfl,rfl⟩

/-! ### Closed facts on the types that errors.As meets -/
theorem callValueOfT (t:Addr) (w:World):(callFunc 90 #[.iface 105 (.pointer (some t))]).run Tryd.prog w
  = .ok (.value (.agg #[.pointer (some ⟨10,105,none⟩),.pointer (some ⟨w.heap.size,0,none⟩),.int .u64 150])) (w.alloc (.cells #[.pointer (some t)] 105)):=by kernel_rfl
theorem callTypeT (a:Addr) (w:World):(callFunc 91 #[.agg #[.pointer (some ⟨10,105,none⟩),.pointer (some a),.int .u64 150]]).run Tryd.prog w
  = .ok (.value (.iface 159 (.agg #[.pointer (some ⟨10,105,none⟩)]))) w:=by kernel_rfl
theorem methodKind (h:Value) (w:World):(Go.method 301 159 (.agg #[h]) "Kind").run Tryd.prog w=.ok (121,h) w:=by kernel_rfl
theorem callKindT (w:World):(callFunc 121 #[.pointer (some ⟨10,105,none⟩)]).run Tryd.prog w=.ok (.value (.int .u8 22)) w:=by kernel_rfl
theorem callKindF (w:World):(callFunc 121 #[.pointer (some ⟨10,29,none⟩)]).run Tryd.prog w=.ok (.value (.int .u8 22)) w:=by kernel_rfl
theorem methodElem (h:Value) (w:World):(Go.method 301 159 (.agg #[h]) "Elem").run Tryd.prog w=.ok (133,.agg #[h]) w:=by kernel_rfl
theorem callElemT (w:World):(callFunc 133 #[.agg #[.pointer (some ⟨10,105,none⟩)]]).run Tryd.prog w=.ok (.value (.iface 159 (.agg #[.pointer (some ⟨10,29,none⟩)]))) w:=by kernel_rfl
theorem methodImplements (h:Value) (w:World):(Go.method 301 159 (.agg #[h]) "Implements").run Tryd.prog w=.ok (134,.agg #[h]) w:=by kernel_rfl
theorem callImplementsF (w:World):(callFunc 134 #[.agg #[.pointer (some ⟨10,29,none⟩)],.iface 159 (.agg #[.pointer (some ⟨10,25,none⟩)])]).run Tryd.prog w=.ok (.value (.bool true)) w:=by kernel_rfl
theorem methodAssignableTo (h:Value) (w:World):(Go.method 301 159 (.agg #[h]) "AssignableTo").run Tryd.prog w=.ok (131,.agg #[h]) w:=by kernel_rfl
theorem callAssignableE (w:World):(callFunc 131 #[.agg #[.pointer (some ⟨10,107,none⟩)],.iface 159 (.agg #[.pointer (some ⟨10,29,none⟩)])]).run Tryd.prog w=.ok (.value (.bool false)) w:=by kernel_rfl

/-! ### The entries that read or write memory -/
theorem partsT (a:Addr) (w:World):(ReflectliteValue.parts (.agg #[.pointer (some ⟨10,105,none⟩),.pointer (some a),.int .u64 150])).run Tryd.prog w=.ok (some (105,a,150)) w:=by kernel_rfl
theorem callIsNilT (a p:Addr) (W:World) (ha:W.cell? a=some (.pointer (some p))) :
  (callFunc 92 #[.agg #[.pointer (some ⟨10,105,none⟩),.pointer (some a),.int .u64 150]]).run Tryd.prog W=.ok (.value (.bool false)) W:=by
 rw [@run_callFunc_extern Tryd.prog 92 _ (ReflectliteValue.method (ReflectliteValue.valueError "reflectlite.Value.IsNil" 0) ReflectliteValue.isNil) Tryd.func92 (by kernel_rfl) (by kernel_rfl) (by kernel_rfl) (by kernel_rfl)]
 change Result.andThen (Sem.run Tryd.prog (Bind.bind (ReflectliteValue.parts (.agg #[.pointer (some ⟨10,105,none⟩),.pointer (some a),.int .u64 150])) _) W) _=_
 simp only [Sem.run_bind,partsT,Result.andThen]
 simp [ReflectliteValue.isNil,loadVar,isAgg,underlying,Tryd.underlying105,ha,Result.andThen]
theorem as_miss (a t:Addr) (w:World) (hg:w.cell? ⟨9,0,none⟩=some (.iface 159 (.agg #[.pointer (some ⟨10,25,none⟩)]))) :
  Calls Tryd.prog 63 #[.iface 107 (.pointer (some a)),.iface 105 (.pointer (some t))] w fun ev w'=>ev=.returned (.bool false)∧Below w.heap.size w w':=by
 have c1:=callValueOfT
 have c2:=callTypeT
 have c3:=methodKind
 have c4:=callKindT
 have c5:=callKindF
 have c6:=methodElem
 have c7:=callElemT
 have c8:=methodImplements
 have c9:=callImplementsF
 have d1:=methodAssignableTo
 have d2:=callAssignableE
 have d3:=callTypeOfE
 have d4:=noAsE
 have d5:=noUnwrapE
 have d6:=noUnwrapsE
 have n8:=callIsNilT ⟨w.heap.size,0,none⟩ t ((w.alloc (.cells #[.pointer (some t)] 105)).alloc (.cells #[.pointer (some ⟨10,105,none⟩),.pointer (some ⟨w.heap.size,0,none⟩),.int .u64 150] 143)) (by simp)
 have hlt:9<w.heap.size:=by
  rcases Nat.lt_or_ge 9 w.heap.size with h|h
  ·exact h
  ·simp [World.cell?,Array.getElem?_eq_none h] at hg
 have hg2:((w.alloc (.cells #[.pointer (some t)] 105)).alloc (.cells #[.pointer (some ⟨10,105,none⟩),.pointer (some ⟨w.heap.size,0,none⟩),.int .u64 150] 143)).cell? ⟨9,0,none⟩=some (.iface 159 (.agg #[.pointer (some ⟨10,25,none⟩)])):=by
  rw [World.cell?_alloc_lt _ _ ⟨9,0,none⟩ (by simp; omega),World.cell?_alloc_lt _ _ ⟨9,0,none⟩ hlt]; exact hg
 go_enter Tryd.func63,Tryd.ntmps63
 go_wp2
 refine wp_loop_rounds 1 ?_
 rw [rounds_succ]
 go_wp2
 go_ret
 exact ⟨rfl,by repeat (first|exact Below.refl _ _|refine Below.drew ?_|refine Below.alloc ?_ (by simp; try omega) _)⟩
end Go.Proofs.YtkbbjkiinpimiaaDoor
