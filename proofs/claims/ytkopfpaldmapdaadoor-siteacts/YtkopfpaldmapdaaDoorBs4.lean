/-
  On the way to SActsProof: Err ErrAs0 ErrAs.
-/
import Derived.Test.YtkopfpaldmapdaaDoorProg
import Derived.WalkKit
import Derived.LaidEql
import Derived.Stop.Asserts
import Derived.RowKitTokens
import Derived.Below
set_option maxHeartbeats 8000000
set_option maxRecDepth 100000
namespace Go.Proofs.YtkopfpaldmapdaaDoor
open Go.RowKit Go.Extern.Stop Go.Stop Go.Extern

/-! ### Closed facts on the types that errors.Is meets -/
theorem callTypeOfE (v:Value) (w:World):(callFunc 98 #[.iface 189 v]).run Tryd.prog w=.ok (.value (.iface 172 (.agg #[.pointer (some ⟨10,189,none⟩)]))) w:=by kernel_rfl
theorem callComparable (w:World):(callFunc 140 #[.agg #[.pointer (some ⟨10,189,none⟩)]]).run Tryd.prog w=.ok (.value (.bool true)) w:=by kernel_rfl
theorem methodComparable (v:Value) (w:World):(Go.method 320 172 v "Comparable").run Tryd.prog w=.ok (140,v) w:=by kernel_rfl
theorem compErrS:(Tryd.prog.info? 189).map (·.comparable)=some true:=by kernel_rfl
theorem sizeErrS:(Tryd.prog.info? 208).map (·.size)=some 1:=by kernel_rfl
theorem noIsE (v:Value) (xT:TypeId) (w:World):(Instr.typeAssert (.iface 189 v) xT 183 true).run Tryd.prog w=.ok (.tuple #[.nilIface,.bool false]) w:=run_typeAssert_lacksB Tryd.underlying183 (by kernel_rfl) (by kernel_rfl) v xT w
theorem noUnwrapE (v:Value) (xT:TypeId) (w:World):(Instr.typeAssert (.iface 189 v) xT 179 true).run Tryd.prog w=.ok (.tuple #[.nilIface,.bool false]) w:=run_typeAssert_lacksB Tryd.underlying179 (by kernel_rfl) (by kernel_rfl) v xT w
theorem noUnwrapsE (v:Value) (xT:TypeId) (w:World):(Instr.typeAssert (.iface 189 v) xT 181 true).run Tryd.prog w=.ok (.tuple #[.nilIface,.bool false]) w:=run_typeAssert_lacksB Tryd.underlying181 (by kernel_rfl) (by kernel_rfl) v xT w
theorem noAsE (v:Value) (xT:TypeId) (w:World):(Instr.typeAssert (.iface 189 v) xT 176 true).run Tryd.prog w=.ok (.tuple #[.nilIface,.bool false]) w:=run_typeAssert_lacksB Tryd.underlying176 (by kernel_rfl) (by kernel_rfl) v xT w
theorem is_same (a:Addr) (w:World) :
  Calls Tryd.prog 71 #[.iface 189 (.pointer (some a)),.iface 189 (.pointer (some a))] w fun e w'=>e=.returned (.bool true)∧w'=w:=by
 obtain ⟨i,hi,hcmp⟩:=Option.map_eq_some_iff.1 compErrS
 obtain ⟨j,hj,hjs⟩:=Option.map_eq_some_iff.1 sizeErrS
 have tT:=callTypeOfE
 have cT:=callComparable
 have mR:=methodComparable
 have heq:=run_eql_iface_ptr_same (P:=Tryd.prog) w a Tryd.underlying26 Tryd.underlying189 hi hcmp hj
 go_enter Tryd.func71,Tryd.ntmps71
 go_wp2
 refine wp_loop_rounds 1 ?_
 rw [rounds_succ]
 go_wp2
 go_ret
 exact ⟨rfl,rfl⟩
theorem is_other (a b:Addr) (ca cb:Array Value) (ta tb:TypeId) (w:World) (hne:a≠b) (ha:w.heap[a.block]? = some (.cells ca ta (0,0))) (hb:w.heap[b.block]? = some (.cells cb tb (0,0))) :
  Calls Tryd.prog 71 #[.iface 189 (.pointer (some a)),.iface 189 (.pointer (some b))] w fun e w'=>e=.returned (.bool false)∧w'=w:=by
 obtain ⟨i,hi,hcmp⟩:=Option.map_eq_some_iff.1 compErrS
 obtain ⟨j,hj,hjs⟩:=Option.map_eq_some_iff.1 sizeErrS
 have tT:=callTypeOfE
 have cT:=callComparable
 have mR:=methodComparable
 have nE:=noIsE
 have uE:=noUnwrapE
 have vE:=noUnwrapsE
 have heq:=run_eql_iface_ptr_other (P:=Tryd.prog) w Tryd.underlying26 Tryd.underlying189 hi hcmp hj (by rw [hjs]; decide) hne ha hb
 go_enter Tryd.func71,Tryd.ntmps71
 go_wp2
 refine wp_loop_rounds 1 ?_
 rw [rounds_succ]
 go_wp2
 go_ret
 exact ⟨rfl,rfl⟩

/-! ### Closed facts on the types that errors.As meets -/
theorem callValueOfT (t:Addr) (w:World):(callFunc 94 #[.iface 128 (.pointer (some t))]).run Tryd.prog w
  = .ok (.value (.agg #[.pointer (some ⟨10,128,none⟩),.pointer (some ⟨w.heap.size,0,none⟩),.int .u64 150])) (w.alloc (.cells #[.pointer (some t)] 128)):=by kernel_rfl
theorem callTypeT (a:Addr) (w:World):(callFunc 95 #[.agg #[.pointer (some ⟨10,128,none⟩),.pointer (some a),.int .u64 150]]).run Tryd.prog w
  = .ok (.value (.iface 172 (.agg #[.pointer (some ⟨10,128,none⟩)]))) w:=by kernel_rfl
theorem methodKind (h:Value) (w:World):(Go.method 320 172 (.agg #[h]) "Kind").run Tryd.prog w=.ok (130,h) w:=by kernel_rfl
theorem callKindT (w:World):(callFunc 130 #[.pointer (some ⟨10,128,none⟩)]).run Tryd.prog w=.ok (.value (.int .u8 22)) w:=by kernel_rfl
theorem callKindF (w:World):(callFunc 130 #[.pointer (some ⟨10,126,none⟩)]).run Tryd.prog w=.ok (.value (.int .u8 22)) w:=by kernel_rfl
theorem methodElem (h:Value) (w:World):(Go.method 320 172 (.agg #[h]) "Elem").run Tryd.prog w=.ok (141,.agg #[h]) w:=by kernel_rfl
theorem callElemT (w:World):(callFunc 141 #[.agg #[.pointer (some ⟨10,128,none⟩)]]).run Tryd.prog w=.ok (.value (.iface 172 (.agg #[.pointer (some ⟨10,126,none⟩)]))) w:=by kernel_rfl
theorem methodImplements (h:Value) (w:World):(Go.method 320 172 (.agg #[h]) "Implements").run Tryd.prog w=.ok (142,.agg #[h]) w:=by kernel_rfl
theorem callImplementsF (w:World):(callFunc 142 #[.agg #[.pointer (some ⟨10,126,none⟩)],.iface 172 (.agg #[.pointer (some ⟨10,26,none⟩)])]).run Tryd.prog w=.ok (.value (.bool true)) w:=by kernel_rfl
theorem methodAssignableTo (h:Value) (w:World):(Go.method 320 172 (.agg #[h]) "AssignableTo").run Tryd.prog w=.ok (139,.agg #[h]) w:=by kernel_rfl
theorem callAssignableE (w:World):(callFunc 139 #[.agg #[.pointer (some ⟨10,189,none⟩)],.iface 172 (.agg #[.pointer (some ⟨10,126,none⟩)])]).run Tryd.prog w=.ok (.value (.bool false)) w:=by kernel_rfl

/-! ### The entries that read or write memory -/
theorem partsT (a:Addr) (w:World):(ReflectliteValue.parts (.agg #[.pointer (some ⟨10,128,none⟩),.pointer (some a),.int .u64 150])).run Tryd.prog w=.ok (some (128,a,150)) w:=by kernel_rfl
theorem callIsNilT (a p:Addr) (W:World) (ha:W.cell? a=some (.pointer (some p))) :
  (callFunc 96 #[.agg #[.pointer (some ⟨10,128,none⟩),.pointer (some a),.int .u64 150]]).run Tryd.prog W=.ok (.value (.bool false)) W:=by
 rw [@run_callFunc_extern Tryd.prog 96 _ (ReflectliteValue.method (ReflectliteValue.valueError "reflectlite.Value.IsNil" 0) ReflectliteValue.isNil) Tryd.func96 (by kernel_rfl) (by kernel_rfl) (by kernel_rfl) (by kernel_rfl)]
 change Result.andThen (Sem.run Tryd.prog (Bind.bind (ReflectliteValue.parts (.agg #[.pointer (some ⟨10,128,none⟩),.pointer (some a),.int .u64 150])) _) W) _=_
 simp only [Sem.run_bind,partsT,Result.andThen]
 simp [ReflectliteValue.isNil,loadVar,isAgg,underlying,Tryd.underlying128,ha,Result.andThen]
theorem as_miss (a t:Addr) (w:World) (hg:w.cell? ⟨9,0,none⟩=some (.iface 172 (.agg #[.pointer (some ⟨10,26,none⟩)]))) :
  Calls Tryd.prog 70 #[.iface 189 (.pointer (some a)),.iface 128 (.pointer (some t))] w fun ev w'=>ev=.returned (.bool false)∧Below w.heap.size w w':=by
 have c1:=callValueOfT
 have c2:=callTypeT
 have c3:=methodKind
 have c4:=callKindT
 have c5:=callKindF
 have c6:=methodElem
 have c7:=callElemT
 have c8:=methodImplements
 have c9:=callImplementsF
 have d1:=methodAssignableTo
 have d2:=callAssignableE
 have d3:=callTypeOfE
 have d4:=noAsE
 have d5:=noUnwrapE
 have d6:=noUnwrapsE
 have n8:=callIsNilT ⟨w.heap.size,0,none⟩ t ((w.alloc (.cells #[.pointer (some t)] 128)).alloc (.cells #[.pointer (some ⟨10,128,none⟩),.pointer (some ⟨w.heap.size,0,none⟩),.int .u64 150] 154)) (by simp)
 have hlt:9<w.heap.size:=by
  rcases Nat.lt_or_ge 9 w.heap.size with h|h
  ·exact h
  ·simp [World.cell?,Array.getElem?_eq_none h] at hg
 have hg2:((w.alloc (.cells #[.pointer (some t)] 128)).alloc (.cells #[.pointer (some ⟨10,128,none⟩),.pointer (some ⟨w.heap.size,0,none⟩),.int .u64 150] 154)).cell? ⟨9,0,none⟩=some (.iface 172 (.agg #[.pointer (some ⟨10,26,none⟩)])):=by
  rw [World.cell?_alloc_lt _ _ ⟨9,0,none⟩ (by simp; omega),World.cell?_alloc_lt _ _ ⟨9,0,none⟩ hlt]; exact hg
 go_enter Tryd.func70,Tryd.ntmps70
 go_wp2
 refine wp_loop_rounds 1 ?_
 rw [rounds_succ]
 go_wp2
 go_ret
 exact ⟨rfl,by repeat (first|exact Below.refl _ _|refine Below.drew ?_|refine Below.alloc ?_ (by simp; try omega) _)⟩
end Go.Proofs.YtkopfpaldmapdaaDoor
