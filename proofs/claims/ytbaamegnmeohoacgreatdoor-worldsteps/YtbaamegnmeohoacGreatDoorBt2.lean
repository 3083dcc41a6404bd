/-
  On the way to WStepsProof: Err ErrAs0 ErrAs.
-/
import Derived.Test.YtbaamegnmeohoacGreatDoorProg
import Derived.WalkKit
import Derived.LaidEql
import Derived.Stop.Asserts
import Derived.RowKitTokens
import Derived.Below
namespace Go.Proofs.YtbaamegnmeohoacGreatDoor
open Go.RowKit Go.Extern.Stop Go.Stop Go.Extern

/-! ### Closed facts on the types that errors.Is meets -/
theorem callTypeOfE (v : Value) (w : World) : (callFunc 149 #[.iface 342 v]).run Tryz.prog w = .ok (.value (.iface 271 (.agg #[.pointer (some ⟨10, 342, none⟩)]))) w := by kernel_rfl
theorem callComparable (w : World) : (callFunc 287 #[.agg #[.pointer (some ⟨10, 342, none⟩)]]).run Tryz.prog w = .ok (.value (.bool true)) w := by kernel_rfl
theorem methodComparable (v : Value) (w : World) : (Go.method 473 271 v "Comparable").run Tryz.prog w = .ok (287, v) w := by kernel_rfl
theorem compErrS : (Tryz.prog.info? 342).map (·.comparable) = some true := by kernel_rfl
theorem sizeErrS : (Tryz.prog.info? 361).map (·.size) = some 1 := by kernel_rfl
theorem noIsE (v : Value) (xT : TypeId) (w : World) : (Instr.typeAssert (.iface 342 v) xT 282 true).run Tryz.prog w = .ok (.tuple #[.nilIface, .bool false]) w := run_typeAssert_lacksB Tryz.underlying282 (by kernel_rfl) (by kernel_rfl) v xT w
theorem noUnwrapE (v : Value) (xT : TypeId) (w : World) : (Instr.typeAssert (.iface 342 v) xT 278 true).run Tryz.prog w = .ok (.tuple #[.nilIface, .bool false]) w := run_typeAssert_lacksB Tryz.underlying278 (by kernel_rfl) (by kernel_rfl) v xT w
theorem noUnwrapsE (v : Value) (xT : TypeId) (w : World) : (Instr.typeAssert (.iface 342 v) xT 280 true).run Tryz.prog w = .ok (.tuple #[.nilIface, .bool false]) w := run_typeAssert_lacksB Tryz.underlying280 (by kernel_rfl) (by kernel_rfl) v xT w
theorem noAsE (v : Value) (xT : TypeId) (w : World) : (Instr.typeAssert (.iface 342 v) xT 275 true).run Tryz.prog w = .ok (.tuple #[.nilIface, .bool false]) w := run_typeAssert_lacksB Tryz.underlying275 (by kernel_rfl) (by kernel_rfl) v xT w
theorem is_same (a : Addr) (w : World) :
    Calls Tryz.prog 90 #[.iface 342 (.pointer (some a)), .iface 342 (.pointer (some a))] w fun e w' => e = .returned (.bool true) ∧ w' = w := by
  obtain ⟨i, hi, hcmp⟩ := Option.map_eq_some_iff.1 compErrS
  obtain ⟨j, hj, hjs⟩ := Option.map_eq_some_iff.1 sizeErrS
  have tT := callTypeOfE
  have cT := callComparable
  have mR := methodComparable
  have heq := run_eql_iface_ptr_same (P := Tryz.prog) w a Tryz.underlying27 Tryz.underlying342 hi hcmp hj
  go_enter Tryz.func90, Tryz.ntmps90
  go_wp2
  refine wp_loop_rounds 1 ?_
  rw [rounds_succ]
  go_wp2
  go_ret
  exact ⟨rfl, rfl⟩
theorem is_other (a b : Addr) (ca cb : Array Value) (ta tb : TypeId) (w : World) (hne : a ≠ b) (ha : w.heap[a.block]? = some (.cells ca ta (0, 0))) (hb : w.heap[b.block]? = some (.cells cb tb (0, 0))) :
    Calls Tryz.prog 90 #[.iface 342 (.pointer (some a)), .iface 342 (.pointer (some b))] w fun e w' => e = .returned (.bool false) ∧ w' = w := by
  obtain ⟨i, hi, hcmp⟩ := Option.map_eq_some_iff.1 compErrS
  obtain ⟨j, hj, hjs⟩ := Option.map_eq_some_iff.1 sizeErrS
  have tT := callTypeOfE
  have cT := callComparable
  have mR := methodComparable
  have nE := noIsE
  have uE := noUnwrapE
  have vE := noUnwrapsE
  have heq := run_eql_iface_ptr_other (P := Tryz.prog) w Tryz.underlying27 Tryz.underlying342 hi hcmp hj (by rw [hjs]; decide) hne ha hb
  go_enter Tryz.func90, Tryz.ntmps90
  go_wp2
  refine wp_loop_rounds 1 ?_
  rw [rounds_succ]
  go_wp2
  go_ret
  exact ⟨rfl, rfl⟩

/-! ### Closed facts on the types that errors.As meets -/
theorem callValueOfT (t : Addr) (w : World) : (callFunc 145 #[.iface 162 (.pointer (some t))]).run Tryz.prog w
    = .ok (.value (.agg #[.pointer (some ⟨10, 162, none⟩), .pointer (some ⟨w.heap.size, 0, none⟩), .int .u64 150])) (w.alloc (.cells #[.pointer (some t)] 162)) := by kernel_rfl
theorem callTypeT (a : Addr) (w : World) : (callFunc 146 #[.agg #[.pointer (some ⟨10, 162, none⟩), .pointer (some a), .int .u64 150]]).run Tryz.prog w
    = .ok (.value (.iface 271 (.agg #[.pointer (some ⟨10, 162, none⟩)]))) w := by kernel_rfl
theorem methodKind (h : Value) (w : World) : (Go.method 473 271 (.agg #[h]) "Kind").run Tryz.prog w = .ok (277, h) w := by kernel_rfl
theorem callKindT (w : World) : (callFunc 277 #[.pointer (some ⟨10, 162, none⟩)]).run Tryz.prog w = .ok (.value (.int .u8 22)) w := by kernel_rfl
theorem callKindF (w : World) : (callFunc 277 #[.pointer (some ⟨10, 125, none⟩)]).run Tryz.prog w = .ok (.value (.int .u8 22)) w := by kernel_rfl
theorem methodElem (h : Value) (w : World) : (Go.method 473 271 (.agg #[h]) "Elem").run Tryz.prog w = .ok (288, .agg #[h]) w := by kernel_rfl
theorem callElemT (w : World) : (callFunc 288 #[.agg #[.pointer (some ⟨10, 162, none⟩)]]).run Tryz.prog w = .ok (.value (.iface 271 (.agg #[.pointer (some ⟨10, 125, none⟩)]))) w := by kernel_rfl
theorem methodImplements (h : Value) (w : World) : (Go.method 473 271 (.agg #[h]) "Implements").run Tryz.prog w = .ok (289, .agg #[h]) w := by kernel_rfl
theorem callImplementsF (w : World) : (callFunc 289 #[.agg #[.pointer (some ⟨10, 125, none⟩)], .iface 271 (.agg #[.pointer (some ⟨10, 27, none⟩)])]).run Tryz.prog w = .ok (.value (.bool true)) w := by kernel_rfl
theorem methodAssignableTo (h : Value) (w : World) : (Go.method 473 271 (.agg #[h]) "AssignableTo").run Tryz.prog w = .ok (286, .agg #[h]) w := by kernel_rfl
theorem callAssignableE (w : World) : (callFunc 286 #[.agg #[.pointer (some ⟨10, 342, none⟩)], .iface 271 (.agg #[.pointer (some ⟨10, 125, none⟩)])]).run Tryz.prog w = .ok (.value (.bool false)) w := by kernel_rfl

/-! ### The entries that read or write memory -/
theorem partsT (a : Addr) (w : World) : (ReflectliteValue.parts (.agg #[.pointer (some ⟨10, 162, none⟩), .pointer (some a), .int .u64 150])).run Tryz.prog w = .ok (some (162, a, 150)) w := by kernel_rfl
theorem callIsNilT (a p : Addr) (W : World) (ha : W.cell? a = some (.pointer (some p))) :
    (callFunc 147 #[.agg #[.pointer (some ⟨10, 162, none⟩), .pointer (some a), .int .u64 150]]).run Tryz.prog W = .ok (.value (.bool false)) W := by
  rw [@run_callFunc_extern Tryz.prog 147 _ (ReflectliteValue.method (ReflectliteValue.valueError "reflectlite.Value.IsNil" 0) ReflectliteValue.isNil) Tryz.func147 (by kernel_rfl) (by kernel_rfl) (by kernel_rfl) (by kernel_rfl)]
  change Result.andThen (Sem.run Tryz.prog (Bind.bind (ReflectliteValue.parts (.agg #[.pointer (some ⟨10, 162, none⟩), .pointer (some a), .int .u64 150])) _) W) _ = _
  simp only [Sem.run_bind, partsT, Result.andThen]
  simp [ReflectliteValue.isNil, loadVar, isAgg, underlying, Tryz.underlying162, ha, Result.andThen]
theorem as_miss (a t : Addr) (w : World) (hg : w.cell? ⟨9, 0, none⟩ = some (.iface 271 (.agg #[.pointer (some ⟨10, 27, none⟩)]))) :
    Calls Tryz.prog 89 #[.iface 342 (.pointer (some a)), .iface 162 (.pointer (some t))] w fun ev w' => ev = .returned (.bool false) ∧ Below w.heap.size w w' := by
  have c1 := callValueOfT
  have c2 := callTypeT
  have c3 := methodKind
  have c4 := callKindT
  have c5 := callKindF
  have c6 := methodElem
  have c7 := callElemT
  have c8 := methodImplements
  have c9 := callImplementsF
  have d1 := methodAssignableTo
  have d2 := callAssignableE
  have d3 := callTypeOfE
  have d4 := noAsE
  have d5 := noUnwrapE
  have d6 := noUnwrapsE
  have n8 := callIsNilT ⟨w.heap.size, 0, none⟩ t ((w.alloc (.cells #[.pointer (some t)] 162)).alloc (.cells #[.pointer (some ⟨10, 162, none⟩), .pointer (some ⟨w.heap.size, 0, none⟩), .int .u64 150] 226)) (by simp)
  have hlt : 9 < w.heap.size := by
    rcases Nat.lt_or_ge 9 w.heap.size with h | h
    · exact h
    · simp [World.cell?, Array.getElem?_eq_none h] at hg
  have hg2 : ((w.alloc (.cells #[.pointer (some t)] 162)).alloc (.cells #[.pointer (some ⟨10, 162, none⟩), .pointer (some ⟨w.heap.size, 0, none⟩), .int .u64 150] 226)).cell? ⟨9, 0, none⟩ = some (.iface 271 (.agg #[.pointer (some ⟨10, 27, none⟩)])) := by
    rw [World.cell?_alloc_lt _ _ ⟨9, 0, none⟩ (by simp; omega), World.cell?_alloc_lt _ _ ⟨9, 0, none⟩ hlt]; exact hg
  go_enter Tryz.func89, Tryz.ntmps89
  go_wp2
  refine wp_loop_rounds 1 ?_
  rw [rounds_succ]
  go_wp2
  go_ret
  exact ⟨rfl, by repeat (first | exact Below.refl _ _ | refine Below.drew ?_ | refine Below.alloc ?_ (by simp; try omega) _)⟩
end Go.Proofs.YtbaamegnmeohoacGreatDoor
