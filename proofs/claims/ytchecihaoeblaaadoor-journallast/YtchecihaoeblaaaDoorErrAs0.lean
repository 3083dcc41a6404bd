/-
  CLOSED FACTS on the types that errors.As meets at the target that package plain hands it: a pointer to a variable of type *api.Fault.
-/
import Derived.Test.YtchecihaoeblaaaDoorErr
namespace Go.Proofs.YtchecihaoeblaaaDoor
open Go.RowKit Go.Extern.Stop Go.Stop Go.Extern

/-! ### Closed facts on the types that errors.As meets -/
theorem callValueOfT (t : Addr) (w : World) : (callFunc 70 #[.iface 88 (.pointer (some t))]).run Tryd.prog w
    = .ok (.value (.agg #[.pointer (some ⟨10, 88, none⟩), .pointer (some ⟨w.heap.size, 0, none⟩), .int .u64 150])) (w.alloc (.cells #[.pointer (some t)] 88)) := by kernel_rfl
theorem callTypeT (a : Addr) (w : World) : (callFunc 71 #[.agg #[.pointer (some ⟨10, 88, none⟩), .pointer (some a), .int .u64 150]]).run Tryd.prog w
    = .ok (.value (.iface 138 (.agg #[.pointer (some ⟨10, 88, none⟩)]))) w := by kernel_rfl
theorem methodKind (h : Value) (w : World) : (Go.method 282 138 (.agg #[h]) "Kind").run Tryd.prog w = .ok (102, h) w := by kernel_rfl
theorem callKindT (w : World) : (callFunc 102 #[.pointer (some ⟨10, 88, none⟩)]).run Tryd.prog w = .ok (.value (.int .u8 22)) w := by kernel_rfl
theorem callKindF (w : World) : (callFunc 102 #[.pointer (some ⟨10, 29, none⟩)]).run Tryd.prog w = .ok (.value (.int .u8 22)) w := by kernel_rfl
theorem methodElem (h : Value) (w : World) : (Go.method 282 138 (.agg #[h]) "Elem").run Tryd.prog w = .ok (114, .agg #[h]) w := by kernel_rfl
theorem callElemT (w : World) : (callFunc 114 #[.agg #[.pointer (some ⟨10, 88, none⟩)]]).run Tryd.prog w = .ok (.value (.iface 138 (.agg #[.pointer (some ⟨10, 29, none⟩)]))) w := by kernel_rfl
theorem methodImplements (h : Value) (w : World) : (Go.method 282 138 (.agg #[h]) "Implements").run Tryd.prog w = .ok (115, .agg #[h]) w := by kernel_rfl
theorem callImplementsF (w : World) : (callFunc 115 #[.agg #[.pointer (some ⟨10, 29, none⟩)], .iface 138 (.agg #[.pointer (some ⟨10, 25, none⟩)])]).run Tryd.prog w = .ok (.value (.bool true)) w := by kernel_rfl
theorem methodAssignableTo (h : Value) (w : World) : (Go.method 282 138 (.agg #[h]) "AssignableTo").run Tryd.prog w = .ok (112, .agg #[h]) w := by kernel_rfl
theorem callAssignableE (w : World) : (callFunc 112 #[.agg #[.pointer (some ⟨10, 90, none⟩)], .iface 138 (.agg #[.pointer (some ⟨10, 29, none⟩)])]).run Tryd.prog w = .ok (.value (.bool false)) w := by kernel_rfl
theorem callAssignableF (w : World) : (callFunc 112 #[.agg #[.pointer (some ⟨10, 29, none⟩)], .iface 138 (.agg #[.pointer (some ⟨10, 29, none⟩)])]).run Tryd.prog w = .ok (.value (.bool true)) w := by kernel_rfl
theorem callTypeOfF (v : Value) (w : World) : (callFunc 74 #[.iface 29 v]).run Tryd.prog w = .ok (.value (.iface 138 (.agg #[.pointer (some ⟨10, 29, none⟩)]))) w := by kernel_rfl
theorem callValueOfF (t : Addr) (w : World) : (callFunc 70 #[.iface 29 (.pointer (some t))]).run Tryd.prog w
    = .ok (.value (.agg #[.pointer (some ⟨10, 29, none⟩), .pointer (some ⟨w.heap.size, 0, none⟩), .int .u64 150])) (w.alloc (.cells #[.pointer (some t)] 29)) := by kernel_rfl

end Go.Proofs.YtchecihaoeblaaaDoor
