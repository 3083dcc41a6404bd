/-
  CLOSED FACTS on the types that errors.As meets at the target that package plain hands it: a pointer to a variable of type *api.Fault.
-/
import Derived.Test.YtgjnolfglkhbmaaDoorErr
namespace Go.Proofs.YtgjnolfglkhbmaaDoor
open Go.RowKit Go.Extern.Stop Go.Stop Go.Extern

/-! ### Closed facts on the types that errors.As meets -/
theorem callValueOfT (t : Addr) (w : World) : (callFunc 50 #[.iface 69 (.pointer (some t))]).run Tryd.prog w
    = .ok (.value (.agg #[.pointer (some ⟨10, 69, none⟩), .pointer (some ⟨w.heap.size, 0, none⟩), .int .u64 150])) (w.alloc (.cells #[.pointer (some t)] 69)) := by kernel_rfl
theorem callTypeT (a : Addr) (w : World) : (callFunc 51 #[.agg #[.pointer (some ⟨10, 69, none⟩), .pointer (some a), .int .u64 150]]).run Tryd.prog w
    = .ok (.value (.iface 98 (.agg #[.pointer (some ⟨10, 69, none⟩)]))) w := by kernel_rfl
theorem methodKind (h : Value) (w : World) : (Go.method 241 98 (.agg #[h]) "Kind").run Tryd.prog w = .ok (74, h) w := by kernel_rfl
theorem callKindT (w : World) : (callFunc 74 #[.pointer (some ⟨10, 69, none⟩)]).run Tryd.prog w = .ok (.value (.int .u8 22)) w := by kernel_rfl
theorem callKindF (w : World) : (callFunc 74 #[.pointer (some ⟨10, 29, none⟩)]).run Tryd.prog w = .ok (.value (.int .u8 22)) w := by kernel_rfl
theorem methodElem (h : Value) (w : World) : (Go.method 241 98 (.agg #[h]) "Elem").run Tryd.prog w = .ok (86, .agg #[h]) w := by kernel_rfl
theorem callElemT (w : World) : (callFunc 86 #[.agg #[.pointer (some ⟨10, 69, none⟩)]]).run Tryd.prog w = .ok (.value (.iface 98 (.agg #[.pointer (some ⟨10, 29, none⟩)]))) w := by kernel_rfl
theorem methodImplements (h : Value) (w : World) : (Go.method 241 98 (.agg #[h]) "Implements").run Tryd.prog w = .ok (87, .agg #[h]) w := by kernel_rfl
theorem callImplementsF (w : World) : (callFunc 87 #[.agg #[.pointer (some ⟨10, 29, none⟩)], .iface 98 (.agg #[.pointer (some ⟨10, 25, none⟩)])]).run Tryd.prog w = .ok (.value (.bool true)) w := by kernel_rfl
theorem methodAssignableTo (h : Value) (w : World) : (Go.method 241 98 (.agg #[h]) "AssignableTo").run Tryd.prog w = .ok (84, .agg #[h]) w := by kernel_rfl
theorem callAssignableE (w : World) : (callFunc 84 #[.agg #[.pointer (some ⟨10, 71, none⟩)], .iface 98 (.agg #[.pointer (some ⟨10, 29, none⟩)])]).run Tryd.prog w = .ok (.value (.bool false)) w := by kernel_rfl
theorem callAssignableF (w : World) : (callFunc 84 #[.agg #[.pointer (some ⟨10, 29, none⟩)], .iface 98 (.agg #[.pointer (some ⟨10, 29, none⟩)])]).run Tryd.prog w = .ok (.value (.bool true)) w := by kernel_rfl
theorem callTypeOfF (v : Value) (w : World) : (callFunc 54 #[.iface 29 v]).run Tryd.prog w = .ok (.value (.iface 98 (.agg #[.pointer (some ⟨10, 29, none⟩)]))) w := by kernel_rfl
theorem callValueOfF (t : Addr) (w : World) : (callFunc 50 #[.iface 29 (.pointer (some t))]).run Tryd.prog w
    = .ok (.value (.agg #[.pointer (some ⟨10, 29, none⟩), .pointer (some ⟨w.heap.size, 0, none⟩), .int .u64 150])) (w.alloc (.cells #[.pointer (some t)] 29)) := by kernel_rfl

end Go.Proofs.YtgjnolfglkhbmaaDoor
