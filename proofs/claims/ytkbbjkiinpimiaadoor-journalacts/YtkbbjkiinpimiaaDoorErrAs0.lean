/-
  CLOSED FACTS on the types that errors.As meets at the target that package plain hands it: a pointer to a variable of type *api.Fault.
-/
import Derived.Test.YtkbbjkiinpimiaaDoorErr
namespace Go.Proofs.YtkbbjkiinpimiaaDoor
open Go.RowKit Go.Extern.Stop Go.Stop Go.Extern

/-! ### Closed facts on the types that errors.As meets -/
theorem callValueOfT (t : Addr) (w : World) : (callFunc 90 #[.iface 105 (.pointer (some t))]).run Tryd.prog w
    = .ok (.value (.agg #[.pointer (some ⟨10, 105, none⟩), .pointer (some ⟨w.heap.size, 0, none⟩), .int .u64 150])) (w.alloc (.cells #[.pointer (some t)] 105)) := by kernel_rfl
theorem callTypeT (a : Addr) (w : World) : (callFunc 91 #[.agg #[.pointer (some ⟨10, 105, none⟩), .pointer (some a), .int .u64 150]]).run Tryd.prog w
    = .ok (.value (.iface 159 (.agg #[.pointer (some ⟨10, 105, none⟩)]))) w := by kernel_rfl
theorem methodKind (h : Value) (w : World) : (Go.method 301 159 (.agg #[h]) "Kind").run Tryd.prog w = .ok (121, h) w := by kernel_rfl
theorem callKindT (w : World) : (callFunc 121 #[.pointer (some ⟨10, 105, none⟩)]).run Tryd.prog w = .ok (.value (.int .u8 22)) w := by kernel_rfl
theorem callKindF (w : World) : (callFunc 121 #[.pointer (some ⟨10, 29, none⟩)]).run Tryd.prog w = .ok (.value (.int .u8 22)) w := by kernel_rfl
theorem methodElem (h : Value) (w : World) : (Go.method 301 159 (.agg #[h]) "Elem").run Tryd.prog w = .ok (133, .agg #[h]) w := by kernel_rfl
theorem callElemT (w : World) : (callFunc 133 #[.agg #[.pointer (some ⟨10, 105, none⟩)]]).run Tryd.prog w = .ok (.value (.iface 159 (.agg #[.pointer (some ⟨10, 29, none⟩)]))) w := by kernel_rfl
theorem methodImplements (h : Value) (w : World) : (Go.method 301 159 (.agg #[h]) "Implements").run Tryd.prog w = .ok (134, .agg #[h]) w := by kernel_rfl
theorem callImplementsF (w : World) : (callFunc 134 #[.agg #[.pointer (some ⟨10, 29, none⟩)], .iface 159 (.agg #[.pointer (some ⟨10, 25, none⟩)])]).run Tryd.prog w = .ok (.value (.bool true)) w := by kernel_rfl
theorem methodAssignableTo (h : Value) (w : World) : (Go.method 301 159 (.agg #[h]) "AssignableTo").run Tryd.prog w = .ok (131, .agg #[h]) w := by kernel_rfl
theorem callAssignableE (w : World) : (callFunc 131 #[.agg #[.pointer (some ⟨10, 107, none⟩)], .iface 159 (.agg #[.pointer (some ⟨10, 29, none⟩)])]).run Tryd.prog w = .ok (.value (.bool false)) w := by kernel_rfl
theorem callAssignableF (w : World) : (callFunc 131 #[.agg #[.pointer (some ⟨10, 29, none⟩)], .iface 159 (.agg #[.pointer (some ⟨10, 29, none⟩)])]).run Tryd.prog w = .ok (.value (.bool true)) w := by kernel_rfl
theorem callTypeOfF (v : Value) (w : World) : (callFunc 94 #[.iface 29 v]).run Tryd.prog w = .ok (.value (.iface 159 (.agg #[.pointer (some ⟨10, 29, none⟩)]))) w := by kernel_rfl
theorem callValueOfF (t : Addr) (w : World) : (callFunc 90 #[.iface 29 (.pointer (some t))]).run Tryd.prog w
    = .ok (.value (.agg #[.pointer (some ⟨10, 29, none⟩), .pointer (some ⟨w.heap.size, 0, none⟩), .int .u64 150])) (w.alloc (.cells #[.pointer (some t)] 29)) := by kernel_rfl

end Go.Proofs.YtkbbjkiinpimiaaDoor
