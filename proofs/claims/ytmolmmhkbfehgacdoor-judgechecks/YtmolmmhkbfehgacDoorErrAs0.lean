/-
  CLOSED FACTS on the types that errors.As meets at the target that package plain hands it: a pointer to a variable of type *api.Fault.
-/
import Derived.Test.YtmolmmhkbfehgacDoorErr
namespace Go.Proofs.YtmolmmhkbfehgacDoor
open Go.RowKit Go.Extern.Stop Go.Stop Go.Extern

/-! ### Closed facts on the types that errors.As meets -/
theorem callValueOfT (t : Addr) (w : World) : (callFunc 51 #[.iface 95 (.pointer (some t))]).run Tryd.prog w
    = .ok (.value (.agg #[.pointer (some ⟨10, 95, none⟩), .pointer (some ⟨w.heap.size, 0, none⟩), .int .u64 150])) (w.alloc (.cells #[.pointer (some t)] 95)) := by kernel_rfl
theorem callTypeT (a : Addr) (w : World) : (callFunc 52 #[.agg #[.pointer (some ⟨10, 95, none⟩), .pointer (some a), .int .u64 150]]).run Tryd.prog w
    = .ok (.value (.iface 146 (.agg #[.pointer (some ⟨10, 95, none⟩)]))) w := by kernel_rfl
theorem methodKind (h : Value) (w : World) : (Go.method 305 146 (.agg #[h]) "Kind").run Tryd.prog w = .ok (95, h) w := by kernel_rfl
theorem callKindT (w : World) : (callFunc 95 #[.pointer (some ⟨10, 95, none⟩)]).run Tryd.prog w = .ok (.value (.int .u8 22)) w := by kernel_rfl
theorem callKindF (w : World) : (callFunc 95 #[.pointer (some ⟨10, 66, none⟩)]).run Tryd.prog w = .ok (.value (.int .u8 22)) w := by kernel_rfl
theorem methodElem (h : Value) (w : World) : (Go.method 305 146 (.agg #[h]) "Elem").run Tryd.prog w = .ok (110, .agg #[h]) w := by kernel_rfl
theorem callElemT (w : World) : (callFunc 110 #[.agg #[.pointer (some ⟨10, 95, none⟩)]]).run Tryd.prog w = .ok (.value (.iface 146 (.agg #[.pointer (some ⟨10, 66, none⟩)]))) w := by kernel_rfl
theorem methodImplements (h : Value) (w : World) : (Go.method 305 146 (.agg #[h]) "Implements").run Tryd.prog w = .ok (111, .agg #[h]) w := by kernel_rfl
theorem callImplementsF (w : World) : (callFunc 111 #[.agg #[.pointer (some ⟨10, 66, none⟩)], .iface 146 (.agg #[.pointer (some ⟨10, 37, none⟩)])]).run Tryd.prog w = .ok (.value (.bool true)) w := by kernel_rfl
theorem methodAssignableTo (h : Value) (w : World) : (Go.method 305 146 (.agg #[h]) "AssignableTo").run Tryd.prog w = .ok (108, .agg #[h]) w := by kernel_rfl
theorem callAssignableE (w : World) : (callFunc 108 #[.agg #[.pointer (some ⟨10, 169, none⟩)], .iface 146 (.agg #[.pointer (some ⟨10, 66, none⟩)])]).run Tryd.prog w = .ok (.value (.bool false)) w := by kernel_rfl
theorem callAssignableF (w : World) : (callFunc 108 #[.agg #[.pointer (some ⟨10, 66, none⟩)], .iface 146 (.agg #[.pointer (some ⟨10, 66, none⟩)])]).run Tryd.prog w = .ok (.value (.bool true)) w := by kernel_rfl
theorem callTypeOfF (v : Value) (w : World) : (callFunc 55 #[.iface 66 v]).run Tryd.prog w = .ok (.value (.iface 146 (.agg #[.pointer (some ⟨10, 66, none⟩)]))) w := by kernel_rfl
theorem callValueOfF (t : Addr) (w : World) : (callFunc 51 #[.iface 66 (.pointer (some t))]).run Tryd.prog w
    = .ok (.value (.agg #[.pointer (some ⟨10, 66, none⟩), .pointer (some ⟨w.heap.size, 0, none⟩), .int .u64 150])) (w.alloc (.cells #[.pointer (some t)] 66)) := by kernel_rfl

end Go.Proofs.YtmolmmhkbfehgacDoor
