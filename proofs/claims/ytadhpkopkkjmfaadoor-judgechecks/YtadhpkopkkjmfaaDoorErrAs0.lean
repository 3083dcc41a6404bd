/-
  CLOSED FACTS on the types that errors.As meets at the target that package plain hands it: a pointer to a variable of type *api.Fault.
-/
import Derived.Test.YtadhpkopkkjmfaaDoorErr
namespace Go.Proofs.YtadhpkopkkjmfaaDoor
open Go.RowKit Go.Extern.Stop Go.Stop Go.Extern

/-! ### Closed facts on the types that errors.As meets -/
theorem callValueOfT (t : Addr) (w : World) : (callFunc 21 #[.iface 57 (.pointer (some t))]).run Tryd.prog w
    = .ok (.value (.agg #[.pointer (some ⟨10, 57, none⟩), .pointer (some ⟨w.heap.size, 0, none⟩), .int .u64 150])) (w.alloc (.cells #[.pointer (some t)] 57)) := by kernel_rfl
theorem callTypeT (a : Addr) (w : World) : (callFunc 22 #[.agg #[.pointer (some ⟨10, 57, none⟩), .pointer (some a), .int .u64 150]]).run Tryd.prog w
    = .ok (.value (.iface 76 (.agg #[.pointer (some ⟨10, 57, none⟩)]))) w := by kernel_rfl
theorem methodKind (h : Value) (w : World) : (Go.method 224 76 (.agg #[h]) "Kind").run Tryd.prog w = .ok (43, h) w := by kernel_rfl
theorem callKindT (w : World) : (callFunc 43 #[.pointer (some ⟨10, 57, none⟩)]).run Tryd.prog w = .ok (.value (.int .u8 22)) w := by kernel_rfl
theorem callKindF (w : World) : (callFunc 43 #[.pointer (some ⟨10, 51, none⟩)]).run Tryd.prog w = .ok (.value (.int .u8 22)) w := by kernel_rfl
theorem methodElem (h : Value) (w : World) : (Go.method 224 76 (.agg #[h]) "Elem").run Tryd.prog w = .ok (54, .agg #[h]) w := by kernel_rfl
theorem callElemT (w : World) : (callFunc 54 #[.agg #[.pointer (some ⟨10, 57, none⟩)]]).run Tryd.prog w = .ok (.value (.iface 76 (.agg #[.pointer (some ⟨10, 51, none⟩)]))) w := by kernel_rfl
theorem methodImplements (h : Value) (w : World) : (Go.method 224 76 (.agg #[h]) "Implements").run Tryd.prog w = .ok (55, .agg #[h]) w := by kernel_rfl
theorem callImplementsF (w : World) : (callFunc 55 #[.agg #[.pointer (some ⟨10, 51, none⟩)], .iface 76 (.agg #[.pointer (some ⟨10, 37, none⟩)])]).run Tryd.prog w = .ok (.value (.bool true)) w := by kernel_rfl
theorem methodAssignableTo (h : Value) (w : World) : (Go.method 224 76 (.agg #[h]) "AssignableTo").run Tryd.prog w = .ok (52, .agg #[h]) w := by kernel_rfl
theorem callAssignableE (w : World) : (callFunc 52 #[.agg #[.pointer (some ⟨10, 90, none⟩)], .iface 76 (.agg #[.pointer (some ⟨10, 51, none⟩)])]).run Tryd.prog w = .ok (.value (.bool false)) w := by kernel_rfl
theorem callAssignableF (w : World) : (callFunc 52 #[.agg #[.pointer (some ⟨10, 51, none⟩)], .iface 76 (.agg #[.pointer (some ⟨10, 51, none⟩)])]).run Tryd.prog w = .ok (.value (.bool true)) w := by kernel_rfl
theorem callTypeOfF (v : Value) (w : World) : (callFunc 25 #[.iface 51 v]).run Tryd.prog w = .ok (.value (.iface 76 (.agg #[.pointer (some ⟨10, 51, none⟩)]))) w := by kernel_rfl
theorem callValueOfF (t : Addr) (w : World) : (callFunc 21 #[.iface 51 (.pointer (some t))]).run Tryd.prog w
    = .ok (.value (.agg #[.pointer (some ⟨10, 51, none⟩), .pointer (some ⟨w.heap.size, 0, none⟩), .int .u64 150])) (w.alloc (.cells #[.pointer (some t)] 51)) := by kernel_rfl

end Go.Proofs.YtadhpkopkkjmfaaDoor
