/-
  WALKS: errors.As at an api.Fault; plain.Code of an api.Fault round one of package api's errors.
-/
import Derived.Test.YtadhpkopkkjmfaaDoorCode
namespace Go.Proofs.YtadhpkopkkjmfaaDoor
open Go.RowKit Go.Extern.Stop Go.Stop Go.Extern

theorem partsFa (a : Addr) (w : World) : (ReflectliteValue.parts (.agg #[.pointer (some ⟨10, 51, none⟩), .pointer (some a), .int .u64 406])).run Tryd.prog w = .ok (some (51, a, 406)) w := by kernel_rfl
theorem partsF (a : Addr) (w : World) : (ReflectliteValue.parts (.agg #[.pointer (some ⟨10, 51, none⟩), .pointer (some a), .int .u64 150])).run Tryd.prog w = .ok (some (51, a, 150)) w := by kernel_rfl
theorem directF (w : World) : (Rtype.directlyAssignable 51 51).run Tryd.prog w = .ok true w := by kernel_rfl
/-- (Value).Set: the *api.Fault variable at ta gets what the Value's own variable b holds. -/
theorem callSetF (ta b e : Addr) (old : Value) (W : World) (hb : W.cell? b = some (.pointer (some e))) (ht : W.cell? ta = some old) (hf : W.frozen? ta = false) :
    (callFunc 28 #[.agg #[.pointer (some ⟨10, 51, none⟩), .pointer (some ta), .int .u64 406], .agg #[.pointer (some ⟨10, 51, none⟩), .pointer (some b), .int .u64 150]]).run Tryd.prog W
      = .ok (.value (.tuple #[])) (W.setCell ta (.pointer (some e))) := by
  rw [@run_callFunc_extern Tryd.prog 28 _ ReflectliteValue.set Tryd.func28 (by kernel_rfl) (by kernel_rfl) (by kernel_rfl) (by kernel_rfl)]
  change Result.andThen (Sem.run Tryd.prog (Bind.bind (ReflectliteValue.parts (.agg #[.pointer (some ⟨10, 51, none⟩), .pointer (some ta), .int .u64 406])) fun _ => Bind.bind (ReflectliteValue.parts (.agg #[.pointer (some ⟨10, 51, none⟩), .pointer (some b), .int .u64 150])) _) W) _ = _
  simp only [Sem.run_bind, partsFa, partsF, Result.andThen]
  simp [ReflectliteValue.flagAddr, loadVar, isAgg, underlying, Tryd.underlying51, hb, Result.andThen, directF, storeVar, Value.cells, storeCells, Addr.add]
  rw [run_store Tryd.prog W ta _ _ (by rfl)]
  simp [ht, hf]

/-- errors.As(f, &t), f an api.Fault: yes, and t is set. -/
theorem as_hit (e t : Addr) (old : Value) (B : Nat) (w : World) (hB : B ≤ t.block) (hg : w.cell? ⟨9, 0, none⟩ = some (.iface 76 (.agg #[.pointer (some ⟨10, 37, none⟩)]))) (ht0 : w.cell? t = some old) (hf0 : w.frozen? t = false) :
    Calls Tryd.prog 18 #[.iface 51 (.pointer (some e)), .iface 57 (.pointer (some t))] w fun ev w' => ev = .returned (.bool true) ∧ w'.cell? t = some (.pointer (some e)) ∧ Below B w w' := by
  have c1 := callValueOfT
  have c2 := callTypeT
  have c3 := methodKind
  have c4 := callKindT
  have c5 := callKindF
  have c6 := methodElem
  have c7 := callElemT
  have c8 := methodImplements
  have c9 := callImplementsF
  have d1 := methodAssignableTo
  have d2 := callAssignableF
  have d3 := callTypeOfF
  have d4 := callValueOfF
  have n8 := callIsNilT ⟨w.heap.size, 0, none⟩ t ((w.alloc (.cells #[.pointer (some t)] 57)).alloc (.cells #[.pointer (some ⟨10, 57, none⟩), .pointer (some ⟨w.heap.size, 0, none⟩), .int .u64 150] 64)) (by simp)
  have hlt : 9 < w.heap.size := cell_lt hg
  have htl : t.block < w.heap.size := cell_lt ht0
  have hg2 : ((w.alloc (.cells #[.pointer (some t)] 57)).alloc (.cells #[.pointer (some ⟨10, 57, none⟩), .pointer (some ⟨w.heap.size, 0, none⟩), .int .u64 150] 64)).cell? ⟨9, 0, none⟩ = some (.iface 76 (.agg #[.pointer (some ⟨10, 37, none⟩)])) := cell_alloc _ (cell_alloc _ hg)
  have el := callElemV ⟨w.heap.size, 0, none⟩ t (((w.alloc (.cells #[.pointer (some t)] 57)).alloc (.cells #[.pointer (some ⟨10, 57, none⟩), .pointer (some ⟨w.heap.size, 0, none⟩), .int .u64 150] 64)).alloc (.cells #[.pointer (some ⟨10, 57, none⟩), .pointer (some ⟨w.heap.size, 0, none⟩), .int .u64 150] 64)) (cell_alloc _ (by simp))
  have st := callSetF t ⟨w.heap.size + 1 + 1 + 1, 0, none⟩ e old ((((w.alloc (.cells #[.pointer (some t)] 57)).alloc (.cells #[.pointer (some ⟨10, 57, none⟩), .pointer (some ⟨w.heap.size, 0, none⟩), .int .u64 150] 64)).alloc (.cells #[.pointer (some ⟨10, 57, none⟩), .pointer (some ⟨w.heap.size, 0, none⟩), .int .u64 150] 64)).alloc (.cells #[.pointer (some e)] 51))
    (by rw [World.cell?_alloc_at _ _ _ _ (by simp)]; rfl)
    (cell_alloc _ (cell_alloc _ (cell_alloc _ (cell_alloc _ ht0))))
    (by rw [World.frozen?_alloc_old _ _ t (by simp; omega), World.frozen?_alloc_old _ _ t (by simp; omega), World.frozen?_alloc_old _ _ t (by simp; omega), World.frozen?_alloc_old _ _ t (Nat.ne_of_lt htl)]; exact hf0)
  go_enter Tryd.func18, Tryd.ntmps18
  go_wp2
  refine wp_loop_rounds 1 ?_
  rw [rounds_succ]
  go_wp2
  go_ret
  have hBs : B ≤ w.heap.size := Nat.le_trans hB (Nat.le_of_lt htl)
  refine ⟨rfl, World.cell?_setCell_same _ _ _ (cell_alloc _ (cell_alloc _ (cell_alloc _ (cell_alloc _ ht0)))), ?_⟩
  refine Below.setCell ?_ hB _
  repeat (first | exact Below.refl _ _ | refine Below.drew ?_ | refine Below.alloc ?_ (by first | omega | (simp; omega)) _)
end Go.Proofs.YtadhpkopkkjmfaaDoor
