/-
  On the way to WCommitsProof, WAgreesProof, WEndsProof, WWaitsProof, JTampersProof: ErrF CodeF.
-/
import Derived.Test.YtadhpkopkkjmfaaGreatDoorBz5
set_option maxHeartbeats 8000000
set_option maxRecDepth 100000
namespace Go.Proofs.YtadhpkopkkjmfaaGreatDoor
open Go.RowKit Go.Extern.Stop Go.Stop Go.Extern
theorem partsFa (a : Addr) (w : World) : (ReflectliteValue.parts (.agg #[.pointer (some ⟨10, 112, none⟩), .pointer (some a), .int .u64 406])).run Tryz.prog w = .ok (some (112, a, 406)) w := by kernel_rfl
theorem partsF (a : Addr) (w : World) : (ReflectliteValue.parts (.agg #[.pointer (some ⟨10, 112, none⟩), .pointer (some a), .int .u64 150])).run Tryz.prog w = .ok (some (112, a, 150)) w := by kernel_rfl
theorem directF (w : World) : (Rtype.directlyAssignable 112 112).run Tryz.prog w = .ok true w := by kernel_rfl
theorem callSetF (ta b e : Addr) (old : Value) (W : World) (hb : W.cell? b = some (.pointer (some e))) (ht : W.cell? ta = some old) (hf : W.frozen? ta = false) :
    (callFunc 180 #[.agg #[.pointer (some ⟨10, 112, none⟩), .pointer (some ta), .int .u64 406], .agg #[.pointer (some ⟨10, 112, none⟩), .pointer (some b), .int .u64 150]]).run Tryz.prog W
      = .ok (.value (.tuple #[])) (W.setCell ta (.pointer (some e))) := by
  rw [@run_callFunc_extern Tryz.prog 180 _ ReflectliteValue.set Tryz.func180 (by kernel_rfl) (by kernel_rfl) (by kernel_rfl) (by kernel_rfl)]
  change Result.andThen (Sem.run Tryz.prog (Bind.bind (ReflectliteValue.parts (.agg #[.pointer (some ⟨10, 112, none⟩), .pointer (some ta), .int .u64 406])) fun _ => Bind.bind (ReflectliteValue.parts (.agg #[.pointer (some ⟨10, 112, none⟩), .pointer (some b), .int .u64 150])) _) W) _ = _
  simp only [Sem.run_bind, partsFa, partsF, Result.andThen]
  simp [ReflectliteValue.flagAddr, loadVar, isAgg, underlying, Tryz.underlying112, hb, Result.andThen, directF, storeVar, Value.cells, storeCells, Addr.add]
  rw [run_store Tryz.prog W ta _ _ (by rfl)]
  simp [ht, hf]
theorem as_hit (e t : Addr) (old : Value) (B : Nat) (w : World) (hB : B ≤ t.block) (hg : w.cell? ⟨9, 0, none⟩ = some (.iface 239 (.agg #[.pointer (some ⟨10, 28, none⟩)]))) (ht0 : w.cell? t = some old) (hf0 : w.frozen? t = false) :
    Calls Tryz.prog 117 #[.iface 112 (.pointer (some e)), .iface 181 (.pointer (some t))] w fun ev w' => ev = .returned (.bool true) ∧ w'.cell? t = some (.pointer (some e)) ∧ Below B w w' := by
  have c1 := callValueOfT
  have c2 := callTypeT
  have c3 := methodKind
  have c4 := callKindT
  have c5 := callKindF
  have c6 := methodElem
  have c7 := callElemT
  have c8 := methodImplements
  have c9 := callImplementsF
  have d1 := methodAssignableTo
  have d2 := callAssignableF
  have d3 := callTypeOfF
  have d4 := callValueOfF
  have n8 := callIsNilT ⟨w.heap.size, 0, none⟩ t ((w.alloc (.cells #[.pointer (some t)] 181)).alloc (.cells #[.pointer (some ⟨10, 181, none⟩), .pointer (some ⟨w.heap.size, 0, none⟩), .int .u64 150] 215)) (by simp)
  have hlt : 9 < w.heap.size := cell_lt hg
  have htl : t.block < w.heap.size := cell_lt ht0
  have hg2 : ((w.alloc (.cells #[.pointer (some t)] 181)).alloc (.cells #[.pointer (some ⟨10, 181, none⟩), .pointer (some ⟨w.heap.size, 0, none⟩), .int .u64 150] 215)).cell? ⟨9, 0, none⟩ = some (.iface 239 (.agg #[.pointer (some ⟨10, 28, none⟩)])) := cell_alloc _ (cell_alloc _ hg)
  have el := callElemV ⟨w.heap.size, 0, none⟩ t (((w.alloc (.cells #[.pointer (some t)] 181)).alloc (.cells #[.pointer (some ⟨10, 181, none⟩), .pointer (some ⟨w.heap.size, 0, none⟩), .int .u64 150] 215)).alloc (.cells #[.pointer (some ⟨10, 181, none⟩), .pointer (some ⟨w.heap.size, 0, none⟩), .int .u64 150] 215)) (cell_alloc _ (by simp))
  have st := callSetF t ⟨w.heap.size + 1 + 1 + 1, 0, none⟩ e old ((((w.alloc (.cells #[.pointer (some t)] 181)).alloc (.cells #[.pointer (some ⟨10, 181, none⟩), .pointer (some ⟨w.heap.size, 0, none⟩), .int .u64 150] 215)).alloc (.cells #[.pointer (some ⟨10, 181, none⟩), .pointer (some ⟨w.heap.size, 0, none⟩), .int .u64 150] 215)).alloc (.cells #[.pointer (some e)] 112))
    (by rw [World.cell?_alloc_at _ _ _ _ (by simp)]; rfl)
    (cell_alloc _ (cell_alloc _ (cell_alloc _ (cell_alloc _ ht0))))
    (by rw [World.frozen?_alloc_old _ _ t (by simp; omega), World.frozen?_alloc_old _ _ t (by simp; omega), World.frozen?_alloc_old _ _ t (by simp; omega), World.frozen?_alloc_old _ _ t (Nat.ne_of_lt htl)]; exact hf0)
  go_enter Tryz.func117, Tryz.ntmps117
  go_wp2
  refine wp_loop_rounds 1 ?_
  rw [rounds_succ]
  go_wp2
  go_ret
  have hBs : B ≤ w.heap.size := Nat.le_trans hB (Nat.le_of_lt htl)
  refine ⟨rfl, World.cell?_setCell_same _ _ _ (cell_alloc _ (cell_alloc _ (cell_alloc _ (cell_alloc _ ht0)))), ?_⟩
  refine Below.setCell ?_ hB _
  repeat (first | exact Below.refl _ _ | refine Below.drew ?_ | refine Below.alloc ?_ (by first | omega | (simp; omega)) _)
end Go.Proofs.YtadhpkopkkjmfaaGreatDoor
namespace Go.Proofs.YtadhpkopkkjmfaaGreatDoor
open Go.RowKit
theorem code_f (A : Nat → Addr) (pb po : Nat) (at0 : Int) (x : Addr) (c : Nat) (r : Int) (w : World) (hE : Held9 w A) (hf1 : w.cell? ⟨pb, po, none⟩ = some (.int .i64 at0)) (hf2 : w.cell? ⟨pb, po + 1, none⟩ = some (.iface 276 (.pointer (some x)))) (hrow : ∃ cs t, w.heap[x.block]? = some (.cells cs t (0, 0)))
    (hc : c ≤ 9) (hlo : ∀ k, k < c → x ≠ A k) (hat : c < 9 → x = A c) (hr1 : c < 9 → r = c + 1) (hr2 : c = 9 → r = -1) :
    Calls Tryz.prog 86 #[.iface 112 (.pointer (some ⟨pb, po, none⟩))] w fun e w' => e = .returned (.tuple #[.int .i64 r, .int .i64 at0]) ∧ Below w.heap.size w w' := by
  have H := hid hE
  have F1 := hid hf1
  have F2 := hid hf2
  have HR := hid hrow
  have HLO := hid hlo
  have HAT := hid hat
  have HR1 := hid hr1
  have HR2 := hid hr2
  clear hE hf1 hf2 hrow hlo hat hr1 hr2
  have hb0 : Below w.heap.size w (w.alloc (.cells #[.pointer none] 112)) := (Below.refl _ _).alloc (Nat.le_refl _) _
  go_enter Tryz.func86, Tryz.ntmps86
  go_wp2_with (go_at_call 117; refine (as_hit ⟨pb, po, none⟩ _ (.pointer none) w.heap.size _ (Nat.le_refl _) (by exact (H.out.later hb0).hnd) (by simp) (by simp)).mono ?_; rintro e w1 ⟨rfl, ht1, hb1⟩; obtain ⟨g0, g1, g2, g3, g4, g5, g6, g7, g8⟩ := (H.out.later (hb0.trans hb1)).cells; have f1 := cell_later (hb0.trans hb1) F1.out)
  have hB : Below w.heap.size w (w1.alloc (.cells #[.iface 276 (.pointer (some (A 0))), .iface 276 (.pointer (some (A 1))), .iface 276 (.pointer (some (A 2))), .iface 276 (.pointer (some (A 3))), .iface 276 (.pointer (some (A 4))), .iface 276 (.pointer (some (A 5))), .iface 276 (.pointer (some (A 6))), .iface 276 (.pointer (some (A 7))), .iface 276 (.pointer (some (A 8)))] 28)) := (hb0.trans hb1).alloc (Nat.le_trans hb0.size hb1.size) _
  have hcell : ∀ k, k < 9 → (w1.alloc (.cells #[.iface 276 (.pointer (some (A 0))), .iface 276 (.pointer (some (A 1))), .iface 276 (.pointer (some (A 2))), .iface 276 (.pointer (some (A 3))), .iface 276 (.pointer (some (A 4))), .iface 276 (.pointer (some (A 5))), .iface 276 (.pointer (some (A 6))), .iface 276 (.pointer (some (A 7))), .iface 276 (.pointer (some (A 8)))] 28)).cell? ⟨w1.heap.size, k, none⟩ = some (.iface 276 (.pointer (some (A k)))) := fun k hk => errArr_at A k hk w1 28
  have HC := hid hcell
  have F2' := hid (cell_later hB F2.out)
  clear g0 g1 g2 g3 g4 g5 g6 g7 g8 hcell f1 ht1
  go_loop [3, 27] (fun a i => ∃ k : Nat, k ≤ c ∧ i = .int .i64 k ∧ a = .int .i64 at0) (fun _ i => 9 - (intOf i).toNat)
  case atStart => exact ⟨0, Nat.zero_le _, rfl, rfl⟩
  case round =>
    obtain ⟨k, hk, rfl, rfl⟩ := hrel
    by_cases hlt : k < 9
    · have hck := HC.out k hlt
      by_cases hkc : k = c
      · subst hkc
        have hx := HAT.out hlt
        subst hx
        have hR := HR1.out hlt
        subst hR
        go_wp2_with (go_at_call 118; refine (is_f_same pb po _ _ F2'.out).mono ?_; rintro e w' ⟨rfl, rfl⟩)
        go_ret2
        exact ⟨rfl, hB⟩
      · obtain ⟨cs, t, hr⟩ := HR.out
        obtain ⟨cs', t', hr'⟩ := H.out.row k hlt
        have hr2 := hid (row_later hB hr)
        have hr2' := hid (row_later hB hr')
        clear hr hr'
        go_wp2_with (go_at_call 118; refine (is_f_other pb po _ _ cs cs' t t' _ F2'.out (HLO.out k (by omega)) hr2.out hr2'.out).mono ?_; rintro e w' ⟨rfl, rfl⟩)
        go_round
        case rel => exact ⟨k + 1, by omega, by go_num, rfl⟩
        case measure => simp [intOf]; omega
    · have hc9 : c = 9 := by omega
      have hR := HR2.out hc9
      subst hR
      go_wp2
      go_ret2
      exact ⟨rfl, hB⟩
theorem codeF_at (A : Nat → Addr) (pb po : Nat) (at0 : Int) (c : Nat) (w : World) (hE : Held9 w A) (hc : c < 9) (hf1 : w.cell? ⟨pb, po, none⟩ = some (.int .i64 at0)) (hf2 : w.cell? ⟨pb, po + 1, none⟩ = some (.iface 276 (.pointer (some (A c))))) :
    Calls Tryz.prog 86 #[.iface 112 (.pointer (some ⟨pb, po, none⟩))] w fun e w' => e = .returned (.tuple #[.int .i64 ((c : Int) + 1), .int .i64 at0]) ∧ Below w.heap.size w w' :=
  code_f A pb po at0 (A c) c _ w hE hf1 hf2 (hE.row c hc) (by omega) (fun k hk => hE.ne c k hc (by omega) (by omega)) (fun _ => rfl) (fun _ => rfl) (fun h => by omega)
end Go.Proofs.YtadhpkopkkjmfaaGreatDoor
