/-
  WALKS: errors.As at an api.Fault; plain.Code of an api.Fault round one of package api's errors.
  THE CONTRACT of plain.Code at an api.Fault round an error of errors.New's make: its number, and its place.
  Plain: an event that is told otherwise is seen just where its deal has another one.
  WALKS of package judge: Agree.
  WALK of the laws' judged: a closed fact.
  THE LAW JudgeTampers.
  A slice of integers that came in.
  Numbers that came in: a slice, and each is one of the language.
  WHAT THE CELL 'laid' GIVES THE WALKS: each listed error variable holds a pointer of its own to a string, no two the same.
  FROM 'laid' TO WHAT THE WALKS ASK: package api's nine error variables hold nine different errors, errors.errorType its handle; the door's own heap meets the condition (the witness).
-/
import Derived.Test.YtdpemmmbkjmplacGreatDoorBa2
import Derived.Test.YtdpemmmbkjmplacGreatDoorBa12
import Derived.Test.YtdpemmmbkjmplacGreatDoorBa13
import Derived.Test.YtdpemmmbkjmplacGreatDoorBa7
import Derived.Test.YtdpemmmbkjmplacGreatDoorBa6
import Derived.Test.YtdpemmmbkjmplacGreatDoorRows
import Derived.BigRegion
import Derived.BigQuiet
import Derived.WalkKit
import Derived.ProofKit
import Derived.LaidLaws
import Derived.LaidMore
import Derived.LaidSub
import Derived.LaidHandle
import Derived.MakeChecks
namespace Go.Proofs.YtdpemmmbkjmplacGreatDoor
open Go.RowKit Go.Extern.Stop Go.Stop Go.Extern

theorem partsFa (a : Addr) (w : World) : (ReflectliteValue.parts (.agg #[.pointer (some ⟨10, 113, none⟩), .pointer (some a), .int .u64 406])).run Tryz.prog w = .ok (some (113, a, 406)) w := by kernel_rfl
theorem partsF (a : Addr) (w : World) : (ReflectliteValue.parts (.agg #[.pointer (some ⟨10, 113, none⟩), .pointer (some a), .int .u64 150])).run Tryz.prog w = .ok (some (113, a, 150)) w := by kernel_rfl
theorem directF (w : World) : (Rtype.directlyAssignable 113 113).run Tryz.prog w = .ok true w := by kernel_rfl
/-- (Value).Set: the *api.Fault variable at ta gets what the Value's own variable b holds. -/
theorem callSetF (ta b e : Addr) (old : Value) (W : World) (hb : W.cell? b = some (.pointer (some e))) (ht : W.cell? ta = some old) (hf : W.frozen? ta = false) :
    (callFunc 153 #[.agg #[.pointer (some ⟨10, 113, none⟩), .pointer (some ta), .int .u64 406], .agg #[.pointer (some ⟨10, 113, none⟩), .pointer (some b), .int .u64 150]]).run Tryz.prog W
      = .ok (.value (.tuple #[])) (W.setCell ta (.pointer (some e))) := by
  rw [@run_callFunc_extern Tryz.prog 153 _ ReflectliteValue.set Tryz.func153 (by kernel_rfl) (by kernel_rfl) (by kernel_rfl) (by kernel_rfl)]
  change Result.andThen (Sem.run Tryz.prog (Bind.bind (ReflectliteValue.parts (.agg #[.pointer (some ⟨10, 113, none⟩), .pointer (some ta), .int .u64 406])) fun _ => Bind.bind (ReflectliteValue.parts (.agg #[.pointer (some ⟨10, 113, none⟩), .pointer (some b), .int .u64 150])) _) W) _ = _
  simp only [Sem.run_bind, partsFa, partsF, Result.andThen]
  simp [ReflectliteValue.flagAddr, loadVar, isAgg, underlying, Tryz.underlying113, hb, Result.andThen, directF, storeVar, Value.cells, storeCells, Addr.add]
  rw [run_store Tryz.prog W ta _ _ (by rfl)]
  simp [ht, hf]

/-- errors.As(f, &t), f an api.Fault: yes, and t is set. -/
theorem as_hit (e t : Addr) (old : Value) (B : Nat) (w : World) (hB : B ≤ t.block) (hg : w.cell? ⟨9, 0, none⟩ = some (.iface 219 (.agg #[.pointer (some ⟨10, 27, none⟩)]))) (ht0 : w.cell? t = some old) (hf0 : w.frozen? t = false) :
    Calls Tryz.prog 76 #[.iface 113 (.pointer (some e)), .iface 141 (.pointer (some t))] w fun ev w' => ev = .returned (.bool true) ∧ w'.cell? t = some (.pointer (some e)) ∧ Below B w w' := by
  have c1 := callValueOfT
  have c2 := callTypeT
  have c3 := methodKind
  have c4 := callKindT
  have c5 := callKindF
  have c6 := methodElem
  have c7 := callElemT
  have c8 := methodImplements
  have c9 := callImplementsF
  have d1 := methodAssignableTo
  have d2 := callAssignableF
  have d3 := callTypeOfF
  have d4 := callValueOfF
  have n8 := callIsNilT ⟨w.heap.size, 0, none⟩ t ((w.alloc (.cells #[.pointer (some t)] 141)).alloc (.cells #[.pointer (some ⟨10, 141, none⟩), .pointer (some ⟨w.heap.size, 0, none⟩), .int .u64 150] 195)) (by simp)
  have hlt : 9 < w.heap.size := cell_lt hg
  have htl : t.block < w.heap.size := cell_lt ht0
  have hg2 : ((w.alloc (.cells #[.pointer (some t)] 141)).alloc (.cells #[.pointer (some ⟨10, 141, none⟩), .pointer (some ⟨w.heap.size, 0, none⟩), .int .u64 150] 195)).cell? ⟨9, 0, none⟩ = some (.iface 219 (.agg #[.pointer (some ⟨10, 27, none⟩)])) := cell_alloc _ (cell_alloc _ hg)
  have el := callElemV ⟨w.heap.size, 0, none⟩ t (((w.alloc (.cells #[.pointer (some t)] 141)).alloc (.cells #[.pointer (some ⟨10, 141, none⟩), .pointer (some ⟨w.heap.size, 0, none⟩), .int .u64 150] 195)).alloc (.cells #[.pointer (some ⟨10, 141, none⟩), .pointer (some ⟨w.heap.size, 0, none⟩), .int .u64 150] 195)) (cell_alloc _ (by simp))
  have st := callSetF t ⟨w.heap.size + 1 + 1 + 1, 0, none⟩ e old ((((w.alloc (.cells #[.pointer (some t)] 141)).alloc (.cells #[.pointer (some ⟨10, 141, none⟩), .pointer (some ⟨w.heap.size, 0, none⟩), .int .u64 150] 195)).alloc (.cells #[.pointer (some ⟨10, 141, none⟩), .pointer (some ⟨w.heap.size, 0, none⟩), .int .u64 150] 195)).alloc (.cells #[.pointer (some e)] 113))
    (by rw [World.cell?_alloc_at _ _ _ _ (by simp)]; rfl)
    (cell_alloc _ (cell_alloc _ (cell_alloc _ (cell_alloc _ ht0))))
    (by rw [World.frozen?_alloc_old _ _ t (by simp; omega), World.frozen?_alloc_old _ _ t (by simp; omega), World.frozen?_alloc_old _ _ t (by simp; omega), World.frozen?_alloc_old _ _ t (Nat.ne_of_lt htl)]; exact hf0)
  go_enter Tryz.func76, Tryz.ntmps76
  go_wp2
  refine wp_loop_rounds 1 ?_
  rw [rounds_succ]
  go_wp2
  go_ret
  have hBs : B ≤ w.heap.size := Nat.le_trans hB (Nat.le_of_lt htl)
  refine ⟨rfl, World.cell?_setCell_same _ _ _ (cell_alloc _ (cell_alloc _ (cell_alloc _ (cell_alloc _ ht0)))), ?_⟩
  refine Below.setCell ?_ hB _
  repeat (first | exact Below.refl _ _ | refine Below.drew ?_ | refine Below.alloc ?_ (by first | omega | (simp; omega)) _)
end Go.Proofs.YtdpemmmbkjmplacGreatDoor
namespace Go.Proofs.YtdpemmmbkjmplacGreatDoor
open Go.RowKit

set_option maxRecDepth 100000 in
set_option maxHeartbeats 2000000 in
theorem code_f (A : Nat → Addr) (pb po : Nat) (at0 : Int) (x : Addr) (c : Nat) (r : Int) (w : World) (hE : Held9 w A) (hf1 : w.cell? ⟨pb, po, none⟩ = some (.int .i64 at0)) (hf2 : w.cell? ⟨pb, po + 1, none⟩ = some (.iface 266 (.pointer (some x)))) (hrow : ∃ cs t, w.heap[x.block]? = some (.cells cs t (0, 0)))
    (hc : c ≤ 9) (hlo : ∀ k, k < c → x ≠ A k) (hat : c < 9 → x = A c) (hr1 : c < 9 → r = c + 1) (hr2 : c = 9 → r = -1) :
    Calls Tryz.prog 34 #[.iface 113 (.pointer (some ⟨pb, po, none⟩))] w fun e w' => e = .returned (.tuple #[.int .i64 r, .int .i64 at0]) ∧ Below w.heap.size w w' := by
  have H := hid hE
  have F1 := hid hf1
  have F2 := hid hf2
  have HR := hid hrow
  have HLO := hid hlo
  have HAT := hid hat
  have HR1 := hid hr1
  have HR2 := hid hr2
  clear hE hf1 hf2 hrow hlo hat hr1 hr2
  have hb0 : Below w.heap.size w (w.alloc (.cells #[.pointer none] 113)) := (Below.refl _ _).alloc (Nat.le_refl _) _
  go_enter Tryz.func34, Tryz.ntmps34
  go_wp2_with (go_at_call 76; refine (as_hit ⟨pb, po, none⟩ _ (.pointer none) w.heap.size _ (Nat.le_refl _) (by exact (H.out.later hb0).hnd) (by simp) (by simp)).mono ?_; rintro e w1 ⟨rfl, ht1, hb1⟩; obtain ⟨g0, g1, g2, g3, g4, g5, g6, g7, g8⟩ := (H.out.later (hb0.trans hb1)).cells; have f1 := cell_later (hb0.trans hb1) F1.out)
  have hB : Below w.heap.size w (w1.alloc (.cells #[.iface 266 (.pointer (some (A 0))), .iface 266 (.pointer (some (A 1))), .iface 266 (.pointer (some (A 2))), .iface 266 (.pointer (some (A 3))), .iface 266 (.pointer (some (A 4))), .iface 266 (.pointer (some (A 5))), .iface 266 (.pointer (some (A 6))), .iface 266 (.pointer (some (A 7))), .iface 266 (.pointer (some (A 8)))] 27)) := (hb0.trans hb1).alloc (Nat.le_trans hb0.size hb1.size) _
  have hcell : ∀ k, k < 9 → (w1.alloc (.cells #[.iface 266 (.pointer (some (A 0))), .iface 266 (.pointer (some (A 1))), .iface 266 (.pointer (some (A 2))), .iface 266 (.pointer (some (A 3))), .iface 266 (.pointer (some (A 4))), .iface 266 (.pointer (some (A 5))), .iface 266 (.pointer (some (A 6))), .iface 266 (.pointer (some (A 7))), .iface 266 (.pointer (some (A 8)))] 27)).cell? ⟨w1.heap.size, k, none⟩ = some (.iface 266 (.pointer (some (A k)))) := fun k hk => errArr_at A k hk w1 27
  have HC := hid hcell
  have F2' := hid (cell_later hB F2.out)
  clear g0 g1 g2 g3 g4 g5 g6 g7 g8 hcell f1 ht1
  go_loop [3, 27] (fun a i => ∃ k : Nat, k ≤ c ∧ i = .int .i64 k ∧ a = .int .i64 at0) (fun _ i => 9 - (intOf i).toNat)
  case atStart => exact ⟨0, Nat.zero_le _, rfl, rfl⟩
  case round =>
    obtain ⟨k, hk, rfl, rfl⟩ := hrel
    by_cases hlt : k < 9
    · have hck := HC.out k hlt
      by_cases hkc : k = c
      · subst hkc
        have hx := HAT.out hlt
        subst hx
        have hR := HR1.out hlt
        subst hR
        go_wp2_with (go_at_call 77; refine (is_f_same pb po _ _ F2'.out).mono ?_; rintro e w' ⟨rfl, rfl⟩)
        go_ret2
        exact ⟨rfl, hB⟩
      · obtain ⟨cs, t, hr⟩ := HR.out
        obtain ⟨cs', t', hr'⟩ := H.out.row k hlt
        have hr2 := hid (row_later hB hr)
        have hr2' := hid (row_later hB hr')
        clear hr hr'
        go_wp2_with (go_at_call 77; refine (is_f_other pb po _ _ cs cs' t t' _ F2'.out (HLO.out k (by omega)) hr2.out hr2'.out).mono ?_; rintro e w' ⟨rfl, rfl⟩)
        go_round
        case rel => exact ⟨k + 1, by omega, by go_num, rfl⟩
        case measure => simp [intOf]; omega
    · have hc9 : c = 9 := by omega
      have hR := HR2.out hc9
      subst hR
      go_wp2
      go_ret2
      exact ⟨rfl, hB⟩

/-- Code of a Fault round the error number c + 1. -/
theorem codeF_at (A : Nat → Addr) (pb po : Nat) (at0 : Int) (c : Nat) (w : World) (hE : Held9 w A) (hc : c < 9) (hf1 : w.cell? ⟨pb, po, none⟩ = some (.int .i64 at0)) (hf2 : w.cell? ⟨pb, po + 1, none⟩ = some (.iface 266 (.pointer (some (A c))))) :
    Calls Tryz.prog 34 #[.iface 113 (.pointer (some ⟨pb, po, none⟩))] w fun e w' => e = .returned (.tuple #[.int .i64 ((c : Int) + 1), .int .i64 at0]) ∧ Below w.heap.size w w' :=
  code_f A pb po at0 (A c) c _ w hE hf1 hf2 (hE.row c hc) (by omega) (fun k hk => hE.ne c k hc (by omega) (by omega)) (fun _ => rfl) (fun _ => rfl) (fun h => by omega)
end Go.Proofs.YtdpemmmbkjmplacGreatDoor
namespace Go.Proofs.YtdpemmmbkjmplacGreatDoor
open Go.RowKit

/-- The event told otherwise. -/
def tampE (e : E3) : E3 := ⟨e.s, e.d, 5 - e.p⟩
def tampL (L : List E3) (k : Nat) : List E3 := L.modify k tampE
theorem tampL_length (L : List E3) (k : Nat) : (tampL L k).length = L.length := by unfold tampL; exact List.length_modify _ _ _
theorem tampL_get (L : List E3) (k j : Nat) (h : j < (tampL L k).length) : (tampL L k)[j]'h = if k = j then tampE (L[j]'(by rw [tampL_length] at h; exact h)) else L[j]'(by rw [tampL_length] at h; exact h) := by
  exact List.getElem_modify tampE k L j h
/-- Has its deal another event among the first m? -/
def pairL (L : List E3) (k m : Nat) : Prop := ∃ i, ∃ hi : i < L.length, ∃ hk : k < L.length, i < m ∧ i ≠ k ∧ (L[i]'hi).d = (L[k]'hk).d
theorem mem_take_ex {L : List E3} {j : Nat} {q : E3} (h : q ∈ L.take j) : ∃ i, ∃ hi : i < L.length, i < j ∧ L[i]'hi = q := by
  obtain ⟨i, hi, e⟩ := List.mem_iff_getElem.1 h
  rw [List.length_take] at hi
  refine ⟨i, by omega, by omega, ?_⟩
  rw [← e, List.getElem_take]
theorem take_mem {L : List E3} {i j : Nat} (hi : i < L.length) (h : i < j) : L[i]'hi ∈ L.take j := by
  refine List.mem_iff_getElem.2 ⟨i, by rw [List.length_take]; omega, ?_⟩
  rw [List.getElem_take]
/-- Where its deal has no other event all is well still. -/
theorem tamp_ok {n : Int} {L : List E3} {k : Nat} (hk : k < L.length) (h : EvF n L 0 L.length) (hp : ¬ pairL L k L.length) : EvF n (tampL L k) 0 (tampL L k).length := by
  refine ⟨fun j hj _ => ?_, .inl ⟨rfl, rfl⟩⟩
  have hj' : j < L.length := by rw [tampL_length] at hj; exact hj
  have h0 := h.1 j hj' hj'
  obtain ⟨h1, h2, h3⟩ := evC_zero h0
  have hg := tampL_get L k j hj
  have hb : bdB n ((tampL L k)[j]'hj) = true := by
    rw [hg]
    split
    · have hb1 := of_decide_eq_true h1
      refine decide_eq_true ⟨hb1.1, hb1.2.1, ?_⟩
      show 5 - (L[j]'hj').p = 2 ∨ 5 - (L[j]'hj').p = 3
      have := hb1.2.2
      omega
    · exact h1
  have hsd : ((tampL L k)[j]'hj).s = (L[j]'hj').s ∧ ((tampL L k)[j]'hj).d = (L[j]'hj').d := by
    rw [hg]; split <;> exact ⟨rfl, rfl⟩
  have hs : spB ((tampL L k).take j) ((tampL L k)[j]'hj) = false := by
    unfold spB
    rw [List.any_eq_false]
    intro q hq hx
    obtain ⟨x1, x2⟩ := of_decide_eq_true hx
    obtain ⟨i, hi, hij, rfl⟩ := mem_take_ex hq
    have hi' : i < L.length := by rw [tampL_length] at hi; exact hi
    have hgi := tampL_get L k i hi
    have hid : ((tampL L k)[i]'hi).d = (L[i]'hi').d := by rw [hgi]; split <;> rfl
    rw [hid, hsd.2] at x1
    by_cases e1 : k = i
    · subst e1
      exact hp ⟨j, hj', hk, hj', by omega, x1.symm⟩
    · by_cases e2 : k = j
      · subst e2
        exact hp ⟨i, hi', hk, hi', by omega, x1⟩
      · rw [hgi, if_neg e1, hg, if_neg e2] at x2
        unfold spB at h2
        rw [List.any_eq_false] at h2
        exact h2 _ (take_mem hi' hij) (decide_eq_true ⟨x1, x2⟩)
  have hh : heB ((tampL L k).take j) ((tampL L k)[j]'hj) = false := by
    unfold heB
    rw [List.any_eq_false]
    intro q hq hx
    obtain ⟨x1, x2⟩ := of_decide_eq_true hx
    obtain ⟨i, hi, hij, rfl⟩ := mem_take_ex hq
    have hi' : i < L.length := by rw [tampL_length] at hi; exact hi
    have hgi := tampL_get L k i hi
    have hid : ((tampL L k)[i]'hi).d = (L[i]'hi').d ∧ ((tampL L k)[i]'hi).s = (L[i]'hi').s := by rw [hgi]; split <;> exact ⟨rfl, rfl⟩
    rw [hid.1, hsd.2] at x1
    rw [hid.2, hsd.1] at x2
    unfold heB at h3
    rw [List.any_eq_false] at h3
    exact h3 _ (take_mem hi' hij) (decide_eq_true ⟨x1, x2⟩)
  unfold evC
  rw [if_neg (by rw [hb]; decide), if_neg (by rw [hs]; decide), if_neg (by rw [hh]; decide)]
/-- Where it has, a fault is told. -/
theorem tamp_no {n : Int} {L : List E3} {k : Nat} (h : EvF n L 0 L.length) (hp : pairL L k L.length) : ∃ c j, c ≠ 0 ∧ EvF n (tampL L k) c j := by
  obtain ⟨c, j, hc⟩ := evF_ex n (tampL L k)
  refine ⟨c, j, fun h0 => ?_, hc⟩
  subst h0
  have hw : ∀ x (hx : x < (tampL L k).length), evC n ((tampL L k).take x) ((tampL L k)[x]'hx) = 0 := fun x hx => by
    rcases hc.2 with ⟨-, e⟩ | ⟨_, e, -⟩
    · exact hc.1 x hx (by omega)
    · exact absurd rfl e
  obtain ⟨i, hi, hk, -, hne, hd⟩ := hp
  have hi2 : i < (tampL L k).length := by rw [tampL_length]; exact hi
  have hk2 : k < (tampL L k).length := by rw [tampL_length]; exact hk
  have gi := tampL_get L k i hi2
  rw [if_neg (fun e => hne e.symm)] at gi
  have gk := tampL_get L k k hk2
  rw [if_pos rfl] at gk
  have same : (L[i]'hi).p = (L[k]'hk).p := by
    have key : ∀ a b (ha : a < L.length) (hb : b < L.length), a < b → (L[a]'ha).d = (L[b]'hb).d → (L[a]'ha).p = (L[b]'hb).p := by
      intro a b ha hb hab hdd
      obtain ⟨-, h2, -⟩ := evC_zero (h.1 b hb hb)
      unfold spB at h2
      rw [List.any_eq_false] at h2
      have := h2 _ (take_mem ha hab)
      have h4 : ¬ ((L[a]'ha).d = (L[b]'hb).d ∧ (L[a]'ha).p ≠ (L[b]'hb).p) := fun g => this (decide_eq_true g)
      exact Classical.byContradiction fun g => h4 ⟨hdd, g⟩
    rcases Nat.lt_or_gt_of_ne hne with g | g
    · exact key i k hi hk g hd
    · exact (key k i hk hi g hd.symm).symm
  have key2 : ∀ a b (ha : a < (tampL L k).length) (hb : b < (tampL L k).length), a < b → ((tampL L k)[a]'ha).d = ((tampL L k)[b]'hb).d → ((tampL L k)[a]'ha).p = ((tampL L k)[b]'hb).p := by
    intro a b ha hb hab hdd
    obtain ⟨-, h2, -⟩ := evC_zero (hw b hb)
    unfold spB at h2
    rw [List.any_eq_false] at h2
    have := h2 _ (take_mem ha hab)
    have h4 : ¬ (((tampL L k)[a]'ha).d = ((tampL L k)[b]'hb).d ∧ ((tampL L k)[a]'ha).p ≠ ((tampL L k)[b]'hb).p) := fun g => this (decide_eq_true g)
    exact Classical.byContradiction fun g => h4 ⟨hdd, g⟩
  have fin : (L[i]'hi).p = 5 - (L[k]'hk).p := by
    rcases Nat.lt_or_gt_of_ne hne with g | g
    · have := key2 i k hi2 hk2 g (by rw [gi, gk]; exact hd)
      rw [gi, gk] at this; exact this
    · have := key2 k i hk2 hi2 g (by rw [gi, gk]; exact hd.symm)
      rw [gi, gk] at this; exact this.symm
  omega
/-- coded of a fault with a place: never 0. -/
theorem coded_flt (A : Nat → Addr) (c k base : Nat) (v : Value) (w : World) (hE : Held9 w A) (hc : c ≤ 9) (h0 : c ≠ 0) (hv : FltV w A c k v base) :
    Calls Tryz.prog 12 #[v, .int .i64 0] w fun e w' => e = .returned (.bool false) ∧ Below w.heap.size w w' := by
  rcases hv with ⟨e, -⟩ | ⟨x, fb, rfl, -, rfl, hc0, hc1⟩
  · exact absurd e h0
  · have HC := hid (codeF_at A fb 0 (k : Int) x w hE (by omega) hc0 hc1)
    have e1 : ((x : Int) + 1 == 0) = false := beq_eq_false_iff_ne.2 (by omega)
    clear hE hc0 hc1
    go_enter Tryz.func12, Tryz.ntmps12
    go_wp2_with fail
    refine HC.out.mono ?_
    rintro e w1 ⟨rfl, hb⟩
    have HB := hid hb
    clear hb
    go_wp2_with fail
    go_ret
    exact ⟨rfl, HB.out⟩
end Go.Proofs.YtdpemmmbkjmplacGreatDoor
namespace Go.Proofs.YtdpemmmbkjmplacGreatDoor
open Go.RowKit

/-- Is a state final? -/
def finS (s : S3) : Bool := decide (s.p = 2 ∨ s.p = 3)
/-- The end that the first k states tell. -/
def endS (L : List S3) : Int := L.foldl (fun x s => if x = 0 ∧ finS s = true then s.p else x) 0
theorem endS_snoc (L : List S3) (s : S3) : endS (L ++ [s]) = if endS L = 0 ∧ finS s = true then s.p else endS L := by unfold endS; rw [List.foldl_append]; rfl
/-- Does a state disagree with those ahead of it? -/
def disB (P : List S3) (s : S3) : Bool := finS s && P.any fun q => finS q && decide (q.p ≠ s.p)
/-- The first state that disagrees; the list's length: none. -/
def AgF (L : List S3) (c k : Nat) : Prop := (∀ j (h : j < L.length), j < k → disB (L.take j) (L[j]'h) = false) ∧ ((c = 0 ∧ k = L.length) ∨ ∃ h : k < L.length, c = 9 ∧ disB (L.take k) (L[k]'h) = true)
theorem agF_ex (L : List S3) : ∃ c k, AgF L c k := by
  have gen : ∀ r k, k + r = L.length → (∀ j (h : j < L.length), j < k → disB (L.take j) (L[j]'h) = false) → ∃ c k, AgF L c k := by
    intro r
    induction r with
    | zero => intro k hk hw; exact ⟨0, k, hw, .inl ⟨rfl, hk⟩⟩
    | succ r ih =>
      intro k hk hw
      have hlt : k < L.length := by omega
      cases hc : disB (L.take k) (L[k]'hlt) with
      | false =>
        refine ih (k + 1) (by omega) fun j hj h => ?_
        rcases Nat.lt_succ_iff_lt_or_eq.1 h with x | rfl
        · exact hw j hj x
        · exact hc
      | true => exact ⟨9, k, hw, .inr ⟨hlt, rfl, hc⟩⟩
  exact gen L.length 0 (by omega) (fun j _ h => absurd h (Nat.not_lt_zero _))
/-- What stands of states that agree. -/
structure AgK (P : List S3) : Prop where
  i0 : endS P = 0 → ∀ q, q ∈ P → finS q = false
  i1 : endS P ≠ 0 → (∃ q, q ∈ P ∧ finS q = true) ∧ ∀ q, q ∈ P → finS q = true → q.p = endS P
theorem AgK.nil : AgK [] := ⟨fun _ _ h => (by cases h), fun h => absurd rfl h⟩
theorem AgK.dis {P : List S3} (h : AgK P) (s : S3) : disB P s = (finS s && (endS P != 0 && s.p != endS P)) := by
  unfold disB
  cases hs : finS s with
  | false => rfl
  | true =>
    rw [Bool.true_and, Bool.true_and, Bool.eq_iff_iff, List.any_eq_true, Bool.and_eq_true, bne_iff_ne, bne_iff_ne]
    constructor
    · rintro ⟨q, hq, hx⟩
      rw [Bool.and_eq_true, decide_eq_true_eq] at hx
      by_cases e : endS P = 0
      · have := h.i0 e q hq; rw [hx.1] at this; cases this
      · have := (h.i1 e).2 q hq hx.1
        exact ⟨e, by omega⟩
    · rintro ⟨h1, h2⟩
      obtain ⟨⟨q, hq, hf⟩, h3⟩ := h.i1 h1
      refine ⟨q, hq, ?_⟩
      rw [Bool.and_eq_true, decide_eq_true_eq]
      exact ⟨hf, by have := h3 q hq hf; omega⟩
theorem AgK.snoc {P : List S3} {s : S3} (h : AgK P) (hd : disB P s = false) : AgK (P ++ [s]) := by
  rw [h.dis] at hd
  have hfs : finS s = true → s.p = 2 ∨ s.p = 3 := fun x => of_decide_eq_true x
  refine ⟨fun e q hq => ?_, fun e => ?_⟩
  · rw [endS_snoc] at e
    split at e
    · rename_i hc; have := hfs hc.2; omega
    · rename_i hc
      rcases List.mem_append.1 hq with x | x
      · exact h.i0 e q x
      · rw [List.mem_singleton] at x
        subst x
        cases hq2 : finS q with
        | false => rfl
        | true => exact absurd ⟨e, hq2⟩ hc
  · rw [endS_snoc] at e ⊢
    split
    · rename_i hc
      refine ⟨⟨s, by simp, hc.2⟩, fun q hq hf => ?_⟩
      rcases List.mem_append.1 hq with x | x
      · have := h.i0 hc.1 q x; rw [hf] at this; cases this
      · rw [List.mem_singleton] at x; rw [x]
    · rename_i hc
      rw [if_neg hc] at e
      obtain ⟨⟨q, hq, hf⟩, h3⟩ := h.i1 e
      refine ⟨⟨q, by simp [hq], hf⟩, fun r hr hrf => ?_⟩
      rcases List.mem_append.1 hr with x | x
      · exact h3 r x hrf
      · rw [List.mem_singleton] at x
        subst x
        rw [hrf, Bool.true_and, Bool.and_eq_false_iff, bne_eq_false_iff_eq, bne_eq_false_iff_eq] at hd
        rcases hd with x | x
        · exact absurd x e
        · exact x
theorem AgF.kept {L : List S3} : ∀ {k : Nat}, k ≤ L.length → (∀ j (h : j < L.length), j < k → disB (L.take j) (L[j]'h) = false) → AgK (L.take k)
  | 0, _, _ => by rw [List.take_zero]; exact AgK.nil
  | k + 1, hk, h => by
    rw [take_snoc L k hk]
    exact (AgF.kept (Nat.le_of_succ_le hk) (fun j hj hlt => h j hj (Nat.lt_succ_of_lt hlt))).snoc (h k hk (Nat.lt_succ_self _))
set_option maxHeartbeats 2000000 in
set_option maxRecDepth 100000 in
theorem jagree_any (A : Nat → Addr) (ad : Option Addr) (cap : Nat) (L : List S3) (c kk : Nat) (w : World) (hE : Held9 w A) (hL : SL w ad L) (hl : L.length ≤ 100000) (hF : AgF L c kk) :
    Calls Tryz.prog 59 #[.slice ad L.length cap] w fun e w' => ∃ v, e = .returned v ∧ FltV w' A c kk v w.heap.size ∧ Below w.heap.size w w' := by
  have HE := hid hE
  have HL := hid hL
  have HF := hid hF
  clear hE hL hF
  go_enter Tryz.func59, Tryz.ntmps59
  go_wp2_with fail
  go_loopw [3, 8] (fun u v wr => ∃ k : Nat, k ≤ kk ∧ u = .int .i64 (endS (L.take k)) ∧ v = .int .i64 (k : Int) ∧ Below w.heap.size w wr) (fun _ v _ => L.length - (intOf v).toNat)
  case atStart => exact ⟨0, Nat.zero_le _, rfl, rfl, Below.refl _ _⟩
  case round =>
    obtain ⟨k, hk, rfl, rfl, hb⟩ := hrel
    have HB := hid hb
    by_cases hlt : k < L.length
    · obtain ⟨b, o, rfl, y0, y1, y2⟩ := HL.out k hlt
      obtain ⟨⟨p, r, a⟩, HS⟩ : ∃ e, Hid (L[k]'hlt = e) := ⟨_, rfl⟩
      rw [HS.out] at y0 y1 y2
      replace y0 := cell_later hb y0
      replace y1 := cell_later hb y1
      replace y2 := cell_later hb y2
      obtain ⟨W2, HW2⟩ : ∃ W2, Hid (wr.alloc (.cells #[.int .i64 p, .int .i64 r, .int .i64 a] 101) = W2) := ⟨_, rfl⟩
      have hW2 := HW2.out
      have HB2 : Hid (Below w.heap.size w W2) := by rw [← HW2.out]; exact HB.out.alloc HB.out.size _
      have HRe : Hid (W2.heap[wr.heap.size]? = some (.cells #[.int .i64 p, .int .i64 r, .int .i64 a] 101 (0, 0))) := by rw [← HW2.out]; exact heap_alloc_new wr _
      obtain ⟨r0, r1, r2⟩ := threeE HRe.out
      have HK : Hid (AgK (L.take k)) := AgF.kept (by omega) (fun j hj hjk => HF.out.1 j hj (by omega))
      have HSn : Hid (L.take (k + 1) = L.take k ++ [⟨p, r, a⟩]) := by show _ = _; rw [take_snoc L k hlt, HS.out]
      have HD := hid (HK.out.dis ⟨p, r, a⟩)
      have HEs := hid (endS_snoc (L.take k) ⟨p, r, a⟩)
      rw [← HSn.out] at HEs
      obtain ⟨eN, HEn⟩ : ∃ x, Hid (endS (L.take (k + 1)) = x) := ⟨_, rfl⟩
      rw [HEn.out] at HEs
      obtain ⟨en, HEo⟩ : ∃ x, Hid (endS (L.take k) = x) := ⟨_, rfl⟩
      rw [HEo.out] at HEs HD ⊢
      have c8 := (HE.out.later HB2.out).cells.2.2.2.2.2.2.2.2
      clear hb
      cases hfin : finS ⟨p, r, a⟩ with
      | false =>
        have HP : Hid (decide (p = 2 ∨ p = 3) = false) := hfin
        have HX : Hid (eN = en) := HEs.out.trans (if_neg fun x => by have y := x.2; rw [hfin] at y; cases y)
        have hkk : k < kk := by
          rcases Nat.lt_or_ge k kk with x | x
          · exact x
          · obtain rfl : k = kk := by omega
            rcases HF.out.2 with ⟨-, h⟩ | ⟨h1, -, h3⟩
            · omega
            · rw [HS.out, HD.out, hfin] at h3; cases h3
        go_wp2_with fail
        refine (jisEnd_is p false _ HP.out).mono ?_
        rintro e w3 ⟨rfl, hx⟩
        subst w3
        go_wp2_with fail
        go_roundw
        case rel => exact ⟨k + 1, by omega, by rw [HEn.out, HX.out], by go_num, HB2.out⟩
        case measure => simp [intOf]; omega
      | true =>
        have HP : Hid (decide (p = 2 ∨ p = 3) = true) := hfin
        by_cases he : en = 0
        · subst he
          have HX : Hid (eN = p) := HEs.out.trans (if_pos ⟨rfl, hfin⟩)
          have hkk : k < kk := by
            rcases Nat.lt_or_ge k kk with x | x
            · exact x
            · obtain rfl : k = kk := by omega
              rcases HF.out.2 with ⟨-, h⟩ | ⟨h1, -, h3⟩
              · omega
              · rw [HS.out, HD.out, hfin] at h3; cases h3
          go_wp2_with fail
          refine (jisEnd_is p true _ HP.out).mono ?_
          rintro e w3 ⟨rfl, hx⟩
          subst w3
          go_wp2_with fail
          go_roundw
          case rel => exact ⟨k + 1, by omega, by rw [HEn.out, HX.out], by go_num, HB2.out⟩
          case measure => simp [intOf]; omega
        · have he2 : (en == 0) = false := beq_eq_false_iff_ne.2 he
          have HX : Hid (eN = en) := HEs.out.trans (if_neg fun x => he x.1)
          by_cases hp : p = en
          · have HP2 : Hid ((p != en) = false) := by show (p != en) = false; rw [hp]; simp
            have hkk : k < kk := by
              rcases Nat.lt_or_ge k kk with x | x
              · exact x
              · obtain rfl : k = kk := by omega
                rcases HF.out.2 with ⟨-, h⟩ | ⟨h1, -, h3⟩
                · omega
                · rw [HS.out, HD.out, hfin, HP2.out, Bool.and_false, Bool.and_false] at h3; cases h3
            subst hp
            clear HP2
            go_wp2_with fail
            refine (jisEnd_is p true _ HP.out).mono ?_
            rintro e w3 ⟨rfl, hx⟩
            subst w3
            go_wp2_with fail
            go_roundw
            case rel => exact ⟨k + 1, by omega, by rw [HEn.out, HX.out], by go_num, HB2.out⟩
            case measure => simp [intOf]; omega
          · have hp2 : (p != en) = true := bne_iff_ne.2 hp
            have HKK : Hid (k = kk ∧ c = 9) := by
              have hd : disB (L.take k) (L[k]'hlt) = true := by rw [HS.out, HD.out, hfin, hp2, bne_iff_ne.2 he]; rfl
              rcases Nat.lt_or_ge k kk with x | x
              · have := HF.out.1 k hlt x; rw [hd] at this; cases this
              · obtain rfl : k = kk := by omega
                rcases HF.out.2 with ⟨-, h⟩ | ⟨h1, h2, h3⟩
                · omega
                · exact ⟨rfl, h2⟩
            go_wp2_with fail
            refine (jisEnd_is p true _ HP.out).mono ?_
            rintro e w3 ⟨rfl, hx⟩
            subst w3
            go_wp2_with fail
            go_ret
            refine ⟨_, rfl, .inr ⟨8, W2.heap.size, HKK.out.2, HB2.out.size, rfl, ?_, ?_⟩, HB2.out.alloc HB2.out.size _⟩
            · rw [cell_of_row _ _ _ _ _ _ (heap_alloc_new W2 _), ← HKK.out.1]; rfl
            · rw [cell_of_row _ _ _ _ _ _ (heap_alloc_new W2 _)]; rfl
    · have HC0 : Hid (c = 0) := by
        rcases HF.out.2 with ⟨h1, -⟩ | ⟨h1, -⟩
        · exact h1
        · omega
      have hk2 : ¬ ((k : Int) < (L.length : Int)) := by omega
      go_wp2_with fail
      go_ret
      exact ⟨_, rfl, .inl ⟨HC0.out, rfl⟩, HB.out⟩
end Go.Proofs.YtdpemmmbkjmplacGreatDoor
namespace Go.Proofs.YtdpemmmbkjmplacGreatDoor
open Go.RowKit

theorem evF_nil (n : Int) : EvF n [] 0 0 := ⟨fun _ h => absurd h (Nat.not_lt_zero _), .inl ⟨rfl, rfl⟩⟩
theorem agF_nil : AgF [] 0 0 := ⟨fun _ h => absurd h (Nat.not_lt_zero _), .inl ⟨rfl, rfl⟩⟩
set_option maxHeartbeats 1000000 in
set_option maxRecDepth 100000 in
theorem judged_any (A : Nat → Addr) (w : World) (hE : Held9 w A) : Calls Tryz.prog 16 #[] w fun e w' => e = .returned (.bool true) ∧ Below w.heap.size w w' := by
  have HE := hid hE
  clear hE
  go_enter Tryz.func16, Tryz.ntmps16
  go_wp2_with fail
  refine (jcheck_ok A none 0 [] 1 0 0 w HE.out (by decide) (by decide) (EL.nil _ _) (by simp) (evF_nil 1)).mono ?_
  rintro e w1 ⟨v, rfl, hv, hb⟩
  obtain rfl := hv.nil
  have HB1 := hid hb
  clear hb hv
  go_wp2_with fail
  refine (jcheck_no A _ 0 w1 (HE.out.later HB1.out) (by decide)).mono ?_
  rintro e w2 ⟨rfl, hx⟩
  subst w2
  rw [show ev A 2 = .iface 266 (.pointer (some (A 1))) from rfl]
  go_wp2_with fail
  refine (coded_at A 1 2 w1 (HE.out.later HB1.out) (by decide)).mono ?_
  rintro e w2 ⟨rfl, hb2⟩
  have HB2 := hid (below_trans HB1.out hb2)
  clear hb2
  rw [show (((1 : Nat) : Int) + 1 == 2) = true from rfl]
  go_wp2_with fail
  refine (jagree_any A none 0 [] 0 0 w2 (HE.out.later HB2.out) (SL.nil _ _) (by simp) agF_nil).mono ?_
  rintro e w3 ⟨v, rfl, hv, hb⟩
  obtain rfl := hv.nil
  have HB3 := hid (below_trans HB2.out hb)
  clear hb hv
  go_wp2_with fail
  go_ret
  exact ⟨rfl, HB3.out⟩
end Go.Proofs.YtdpemmmbkjmplacGreatDoor
namespace Go.Proofs.YtdpemmmbkjmplacGreatDoor
open Go.RowKit

theorem pairL_zero (L : List E3) (k : Nat) : ¬ pairL L k 0 := fun ⟨_, _, _, h, _⟩ => absurd h (Nat.not_lt_zero _)
theorem pairL_succ {L : List E3} {k i : Nat} (hi : i < L.length) (hk : k < L.length) : pairL L k (i + 1) ↔ pairL L k i ∨ (i ≠ k ∧ (L[i]'hi).d = (L[k]'hk).d) := by
  constructor
  · rintro ⟨j, h1, h2, h3, h4, h5⟩
    rcases Nat.lt_succ_iff_lt_or_eq.1 h3 with g | rfl
    · exact .inl ⟨j, h1, h2, g, h4, h5⟩
    · exact .inr ⟨h4, h5⟩
  · rintro (⟨j, h1, h2, h3, h4, h5⟩ | ⟨h4, h5⟩)
    · exact ⟨j, h1, h2, by omega, h4, h5⟩
    · exact ⟨i, hi, hk, by omega, h4, h5⟩
/-- Its phase was written. -/
theorem EL.tamp {w : World} {g k : Nat} {cur : Array Value} {L : List E3} (hg : w.heap[g]? = some (.cells cur 45 (0, 0))) (h : EL w (some ⟨g, 0, none⟩) L) (hk : k < L.length) (hs : L.length * 3 ≤ cur.size) :
    EL (w.setCell ⟨g, k * 3 + 2, none⟩ (.int .i64 (5 - (L[k]'hk).p))) (some ⟨g, 0, none⟩) (tampL L k) := by
  intro i hi
  have hi' : i < L.length := by rw [tampL_length] at hi; exact hi
  obtain ⟨b, off, e, h0, h1, h2⟩ := h i hi'
  obtain ⟨rfl, rfl⟩ : b = g ∧ off = 0 := by
    have := Option.some.inj e
    injection this with e1 e2
    exact ⟨e1.symm, e2.symm⟩
  have hr := heap_setCell_same w b (k * 3 + 2) _ _ (.int .i64 (5 - (L[k]'hk).p)) hg
  rw [cell_of_row _ _ _ _ _ _ hg] at h0 h1 h2
  have hgt := tampL_get L k i hi
  refine ⟨b, 0, rfl, ?_, ?_, ?_⟩
  · rw [cell_of_row _ _ _ _ _ _ hr, Array.getElem?_setIfInBounds_ne (by omega), h0, hgt]
    split <;> rfl
  · rw [cell_of_row _ _ _ _ _ _ hr, Array.getElem?_setIfInBounds_ne (by omega), h1, hgt]
    split <;> rfl
  · rw [cell_of_row _ _ _ _ _ _ hr, hgt]
    by_cases e : k = i
    · subst e
      rw [if_pos rfl, Nat.zero_add, Array.getElem?_setIfInBounds_self_of_lt (by omega)]
      rfl
    · rw [if_neg e, Array.getElem?_setIfInBounds_ne (by omega), h2]
set_option maxHeartbeats 8000000 in
set_option maxRecDepth 100000 in
theorem jtampers_any (A : Nat → Addr) (v u : Value) (zs vs : List Int) (x : Int) (w : World) (hE : Held9 w A) (hv : IsSl w v zs) (hu : IsSl w u vs) (hr : ∀ y, y ∈ vs → y ≤ 9223372036854775807) (hx9 : x ≤ 9223372036854775807) :
    Calls Tryz.prog 4 #[v, u, .int .i64 x] w fun e w' => e = .returned (.bool true) ∧ Below w.heap.size w w' := by
  have HE := hid hE
  have HV := hid hv
  have HU := hid hu
  have HR := hid hr
  have HJd := hid (judged_any A w hE)
  obtain ⟨av, capv, rfl, hzm, -, -⟩ := hv
  obtain ⟨au, capu, rfl, hum, -, -⟩ := hu
  unfold maxLen at hzm hum
  obtain ⟨n, HN⟩ : ∃ n, Hid (zs.length = n) := ⟨_, rfl⟩
  obtain ⟨l, HL⟩ : ∃ l, Hid (vs.length = l) := ⟨_, rfl⟩
  rw [HN.out] at HV hzm ⊢
  rw [HL.out] at HU hum ⊢
  clear hE hr
  by_cases he : errW zs = 0
  · by_cases h400 : 400 < l
    · have e2 : (400 : Int) < (l : Int) := by omega
      go_enter Tryz.func4, Tryz.ntmps4
      go_wp2_with fail
      refine HJd.out.mono ?_
      rintro e w1 ⟨rfl, hb⟩
      have HB1 := hid hb
      have HWe := hid (rErr_any _ zs w1 (HV.out.later hb))
      rw [he, show ((0 : Nat) : Int) = 0 from rfl] at HWe
      clear hb
      go_wp2_with fail
      refine HWe.out.mono ?_
      rintro e w2 ⟨rfl, hx⟩
      subst w2
      go_wp2_with fail
      go_ret
      exact ⟨rfl, HB1.out⟩
    · have e2 : ¬ (400 : Int) < (l : Int) := by omega
      by_cases hx0 : x < 0
      · go_enter Tryz.func4, Tryz.ntmps4
        go_wp2_with fail
        refine HJd.out.mono ?_
        rintro e w1 ⟨rfl, hb⟩
        have HB1 := hid hb
        have HWe := hid (rErr_any _ zs w1 (HV.out.later hb))
        rw [he, show ((0 : Nat) : Int) = 0 from rfl] at HWe
        clear hb
        go_wp2_with fail
        refine HWe.out.mono ?_
        rintro e w2 ⟨rfl, hx⟩
        subst w2
        go_wp2_with fail
        go_ret
        exact ⟨rfl, HB1.out⟩
      · obtain ⟨q, rfl⟩ := Int.eq_ofNat_of_zero_le (show 0 ≤ x by omega)
        obtain ⟨n1, n7, -, -⟩ := errW_zero he
        rw [HN.out] at n1 n7
        go_enter Tryz.func4, Tryz.ntmps4
        go_wp2_with fail
        refine HJd.out.mono ?_
        rintro e w1 ⟨rfl, hb⟩
        have HB1 := hid hb
        have HWe := hid (rErr_any _ zs w1 (HV.out.later hb))
        rw [he, show ((0 : Nat) : Int) = 0 from rfl] at HWe
        have HOwn := hid (ownInts_any _ zs w1 (HV.out.later hb) (by rw [HN.out]; omega))
        clear hb
        go_wp2_with fail
        refine HWe.out.mono ?_
        rintro e w2 ⟨rfl, hx⟩
        subst w2
        go_wp2_with fail
        refine HOwn.out.mono ?_
        rintro e w2 ⟨v2, rfl, hv2, hb2⟩
        have HV2 := hid hv2
        have HB2 := hid (below_trans HB1.out hb2)
        have HNew := hid (wnew_ok v2 HV2.out (HE.out.later HB2.out) he)
        clear hv2 hb2
        go_wp2_with fail
        refine HNew.out.mono ?_
        rintro e w3 ⟨C, X, rfl, h3⟩
        have H3 := hid h3
        have HB3 := hid (below_trans HB2.out h3.bel)
        have HOw2 := hid (ownInts_long _ vs w3 (HU.out.later HB3.out) (by rw [HL.out]; omega))
        clear h3
        go_wp2_with fail
        refine HOw2.out.mono ?_
        rintro e w4 ⟨v4, rfl, ho4, hb4⟩
        have HRun := hid (run_any v4 w3.heap.size (H3.out.later hb4) (HE.out.later HB2.out) ho4 (by rw [HL.out]; omega) HR.out (by rw [HL.out]; omega) (own_new H3.out ho4))
        clear ho4 hb4
        go_wp2_with fail
        refine HRun.out.mono ?_
        rintro e w5 ⟨u5, C5, X5, rfl, h5⟩
        have HAx := hid (h5.ax AX.new)
        have HEf := hid (ax_events HAx.out)
        rw [HN.out] at HEf
        obtain ⟨V, HVx⟩ : ∃ V, Hid (runX zs (vs.take vs.length) newX = V) := ⟨_, rfl⟩
        have HWD := hid h5.wd
        rw [HVx.out] at HWD HEf
        have hev := HWD.out.inv.ev
        have HEv := hid (events_any HWD.out)
        rw [key_xb h5.ky] at HEv
        obtain ⟨E, HEE⟩ : ∃ E, Hid (V.evs = E) := ⟨_, rfl⟩
        rw [HEE.out] at HEf hev HEv
        obtain ⟨ne, HNe⟩ : ∃ ne, Hid (E.length = ne) := ⟨_, rfl⟩
        rw [HNe.out] at hev HEv HEf
        clear h5
        go_wp2_with fail
        refine HEv.out.mono ?_
        rintro e w6 ⟨v6, rfl, ho6, hb6⟩
        have HWD6 := hid (HWD.out.later hb6)
        have HE6 := hid (HWD6.out.held (HE.out.later HB2.out))
        have HB6 := hid (below_trans HB2.out HWD6.out.bel)
        have HLow := hid (below_trans HB2.out HWD.out.bel).size
        by_cases hne0 : ne = 0
        · subst hne0
          obtain ⟨ad6, cap6, hv6, -, -, hel6⟩ := own_el (by rw [HNe.out]; exact ho6)
          have HCk := hid (jcheck_ok A ad6 cap6 E (n : Int) 0 E.length w6 HE6.out (by omega) (by omega) hel6 (by rw [HNe.out]; omega) (by rw [HNe.out]; exact HEf.out))
          rw [HNe.out] at hv6 HCk
          subst hv6
          clear ho6 hb6 hel6
          go_wp2_with fail
          refine HCk.out.mono ?_
          rintro e w7 ⟨v7, rfl, hv7, hb7⟩
          obtain rfl := hv7.nil
          have HB7 := hid (below_trans HB6.out hb7)
          clear hv7 hb7
          go_wp2_with fail
          go_ret
          exact ⟨rfl, HB7.out⟩
        · have e0 : ((ne : Int) == 0) = false := beq_eq_false_iff_ne.2 (by omega)
          obtain ⟨k, Hk⟩ : ∃ k, Hid (q % ne = k) := ⟨_, rfl⟩
          have hkn : k < ne := by rw [← Hk.out]; exact Nat.mod_lt _ (by omega)
          have tk : Int.tmod (q : Int) (ne : Int) = (k : Int) := by rw [Int.tmod_eq_emod_of_nonneg (by omega), ← Hk.out]; simp
          obtain ⟨g, cap6, cur, hv6, hbg, hrow6, hnc, hcm, hcs, htk⟩ : ∃ g cap, ∃ cur : Array Value, v6 = .slice (some ⟨g, 0, none⟩) ne cap ∧ w5.heap.size ≤ g ∧ w6.heap[g]? = some (.cells cur 45 (0, 0)) ∧ ne ≤ cap ∧ cap ≤ maxLen ∧ cur.size = cap * 3 ∧ cur.toList.take (ne * 3) = evCells E := by
            rcases ho6.2 with ⟨-, h0⟩ | h6
            · exact absurd h0 hne0
            · exact h6
          have HEL : Hid (EL w6 (some ⟨g, 0, none⟩) E) := by
            obtain ⟨ad6, cp6, hv6', -, -, hel6⟩ := own_el (by rw [HNe.out]; exact ho6)
            rw [hv6] at hv6'
            injection hv6' with e1
            rw [e1]; exact hel6
          subst hv6
          have h63 : cap6 ≤ 9223372036854775807 := by unfold maxLen at hcm; omega
          have hkE : k < E.length := by rw [HNe.out]; exact hkn
          have HKE := hid hkE
          obtain ⟨⟨sk, dk, pk⟩, HEk⟩ : ∃ e, Hid (E[k]'hkE = e) := ⟨_, rfl⟩
          have hpk : pk = 2 ∨ pk = 3 := by
            have h0 := (evC_zero (HEf.out.1 k hkE (by omega))).1
            rw [HEk.out] at h0
            exact (of_decide_eq_true h0).2.2
          have hsub : IntKind.i64.wrap (5 - pk) = 5 - pk := by rw [IntKind.wrap_i64]; omega
          have HRow := hid hrow6
          have HSz : Hid (E.length * 3 ≤ cur.size) := by rw [HNe.out, hcs]; exact Nat.mul_le_mul_right 3 hnc
          have HBG : Hid (w.heap.size ≤ g) := Nat.le_trans HLow.out hbg
          clear ho6 hb6 htk hcs hcm hbg hrow6
          go_wp2_with fail
          go_loopw [12, 13] (fun t v wr => ∃ (i : Nat) (b : Bool), i ≤ ne ∧ t = .bool b ∧ v = .int .i64 (i : Int) ∧ Hid (Below w6.heap.size w6 wr ∧ (b = true ↔ pairL E k i))) (fun _ v _ => ne - (intOf v).toNat)
          case atStart => exact ⟨0, false, Nat.zero_le _, rfl, rfl, Below.refl _ _, ⟨fun h => (by cases h), fun h => absurd h (pairL_zero E k)⟩⟩
          case round =>
            obtain ⟨i, b, hi, rfl, rfl, HI⟩ := hrel
            obtain ⟨bk, ok, ek, k0, k1, k2⟩ := (HEL.out.later HI.out.1) k HKE.out
            obtain ⟨rfl, rfl⟩ : bk = g ∧ ok = 0 := by
              have := Option.some.inj ek
              injection this with e1 e2
              exact ⟨e1.symm, e2.symm⟩
            clear ek
            rw [HEk.out, Nat.zero_add] at k0 k1 k2
            by_cases hlt : i < ne
            · have hlt2 : (i : Int) < (ne : Int) := by omega
              have HIE : Hid (i < E.length) := by rw [HNe.out]; exact hlt
              have HSu := hid (pairL_succ HIE.out HKE.out)
              rw [HEk.out] at HSu
              by_cases hik : i = k
              · subst hik
                have e3 : ((i : Int) != (i : Int)) = false := by simp
                have HNx : Hid (b = true ↔ pairL E i (i + 1)) := by
                  refine Iff.trans HI.out.2 (Iff.trans ?_ HSu.out.symm)
                  exact ⟨.inl, fun h => h.elim id (fun g => absurd rfl g.1)⟩
                go_wp2_with fail
                go_quiet (fail)
                go_wp2_with fail
                go_roundw
                case rel => exact ⟨i + 1, b, by omega, rfl, by go_num, below_drewN HI.out.1 _, HNx.out⟩
                case measure => simp [intOf]; omega
              · have e3 : ((i : Int) != (k : Int)) = true := by simp; omega
                obtain ⟨bi, oi, ei, i0, i1, i2⟩ := (HEL.out.later HI.out.1) i HIE.out
                obtain ⟨rfl, rfl⟩ : bi = bk ∧ oi = 0 := by
                  have := Option.some.inj ei
                  injection this with e1 e2
                  exact ⟨e1.symm, e2.symm⟩
                clear ei
                obtain ⟨⟨si, di, pi⟩, HEi⟩ : ∃ e, Hid (E[i]'HIE.out = e) := ⟨_, rfl⟩
                rw [HEi.out] at HSu
                rw [HEi.out, Nat.zero_add] at i0 i1 i2
                by_cases hdd : di = dk
                · subst hdd
                  have HNx : Hid (pairL E k (i + 1)) := HSu.out.2 (.inr ⟨hik, rfl⟩)
                  go_wp2_with fail
                  go_quiet (fail)
                  go_wp2_with fail
                  go_roundw
                  case rel => exact ⟨i + 1, true, by omega, rfl, by go_num, below_drewN HI.out.1 _, ⟨fun _ => HNx.out, fun _ => rfl⟩⟩
                  case measure => simp [intOf]; omega
                · have e4 : (di == dk) = false := beq_eq_false_iff_ne.2 hdd
                  have HNx : Hid (b = true ↔ pairL E k (i + 1)) := by
                    refine Iff.trans HI.out.2 (Iff.trans ?_ HSu.out.symm)
                    exact ⟨.inl, fun h => h.elim id (fun g => absurd g.2 hdd)⟩
                  go_wp2_with fail
                  go_quiet (fail)
                  go_wp2_with fail
                  go_roundw
                  case rel => exact ⟨i + 1, b, by omega, rfl, by go_num, below_drewN HI.out.1 _, HNx.out⟩
                  case measure => simp [intOf]; omega
            · obtain rfl : i = ne := by omega
              have hlt2 : ¬ ((i : Int) < (i : Int)) := by omega
              have HRw := hid ((HI.out.1.block _ (row_ltJ HRow.out)).trans HRow.out)
              have z2 := frozen_of_row _ _ (k * 3 + 2) _ _ HRw.out
              have HT := hid (EL.tamp HRw.out (HEL.out.later HI.out.1) HKE.out HSz.out)
              rw [HEk.out] at HT
              have HBt : Hid (Below w.heap.size w (wr.setCell ⟨bk, k * 3 + 2, none⟩ (.int .i64 (5 - pk)))) := (below_trans HB6.out HI.out.1).setCell HBG.out _
              obtain ⟨W7, HW7⟩ : ∃ W7, Hid (wr.setCell ⟨bk, k * 3 + 2, none⟩ (.int .i64 (5 - pk)) = W7) := ⟨_, rfl⟩
              rw [HW7.out] at HT HBt
              have HE7 := hid (HE.out.later HBt.out)
              have HTl := hid (tampL_length E k)
              have hW7 := HW7.out
              cases b with
              | false =>
                have hnp : ¬ pairL E k E.length := fun h => by rw [HNe.out] at h; have := HI.out.2.2 h; cases this
                have HF := hid (tamp_ok HKE.out (by rw [HNe.out]; exact HEf.out) hnp)
                have HCk := hid (jcheck_ok A (some ⟨bk, 0, none⟩) cap6 (tampL E k) (n : Int) 0 (tampL E k).length W7 HE7.out (by omega) (by omega) HT.out (by rw [HTl.out, HNe.out]; omega) HF.out)
                rw [HTl.out, HNe.out] at HCk
                clear hnp
                go_wp2_with fail
                refine HCk.out.mono ?_
                rintro e w8 ⟨v8, rfl, hv8, hb8⟩
                obtain rfl := hv8.nil
                have HB8 := hid (below_trans HBt.out hb8)
                clear hv8 hb8
                go_wp2_with fail
                refine (coded_nil 0 w8).mono ?_
                rintro e w9 ⟨rfl, hx⟩
                subst w9
                go_wp2_with fail
                go_ret
                exact ⟨rfl, HB8.out⟩
              | true =>
                obtain ⟨c, j, hc0, hF⟩ := tamp_no (k := k) (by rw [HNe.out]; exact HEf.out) (by rw [HNe.out]; exact HI.out.2.1 rfl)
                have HCk := hid (jcheck_ok A (some ⟨bk, 0, none⟩) cap6 (tampL E k) (n : Int) c j W7 HE7.out (by omega) (by omega) HT.out (by rw [HTl.out, HNe.out]; omega) hF)
                rw [HTl.out, HNe.out] at HCk
                have HCl := hid hF.le
                clear hF
                go_wp2_with fail
                refine HCk.out.mono ?_
                rintro e w8 ⟨v8, rfl, hv8, hb8⟩
                have HB8 := hid (below_trans HBt.out hb8)
                have HCd := hid (coded_flt A c j _ v8 w8 (HE7.out.later hb8) HCl.out hc0 hv8)
                clear hv8 hb8
                go_wp2_with fail
                refine HCd.out.mono ?_
                rintro e w9 ⟨rfl, hb9⟩
                have HB9 := hid (below_trans HB8.out hb9)
                clear hb9
                go_wp2_with fail
                go_ret
                exact ⟨rfl, HB9.out⟩
  · obtain ⟨c, hc⟩ : ∃ c, errW zs = c := ⟨_, rfl⟩
    have k0 : (0 : Int) < (c : Int) := by omega
    go_enter Tryz.func4, Tryz.ntmps4
    go_wp2_with fail
    refine HJd.out.mono ?_
    rintro e w1 ⟨rfl, hb⟩
    have HB1 := hid hb
    have HWe := hid (rErr_any _ zs w1 (HV.out.later hb))
    rw [hc] at HWe
    clear hb
    go_wp2_with fail
    refine HWe.out.mono ?_
    rintro e w2 ⟨rfl, hx⟩
    subst w2
    go_wp2_with fail
    go_ret
    exact ⟨rfl, HB1.out⟩
end Go.Proofs.YtdpemmmbkjmplacGreatDoor
namespace Go.Proofs.YtdpemmmbkjmplacGreatDoor
open Go.ChangeShapes Go.WideShapes Go.RowKit

/-- A slice of integers that came in is a slice of numbers. -/
theorem isSl_of_trod {H : Type} {enc : TypeId × Value → H} {W : World} {a : Option Addr} {len cap fuel : Nat} {d : DataW H} {p : List MemPlace} {sp : Nat → Bool} {held : Bool}
    (hf : DataW.trod enc Tryz.prog W 0 sp held fuel 22 (Value.slice a len cap).cells.toList = some (d, p)) : ∃ zs, IsSl W (.slice a len cap) zs := by
  rcases open_ints Tryz.underlying22 Tryz.underlying3 (by kernel_rfl) hf with ⟨hcs, _⟩ | ⟨x, l, c, zs, hcs, _, hl, hm, hz, _, hcell, hwz⟩
  · simp [Value.cells] at hcs
    obtain ⟨rfl, rfl, rfl⟩ := hcs
    exact ⟨[], none, 0, rfl, by simp, fun _ => rfl, fun h => by cases h⟩
  · simp [Value.cells] at hcs
    obtain ⟨rfl, rfl, rfl⟩ := hcs
    have hzl : len ≤ zs.length := by rw [hz]; split <;> omega
    have hlen : (zs.take len).length = len := by rw [List.length_take]; omega
    refine ⟨zs.take len, some x, cap, by rw [hlen], by omega, (fun h => by cases h), fun h0 => ?_⟩
    rw [hlen] at h0
    have hx := hcell 0 (by omega)
    have hsp : x.spot = none := by
      cases hq : x.spot with
      | none => rfl
      | some k => unfold World.cell? Addr.add at hx; simp [hq] at hx; revert hx; split <;> simp
    obtain ⟨b, off, sp⟩ := x
    simp at hsp
    subst hsp
    refine ⟨b, off, rfl, fun i hi => ?_⟩
    rw [hlen] at hi
    have := hcell i (by omega)
    have e : (⟨b, off, none⟩ : Addr).add i = ⟨b, off + i, none⟩ := by unfold Addr.add; split <;> simp_all
    rw [e] at this
    rw [this]
    simp [List.getD, hi]
end Go.Proofs.YtdpemmmbkjmplacGreatDoor
namespace Go.Proofs.YtdpemmmbkjmplacGreatDoor
open Go.ChangeShapes Go.WideShapes Go.RowKit

theorem int_top {n : Int} (w3 : (Lit.int .i64 n).wf = true) : n ≤ 9223372036854775807 := by
  have hmx : IntKind.i64.max = 9223372036854775807 := by decide
  have hw : decide (IntKind.i64.min ≤ n) = true ∧ decide (n ≤ IntKind.i64.max) = true := by simpa only [Lit.wf, Bool.and_eq_true] using w3
  have h2 := of_decide_eq_true hw.2
  rw [hmx] at h2
  exact h2
theorem isSlIn_of_trod {H : Type} {enc : TypeId × Value → H} {W : World} {a : Option Addr} {len cap fuel : Nat} {d : DataW H} {p : List MemPlace} {sp : Nat → Bool} {held : Bool}
    (hf : DataW.trod enc Tryz.prog W 0 sp held fuel 22 (Value.slice a len cap).cells.toList = some (d, p)) : ∃ zs, IsSl W (.slice a len cap) zs ∧ ∀ x, x ∈ zs → x ≤ 9223372036854775807 := by
  rcases open_ints Tryz.underlying22 Tryz.underlying3 (by kernel_rfl) hf with ⟨hcs, _⟩ | ⟨x, l, c, zs, hcs, _, hl, hm, hz, _, hcell, hwz⟩
  · simp [Value.cells] at hcs
    obtain ⟨rfl, rfl, rfl⟩ := hcs
    exact ⟨[], ⟨none, 0, rfl, by simp, fun _ => rfl, fun h => by cases h⟩, fun x h => by cases h⟩
  · simp [Value.cells] at hcs
    obtain ⟨rfl, rfl, rfl⟩ := hcs
    have hzl : len ≤ zs.length := by rw [hz]; split <;> omega
    have hlen : (zs.take len).length = len := by rw [List.length_take]; omega
    refine ⟨zs.take len, ⟨some x, cap, by rw [hlen], by omega, (fun h => by cases h), fun h0 => ?_⟩, fun x hx => int_top (hwz x (List.mem_of_mem_take hx))⟩
    rw [hlen] at h0
    have hx := hcell 0 (by omega)
    have hsp : x.spot = none := by
      cases hq : x.spot with
      | none => rfl
      | some k => unfold World.cell? Addr.add at hx; simp [hq] at hx; revert hx; split <;> simp
    obtain ⟨b, off, sp⟩ := x
    simp at hsp
    subst hsp
    refine ⟨b, off, rfl, fun i hi => ?_⟩
    rw [hlen] at hi
    have := hcell i (by omega)
    have e : (⟨b, off, none⟩ : Addr).add i = ⟨b, off + i, none⟩ := by unfold Addr.add; split <;> simp_all
    rw [e] at this
    rw [this]
    simp [List.getD, hi]
end Go.Proofs.YtdpemmmbkjmplacGreatDoor
namespace Go.Proofs.YtdpemmmbkjmplacGreatDoor
open Go.ChangeShapes Go.WideShapes Go.RowKit

theorem own : ownKnob Tryz.prog.godebug = none := by kernel_rfl
theorem laidOut : laidOutB Tryz.prog = true := by kernel_rfl
theorem star : "*" ++ "errors.errorString" = "*errors.errorString" := by decide
theorem rowErrS (u : TypeId) (h : Tryz.prog.typeName? 3 u = some "*errors.errorString") : u = 266 :=
  typeName_ptr_named (nm := "errors.errorString") (by rw [star]; kernel_rfl) (by kernel_rfl) (by decide) u (by rw [star]; exact h)
theorem cellsErrS : Tryz.prog.cellsOf 285 = 1 := by kernel_rfl
theorem cellsString : Tryz.prog.cellsOf 9 = 1 := by kernel_rfl

/-- An error of errors.New, read through. -/
def errD (text : List UInt8) : DataW Unit := .iface "*errors.errorString" (.ptr (.agg [.lit (.string text)]))

/-- What a listed error variable (number g) and its address a have. -/
structure Sent (W : World) (g : Nat) (a : Addr) : Prop where
  var : W.cell? ⟨g, 0, none⟩ = some (.iface 266 (.pointer (some a)))
  str : ∃ s, W.cell? a = some (.string s)
  row : ∃ c t, W.heap[a.block]? = some (.cells c t (0, 0))

set_option maxRecDepth 100000 in
theorem sents {W : World} : ∀ (l : List (String × DataW Unit)) (gs : List Nat) (texts : List (List UInt8)),
    l.map (fun x => Tryz.prog.globalNamed x.1) = gs.map some → (∀ g ∈ gs, (Tryz.prog.globals[g]?).map (·.type) = some 27) → l.map (·.2) = texts.map errD →
    ∀ ps, DataW.LaidVars Tryz.prog W l ps → ps.Nodup →
    (∀ b off, MemPlace.cell b off ∈ ps → (∃ c t, W.heap[b]? = some (.cells c t (0, 0))) ∧ ∀ u v, W.cell? ⟨b, off, none⟩ = some (.iface u v) → Value.okWide Tryz.prog W .any 0 u v) →
    ∃ ads : List Addr, ads.length = gs.length ∧ ads.Nodup ∧ (∀ a ∈ ads, MemPlace.cell a.block a.off ∈ ps ∧ a.spot = none) ∧ ∀ (i g : Nat) (a : Addr), gs[i]? = some g → ads[i]? = some a → Sent W g a
  | [], [], _, _, _, _, _, _, _, _ => ⟨[], rfl, List.nodup_nil, (fun a h => by cases h), fun i g a h => by simp at h⟩
  | [], _ :: _, _, h, _, _, _, _, _, _ => by simp at h
  | _ :: _, [], _, h, _, _, _, _, _, _ => by simp at h
  | _ :: _, _ :: _, [], _, _, h, _, _, _, _ => by simp at h
  | (n, d) :: l, g :: gs, text :: texts, hg, ht, hd, ps, hl, hnd, hrows => by
    simp only [List.map_cons, List.cons.injEq] at hg hd
    obtain ⟨hg0, hg⟩ := hg
    obtain ⟨hd0, hd⟩ := hd
    obtain ⟨g', t, cs, fuel, p, q, e1, e2, e3, e4, e5, rfl⟩ := hl
    obtain rfl := Option.some.inj (hg0.symm.trans e1)
    obtain rfl := Option.some.inj ((ht g (List.mem_cons_self)).symm.trans e2)
    subst hd0
    obtain ⟨l0⟩ := cs
    have hvc : ∀ v, l0 = [v] → W.cell? ⟨g, 0, none⟩ = some v := fun v e => by subst e; simpa using World.var?_cell hg0 e3 0
    have ok0 : ∀ u v, l0 = [.iface u v] → Value.okWide Tryz.prog W .any 0 u v := fun u v e => (hrows g 0 (by subst e; simp [MemPlace.row])).2 u v (hvc _ e)
    obtain ⟨a0, s0, rfl, hc0, hs0, hz0, rfl⟩ := errorString_of_trod Tryz.underlying27 rowErrS Tryz.underlying266 Tryz.underlying285 rfl rfl Tryz.underlying9 cellsErrS cellsString e4 ok0
    have hr0 := (hrows a0.block a0.off (by simp [MemPlace.row])).1
    obtain ⟨ads, h1, h2, h3, h4⟩ := sents l gs texts hg (fun g' hm => ht g' (List.mem_cons_of_mem _ hm)) hd q e5 (hnd.sublist (List.sublist_append_right _ _)) (fun b off hm => hrows b off (List.mem_append_right _ hm))
    have hsp : a0.spot = none := by
      cases hq : a0.spot with
      | none => rfl
      | some k => unfold World.cell? at hc0; rw [hq] at hc0; revert hc0; split <;> simp
    refine ⟨a0 :: ads, by simp [h1], ?_, ?_, ?_⟩
    · refine List.nodup_cons.2 ⟨fun hm => ?_, h2⟩
      have hq := (h3 a0 hm).1
      rw [List.append_assoc] at hnd
      have h5 := (List.nodup_append.1 (List.nodup_append.1 hnd).2.1).2.2 (MemPlace.cell a0.block a0.off) (by simp [MemPlace.row]) _ hq
      exact h5 rfl
    · intro a hm
      rcases List.mem_cons.1 hm with rfl | hm
      · exact ⟨by simp [MemPlace.row], hsp⟩
      · exact ⟨List.mem_append_right _ (h3 a hm).1, (h3 a hm).2⟩
    · intro i g' a hgi hai
      cases i with
      | zero =>
        simp at hgi hai
        subst hgi; subst hai
        exact ⟨hvc _ rfl, ⟨s0, hc0⟩, hr0⟩
      | succ i => exact h4 i g' a (by simpa using hgi) (by simpa using hai)
def textOf : DataW Unit → List UInt8
  | .iface _ (.ptr (.agg [.lit (.string t)])) => t
  | _ => []
end Go.Proofs.YtdpemmmbkjmplacGreatDoor
namespace Go.Proofs.YtdpemmmbkjmplacGreatDoor
open Go.ChangeShapes Go.WideShapes Go.RowKit

theorem door_met9 (os : Os) (args : Array Value) : laidMetH Tryz.prog Rows.worldStepsRow.laid ((World.doorLaid Tryz.prog 187 os).forCall (fun _ _ => 0) ⟨#[], args, []⟩).memory :=
  laidMetH_of_parts3 (fuel := 8) (laidMet_of_run' 8 (by kernel_rfl) (by kernel_rfl)) (by kernel_rfl) (by kernel_rfl)
theorem plainOf : (Rows.worldStepsRow.laid.filter fun x => x.2.handleName?.isNone).map (fun x => Tryz.prog.globalNamed x.1) = [4, 0, 2, 3, 5, 6, 7, 1, 8].map some := by kernel_rfl
theorem textsOf : (Rows.worldStepsRow.laid.filter fun x => x.2.handleName?.isNone).map (·.2) = ((Rows.worldStepsRow.laid.filter fun x => x.2.handleName?.isNone).map fun x => textOf x.2).map errD := by kernel_rfl
theorem typesOf : ([4, 0, 2, 3, 5, 6, 7, 1, 8].all fun g => ((Tryz.prog.globals[g]?).map (·.type)) == some 27) = true := by kernel_rfl
theorem handleOf : (Rows.worldStepsRow.laid.filter fun x => x.2.handleName?.isSome) = Rows.worldStepsRow.laid.take 1 := by kernel_rfl
theorem gErrT : Tryz.prog.globalNamed (Rows.worldStepsRow.laid.map (·.1)).head! = some 9 := by kernel_rfl
theorem rtypeT : (Tryz.prog.cutTypes.find? (·.1 == "internal/reflectlite.rtype")).map (·.2) = some 219 := by kernel_rfl
theorem oneRow : ((List.range 297).filter fun t => Tryz.prog.rowNamed t [101, 114, 114, 111, 114]) = [27] := by kernel_rfl
theorem sizeT : Tryz.prog.types.size = 297 := by kernel_rfl
theorem handleErr : typeHandle Tryz.prog 27 = .pointer (some ⟨10, 27, none⟩) := by kernel_rfl

theorem handle_of {W : World} (h : handlesMet Tryz.prog (Rows.worldStepsRow.laid.filter fun x => x.2.handleName?.isSome) W) : W.cell? ⟨9, 0, none⟩ = some (.iface 219 (.agg #[.pointer (some ⟨10, 27, none⟩)])) := by
  rw [handleOf] at h
  obtain ⟨name, u, ty, e1, e2, e3, e4, e5⟩ := h _ (List.mem_singleton.2 rfl)
  have en : name = [101, 114, 114, 111, 114] := (Option.some.inj e1).symm
  subst en
  obtain rfl := Option.some.inj (rtypeT.symm.trans e2)
  have hm : ty ∈ (List.range 297).filter fun t => Tryz.prog.rowNamed t [101, 114, 114, 111, 114] := List.mem_filter.2 ⟨List.mem_range.2 (by rw [← sizeT]; exact e3), e4⟩
  rw [oneRow] at hm
  obtain rfl := List.mem_singleton.1 hm
  rw [handleErr] at e5
  simpa using World.var?_cell gErrT e5 0

theorem held9_of_laid {W : World} (h : laidMetH Tryz.prog Rows.worldStepsRow.laid W) : ∃ A, Held9 W A := by
  obtain ⟨⟨ps, h1, h2, h3⟩, hh⟩ := laidMetH_iff.1 h
  obtain ⟨ads, hl, hnd, -, hs⟩ := sents _ [4, 0, 2, 3, 5, 6, 7, 1, 8] _ plainOf
    (fun g hg => by simpa using List.all_eq_true.1 typesOf g hg) textsOf ps h1 h2 h3
  have hlen : ads.length = 9 := by rw [hl]; rfl
  have hgs : ∀ i, i < 9 → [4, 0, 2, 3, 5, 6, 7, 1, 8][i]? = some (gN i) := by
    intro i hi
    have : i = 0 ∨ i = 1 ∨ i = 2 ∨ i = 3 ∨ i = 4 ∨ i = 5 ∨ i = 6 ∨ i = 7 ∨ i = 8 := by omega
    rcases this with rfl | rfl | rfl | rfl | rfl | rfl | rfl | rfl | rfl <;> rfl
  have hat : ∀ i (hi : i < 9), ads[i]? = some (ads.getD i ⟨0, 0, none⟩) := by
    intro i hi
    rw [List.getD_eq_getElem?_getD, List.getElem?_eq_getElem (by omega)]; rfl
  refine ⟨fun i => ads.getD i ⟨0, 0, none⟩, fun i hi => (hs i (gN i) _ (hgs i hi) (hat i hi)).var, ?_, fun i hi => (hs i (gN i) _ (hgs i hi) (hat i hi)).row, handle_of hh⟩
  intro i j hi hj hne e
  have e1 := hat i hi
  have e2 := hat j hj
  rw [e] at e1
  exact hne ((List.getElem?_inj (by omega) hnd).1 (e1.trans e2.symm))
end Go.Proofs.YtdpemmmbkjmplacGreatDoor
