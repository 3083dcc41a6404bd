/-
  The law's 'faulted'; one event appended to a row of one's own.
-/
import Derived.Test.YtadhpkopkkjmfaaDoorEE
import Derived.Laws.AppendOwn
import Derived.Deep.RegionLaw
namespace Go.Proofs.YtadhpkopkkjmfaaDoor
open Go.RowKit

theorem Tryd.infoEvE : (Tryd.prog.info? 28).map (fun i => (i.zero, i.size, i.bytes)) = some (some (.agg #[.int .i64 0, .int .i64 0, .int .i64 0]), 3, 24) := by kernel_rfl
theorem e3_one (x : E3) : ∀ u ∈ e3L x, u.oneCell' = true := by
  intro u hu
  simp [e3L] at hu
  rcases hu with rfl | rfl | rfl <;> rfl
theorem step_append_ev1 {w : World} {ops : Array Oper} {o : Oper} {a : Act} {K : Act → World → Prop} {Q : Exit → Act → World → Prop} {E : Prop} (hgd : o.guard = none) (s x : Operand)
    (ho : o.op = .call { callee := .builtin .append, args := #[s, x], argTypes := #[25, 25] })
    (base n : Nat) (v : Value) (xs : List Value) (ad : Addr) (c : Nat) (F : E3) (hs : a.eval s = v) (hx : a.eval x = .slice (some ad) 1 c) (hown : w.ownsRow base 28 3 v n xs) (hu : ∀ j u, (e3L F)[j]? = some u → w.cell? (ad.add j) = some u) (hn : n ≤ 1000000000000) (hb : base ≤ w.heap.size)
    (h : ∀ ad' cap' w', w'.ownsRow base 28 3 (.slice ad' (n + 1) cap') (n + 1) (xs ++ e3L F) → w.grownBy w' v.ownBlock → K (a.put o.dst (.slice ad' (n + 1) cap')) w') :
    if Region.wanted o (yielded ops a.tmps) = true then Oper.wp Tryd.prog o a w K Q else E := by
  have hw : Region.wanted o (yielded ops a.tmps) = true := by simp [Region.wanted, hgd]
  rw [if_pos hw]
  obtain ⟨i0, hi0, hz0, hz1, hz2⟩ := info_parts Tryd.infoEvE
  obtain ⟨v', w', hr, h2, h3, -, -⟩ := run_append_own_at (P := Tryd.prog) w base 25 o.type 28 i0 _ 3 24 Tryd.underlying25 hi0 hz0 hz1 hz2 rfl (by decide) v n xs hown ad 1 c (e3L F) rfl hu (e3_one F) (by unfold maxLen; omega) (by omega) hb
  obtain ⟨ad', cap', rfl⟩ : ∃ ad' cap', v' = .slice ad' (n + 1) cap' := by
    rcases h2.2 with ⟨e, h0⟩ | ⟨g, cap, cur, e, -⟩
    · omega
    · exact ⟨_, _, e⟩
  unfold Oper.wp execOp
  simp only [ho, resolve, invoke, builtin, Sem.run_bind, Sem.run_pure, Result.andThen_ok, List.map_toArray, List.map_cons, List.map_nil, hs, hx, hr]
  exact h ad' cap' w' h2 h3
theorem lit_cellsE (w : World) (t : TypeId) (L : List Value) : ∀ j u, L[j]? = some u → (w.alloc (.cells L.toArray t)).cell? ((⟨w.heap.size, 0, none⟩ : Addr).add j) = some u := by
  intro j u h
  rw [addr_add, cell_of_row _ _ _ _ _ _ (heap_alloc_new w _), List.getElem?_toArray, Nat.zero_add]
  exact h
theorem evCells_take (L : List E3) (k : Nat) (h : k < L.length) : evCells (L.take (k + 1)) = evCells (L.take k) ++ e3L (L[k]'h) := by
  unfold evCells
  rw [take_snoc L k h, List.flatMap_append, List.flatMap_singleton]
set_option maxRecDepth 100000 in
theorem faulted_nil (w : World) : Calls Tryd.prog 7 #[.nilIface, fltV 0 (-1)] w fun e w' => e = .returned (.bool true) ∧ Below w.heap.size w w' := by
  unfold fltV
  go_enter Tryd.func7, Tryd.ntmps7
  go_wp2_with fail
  refine (code_nil _).mono ?_
  rintro e w1 ⟨rfl, hx⟩
  subst w1
  go_wp2_with fail
  go_ret
  exact ⟨rfl, (Below.refl _ _).alloc (Nat.le_refl _) _⟩
set_option maxRecDepth 100000 in
theorem faulted_bare (A : Nat → Addr) (w : World) (hE : Held9 w A) : Calls Tryd.prog 7 #[ev A 2, fltV 2 (-1)] w fun e w' => e = .returned (.bool true) ∧ Below w.heap.size w w' := by
  obtain ⟨W, HW⟩ : ∃ W, Hid (w.alloc (.cells #[.int .i64 2, .int .i64 (-1)] 30) = W) := ⟨_, rfl⟩
  have hW := HW.out
  have HB : Hid (Below w.heap.size w W) := by rw [← HW.out]; exact (Below.refl _ _).alloc (Nat.le_refl _) _
  have HR := hid (heap_alloc_new w (.cells #[.int .i64 2, .int .i64 (-1)] 30))
  rw [HW.out] at HR
  have HC := hid (code_at A 1 W (hE.later HB.out) (by decide))
  rw [show ((1 : Nat) : Int) + 1 = 2 from rfl] at HC
  clear hE
  unfold fltV
  rw [show ev A 2 = .iface 90 (.pointer (some (A 1))) from rfl]
  go_enter Tryd.func7, Tryd.ntmps7
  go_wp2_with fail
  refine HC.out.mono ?_
  rintro e w1 ⟨rfl, hb⟩
  obtain ⟨c0, c1⟩ := two_cells (row_later hb HR.out)
  have HB1 := hid (below_trans HB.out hb)
  clear hb
  go_wp2_with fail
  go_ret
  exact ⟨rfl, HB1.out⟩
set_option maxRecDepth 100000 in
theorem faulted_at (A : Nat → Addr) (x k fb : Nat) (w : World) (hE : Held9 w A) (hx : x < 9) (h0 : w.cell? ⟨fb, 0, none⟩ = some (.int .i64 (k : Int))) (h1 : w.cell? ⟨fb, 1, none⟩ = some (.iface 90 (.pointer (some (A x))))) :
    Calls Tryd.prog 7 #[.iface 51 (.pointer (some ⟨fb, 0, none⟩)), fltV ((x + 1 : Nat) : Int) (k : Int)] w fun e w' => e = .returned (.bool true) ∧ Below w.heap.size w w' := by
  obtain ⟨c, hc⟩ : ∃ c : Int, Hid (((x + 1 : Nat) : Int) = c) := ⟨_, rfl⟩
  obtain ⟨W, HW⟩ : ∃ W, Hid (w.alloc (.cells #[.int .i64 c, .int .i64 (k : Int)] 30) = W) := ⟨_, rfl⟩
  have hW := HW.out
  have HB : Hid (Below w.heap.size w W) := by rw [← HW.out]; exact (Below.refl _ _).alloc (Nat.le_refl _) _
  have HR := hid (heap_alloc_new w (.cells #[.int .i64 c, .int .i64 (k : Int)] 30))
  rw [HW.out] at HR
  have HC := hid (codeF_at A fb 0 (k : Int) x W (hE.later HB.out) hx (cell_later HB.out h0) (cell_later HB.out h1))
  have e0 : (c == 0) = false := beq_eq_false_iff_ne.2 (by have := hc.out; omega)
  rw [show ((x : Int) + 1) = c from hc.out] at HC
  rw [hc.out]
  clear hE h0 h1
  unfold fltV
  go_enter Tryd.func7, Tryd.ntmps7
  go_wp2_with fail
  refine HC.out.mono ?_
  rintro e w1 ⟨rfl, hb⟩
  obtain ⟨c0, c1⟩ := two_cells (row_later hb HR.out)
  have HB1 := hid (below_trans HB.out hb)
  clear hb
  go_wp2_with fail
  go_ret
  exact ⟨rfl, HB1.out⟩
/-- Two answers that are the same. -/
theorem faulted_flt (A : Nat → Addr) (c k base : Nat) (v : Value) (r1 r2 : Int) (w : World) (hE : Held9 w A) (hc : c ≤ 9) (hv : FltV w A c k v base) (h1 : r1 = c) (h2 : r2 = if c = 0 then -1 else (k : Int)) :
    Calls Tryd.prog 7 #[v, fltV r1 r2] w fun e w' => e = .returned (.bool true) ∧ Below w.heap.size w w' := by
  rcases hv with ⟨rfl, rfl⟩ | ⟨x, fb, rfl, -, rfl, hc0, hc1⟩
  · rw [h1, h2]
    exact faulted_nil w
  · rw [h1, h2, if_neg (by omega)]
    exact faulted_at A x k fb w hE (by omega) hc0 hc1
end Go.Proofs.YtadhpkopkkjmfaaDoor
