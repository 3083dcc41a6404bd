/-
  PACKAGE lead: begin, Begin, Try.
-/
import Derived.Test.YtkopfpaldmapdaaDoorQ7
import Derived.Test.YtkopfpaldmapdaaDoorW5
import Derived.Test.YtkopfpaldmapdaaDoorW6
namespace Go.Proofs.YtkopfpaldmapdaaDoor
open Go.RowKit

set_option maxRecDepth 100000 in
theorem sl_nil (b off n cap : Nat) (w : World) : (binOp .eql 47 (.slice (some ⟨b, off, none⟩) n cap) (.slice none 0 0)).run Tryd.prog w = .ok (.bool false) w := by
  rfl
set_option maxHeartbeats 1000000 in
set_option maxRecDepth 100000 in
theorem clone_any (v : Value) (zs : List Int) (w : World) (hv : IsSl w v zs) (h1 : 1 ≤ zs.length) (hl : zs.length ≤ 30) :
    Calls Tryd.prog 80 #[v] w fun e w' => ∃ v', e = .returned v' ∧ w'.ownsRow w.heap.size 3 1 v' zs.length (zs.map (Value.int .i64)) ∧ Below w.heap.size w w' := by
  obtain ⟨i0, hi, hz0, hz1, hz2⟩ := info_parts Tryd.infoInt
  obtain ⟨a, cap, rfl, hm, -, hc⟩ := hv
  have HM := hid hm
  obtain ⟨b, off, rfl, hcc⟩ := hc (by omega)
  have HC : Hid (∀ o : Obj, ∀ j u, (zs.map (Value.int .i64))[j]? = some u → (w.alloc o).cell? ((⟨b, off, none⟩ : Addr).add j) = some u) := by
    intro o j u hj
    rw [List.getElem?_map] at hj
    rcases Nat.lt_or_ge j zs.length with h | h
    · rw [List.getElem?_eq_getElem h] at hj
      simp at hj
      subst hj
      have := hcc j h
      rw [getD_lt zs j h] at this
      rw [addr_add]; exact cell_alloc _ this
    · rw [List.getElem?_eq_none h] at hj; cases hj
  clear hc hcc
  have HO : Hid (∀ u ∈ zs.map (Value.int .i64), u.oneCell' = true) := by
    intro u hu
    obtain ⟨n, -, rfl⟩ := List.mem_map.1 hu
    rfl
  have HOw : Hid ((w.alloc (.cells #[] 3)).ownsRow w.heap.size 3 1 (.slice (some ⟨w.heap.size, 0, none⟩) 0 0) 0 []) := World.ownsRow_lit w #[] 0 (Nat.le_refl _) (by unfold maxLen; omega) rfl
  have hnil := sl_nil b off zs.length cap
  go_enter Tryd.func80, Tryd.ntmps80
  go_wp2_with (at_builtin; refine wpList_append_own _ rfl _ _ 47 rfl w.heap.size 3 i0 (.int .i64 0) 1 8 Tryd.underlying47 hi hz0 hz1 hz2 rfl (by decide) _ 0 [] rfl HOw.out ⟨b, off, none⟩ zs.length cap (zs.map (Value.int .i64)) rfl (by simp) (HC.out _) HO.out (by have := HM.out; omega) (by omega) (by simp) ?_)
  intro v' w1 hown hgrow _
  have ho2 : w1.ownsRow w.heap.size 3 1 v' zs.length (zs.map (Value.int .i64)) := by simpa using hown
  clear hown
  have HB : Hid (Below w.heap.size w w1) := ((Below.refl _ _).alloc (Nat.le_refl _) (.cells #[] 3)).grown hgrow (by simp) (fun j hj => (HOw.out.lt j hj).1)
  clear hgrow
  go_wp2_with fail
  go_ret
  exact ⟨_, rfl, ho2, HB.out⟩
/-- A lead that has just begun. -/
def P0 : PL := ⟨0, 0, [⟨0, 0, 0⟩, ⟨0, 0, 0⟩, ⟨0, 0, 0⟩, ⟨0, 0, 0⟩, ⟨0, 0, 0⟩, ⟨0, 0, 0⟩, ⟨0, 0, 0⟩], 0, 0, false⟩
theorem P0_w (n : Nat) : PW n P0 := ⟨rfl, Int.le_refl _, Int.pow_pos (by decide)⟩
theorem check_ok (A : Nat → Addr) (v : Value) (zs : List Int) (w : World) (hv : IsSl w v zs) (hE : Held3 w A) (he : errW zs = 0) :
    Calls Tryd.prog 79 #[v] w fun e w' => e = .returned .nilIface ∧ w' = w := by
  have := check_any A v zs w hv hE
  rw [he] at this
  exact this
set_option maxHeartbeats 1000000 in
set_option maxRecDepth 100000 in
theorem ldbegin_ok (A : Nat → Addr) (v : Value) (zs : List Int) (id : Nat) (deal att : Int) (w : World) (hv : IsSl w v zs) (hE : Held3 w A) (he : errW zs = 0) (hid' : id < zs.length) (h0 : 0 ≤ deal) (h1 : deal < 6) :
    Calls Tryd.prog 50 #[.int .i64 (id : Int), .int .i64 deal, v, .int .i64 att] w fun e w' => ∃ lb b cap, e = .returned (.tuple #[.pointer (some ⟨lb, 0, none⟩), .nilIface]) ∧ LD w' lb b cap id deal att zs P0 ∧ Below w.heap.size w w' ∧ w.heap.size ≤ b := by
  have HS := hid hv
  have HE := hid hE
  have HZ := hid he
  obtain ⟨q1, q2, -, -⟩ := errW_zero he
  have hlen : (id : Int) < (zs.length : Int) := by omega
  have g1 : ¬ (zs.length : Int) ≤ (id : Int) := by omega
  obtain ⟨a, cap0, rfl, -, -, -⟩ := hv
  clear hE he
  go_enter Tryd.func50, Tryd.ntmps50
  go_wp2_with (go_at_call 79; refine (check_ok A _ zs _ HS.out HE.out HZ.out).mono ?_; rintro e w1 ⟨rfl, rfl⟩)
  refine (clone_any _ zs _ HS.out q1 (by omega)).mono ?_
  rintro e w1 ⟨v', rfl, ho, hb⟩
  rcases ho.2 with ⟨-, hz⟩ | ⟨g, cap, cur, rfl, hg, hgg, hle, hcap, hsz, htk⟩
  · omega
  have HOw := hid ho
  have HB := hid hb
  clear ho hb hgg hle hcap hsz htk
  go_wp2_with fail
  go_ret2
  have hg2 : g < w1.heap.size := by
    rcases HOw.out.2 with ⟨hx, -⟩ | ⟨g', cap', cur', hx, -, hgg', -⟩
    · cases hx
    · cases hx
      exact row_ltJ hgg'
  refine ⟨w1.heap.size, g, cap, rfl, ⟨heap_alloc_new w1 _, fun i hi => cell_alloc _ ?_, hg2, P0_w _, fun j => Nat.lt_of_lt_of_le (gW_lt HE.out j) HB.out.size⟩, HB.out.alloc HB.out.size _, hg⟩
  have := HOw.out.cellAt i (by omega)
  rw [Nat.zero_add, this]
  simp [hi]
set_option maxRecDepth 100000 in
theorem ldBegin_ok (A : Nat → Addr) (v : Value) (zs : List Int) (id : Nat) (deal : Int) (w : World) (hv : IsSl w v zs) (hE : Held3 w A) (he : errW zs = 0) (hid' : id < zs.length) (h0 : 0 ≤ deal) (h1 : deal < 6) :
    Calls Tryd.prog 28 #[.int .i64 (id : Int), .int .i64 deal, v] w fun e w' => ∃ lb b cap, e = .returned (.tuple #[.pointer (some ⟨lb, 0, none⟩), .nilIface]) ∧ LD w' lb b cap id deal 0 zs P0 ∧ Below w.heap.size w w' ∧ w.heap.size ≤ b := by
  have HC := hid (ldbegin_ok A v zs id deal 0 w hv hE he hid' h0 h1)
  obtain ⟨a, cap0, rfl, -, -, -⟩ := hv
  clear hE he
  go_enter Tryd.func28, Tryd.ntmps28
  go_wp2_with fail
  refine HC.out.mono ?_
  rintro e w1 ⟨lb, b, cap, rfl, hl, hb, hg⟩
  have HL := hid (And.intro hl (And.intro hb hg))
  clear hl hb hg
  go_wp2_with fail
  go_ret2
  exact ⟨lb, b, cap, rfl, HL.out⟩
set_option maxRecDepth 100000 in
theorem ldTry_ok (A : Nat → Addr) (v : Value) (zs : List Int) (id : Nat) (deal att : Int) (w : World) (hv : IsSl w v zs) (hE : Held3 w A) (he : errW zs = 0) (hid' : id < zs.length) (h0 : 0 ≤ deal) (h1 : deal < 6) (a0 : 1 ≤ att) (a1 : att ≤ 1048576) :
    Calls Tryd.prog 30 #[.int .i64 (id : Int), .int .i64 deal, v, .int .i64 att] w fun e w' => ∃ lb b cap, e = .returned (.tuple #[.pointer (some ⟨lb, 0, none⟩), .nilIface]) ∧ LD w' lb b cap id deal att zs P0 ∧ Below w.heap.size w w' ∧ w.heap.size ≤ b := by
  have HC := hid (ldbegin_ok A v zs id deal att w hv hE he hid' h0 h1)
  obtain ⟨a, cap0, rfl, -, -, -⟩ := hv
  have g1 : ¬ att < 1 := by omega
  have g2 : ¬ 1048576 < att := by omega
  clear hE he
  go_enter Tryd.func30, Tryd.ntmps30
  go_wp2_with fail
  refine HC.out.mono ?_
  rintro e w1 ⟨lb, b, cap, rfl, hl, hb, hg⟩
  have HL := hid (And.intro hl (And.intro hb hg))
  clear hl hb hg
  go_wp2_with fail
  go_ret2
  exact ⟨lb, b, cap, rfl, HL.out⟩
/-- State and Seen. -/
theorem ldState_any {w : World} {lb b cap id : Nat} {deal att : Int} {zs : List Int} {P : PL} (h : LD w lb b cap id deal att zs P) :
    Calls Tryd.prog 31 #[.pointer (some ⟨lb, 0, none⟩)] w fun e w' => e = .returned (.string (stP P.stt)) ∧ w' = w := by
  have c4 := h.cells.2.2.2.2.1
  clear h
  go_enter Tryd.func31, Tryd.ntmps31
  go_wp2_with fail
  go_ret
  exact ⟨rfl, rfl⟩
theorem ldSeen_any {w : World} {lb b cap id : Nat} {deal att : Int} {zs : List Int} {P : PL} (h : LD w lb b cap id deal att zs P) :
    Calls Tryd.prog 38 #[.pointer (some ⟨lb, 0, none⟩)] w fun e w' => e = .returned (.int .i64 P.seen) ∧ w' = w := by
  have c28 := h.cells.2.2.2.2.2.2.2.1
  clear h
  go_enter Tryd.func38, Tryd.ntmps38
  go_wp2_with fail
  go_ret
  exact ⟨rfl, rfl⟩
end Go.Proofs.YtkopfpaldmapdaaDoor
