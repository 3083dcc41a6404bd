/-
  THE CONTRACT of plain.Code: an error's number, at nil and at errors of errors.New's make.
-/
import Derived.Test.YtadhpkopkkjmfaaDoorErrAs
import Derived.Test.YtadhpkopkkjmfaaDoorZ1
namespace Go.Proofs.YtadhpkopkkjmfaaDoor
open Go.RowKit

/-- Which variable holds the error of number k + 1. -/
def gN : Nat → Nat
  | 0 => 2
  | 1 => 0
  | 2 => 3
  | 3 => 4
  | 4 => 5
  | 5 => 6
  | 6 => 7
  | 7 => 8
  | _ => 1
/-- The nine error variables hold nine different errors; the handle of type 'error' is laid. -/
structure Held9 (w : World) (A : Nat → Addr) : Prop where
  var : ∀ i, i < 9 → w.cell? ⟨gN i, 0, none⟩ = some (.iface 90 (.pointer (some (A i))))
  ne : ∀ i j, i < 9 → j < 9 → i ≠ j → A i ≠ A j
  row : ∀ i, i < 9 → ∃ c t, w.heap[(A i).block]? = some (.cells c t (0, 0))
  hnd : w.cell? ⟨9, 0, none⟩ = some (.iface 76 (.agg #[.pointer (some ⟨10, 37, none⟩)]))
theorem row_later {w w' : World} {b : Nat} {c : Array Value} {t : TypeId} {f : Nat × Nat} (hb : Below w.heap.size w w') (h : w.heap[b]? = some (.cells c t f)) : w'.heap[b]? = some (.cells c t f) := by
  have hlt : b < w.heap.size := by
    rcases Nat.lt_or_ge b w.heap.size with g | g
    · exact g
    · rw [Array.getElem?_eq_none g] at h; cases h
  rw [hb.block b hlt]; exact h
theorem Held9.later {w w' : World} {A : Nat → Addr} (h : Held9 w A) (hb : Below w.heap.size w w') : Held9 w' A :=
  ⟨fun i hi => cell_later hb (h.var i hi), h.ne, fun i hi => by obtain ⟨c, t, g⟩ := h.row i hi; exact ⟨c, t, row_later hb g⟩, cell_later hb h.hnd⟩

theorem Held9.cells {w : World} {A : Nat → Addr} (h : Held9 w A) : w.cell? ⟨2, 0, none⟩ = some (.iface 90 (.pointer (some (A 0)))) ∧ w.cell? ⟨0, 0, none⟩ = some (.iface 90 (.pointer (some (A 1)))) ∧ w.cell? ⟨3, 0, none⟩ = some (.iface 90 (.pointer (some (A 2)))) ∧ w.cell? ⟨4, 0, none⟩ = some (.iface 90 (.pointer (some (A 3)))) ∧ w.cell? ⟨5, 0, none⟩ = some (.iface 90 (.pointer (some (A 4)))) ∧ w.cell? ⟨6, 0, none⟩ = some (.iface 90 (.pointer (some (A 5)))) ∧ w.cell? ⟨7, 0, none⟩ = some (.iface 90 (.pointer (some (A 6)))) ∧ w.cell? ⟨8, 0, none⟩ = some (.iface 90 (.pointer (some (A 7)))) ∧ w.cell? ⟨1, 0, none⟩ = some (.iface 90 (.pointer (some (A 8)))) :=
  ⟨h.var 0 (by decide), h.var 1 (by decide), h.var 2 (by decide), h.var 3 (by decide), h.var 4 (by decide), h.var 5 (by decide), h.var 6 (by decide), h.var 7 (by decide), h.var 8 (by decide)⟩

/-- The list of the nine errors. -/
def errArr (A : Nat → Addr) : Array Value := #[.iface 90 (.pointer (some (A 0))), .iface 90 (.pointer (some (A 1))), .iface 90 (.pointer (some (A 2))), .iface 90 (.pointer (some (A 3))), .iface 90 (.pointer (some (A 4))), .iface 90 (.pointer (some (A 5))), .iface 90 (.pointer (some (A 6))), .iface 90 (.pointer (some (A 7))), .iface 90 (.pointer (some (A 8)))]
theorem errArr_at (A : Nat → Addr) (k : Nat) (hk : k < 9) (w : World) (t : TypeId) : (w.alloc (.cells (errArr A) t)).cell? ⟨w.heap.size, k, none⟩ = some (.iface 90 (.pointer (some (A k)))) := by
  rw [World.cell?_alloc_at _ _ _ _ rfl]
  have : k = 0 ∨ k = 1 ∨ k = 2 ∨ k = 3 ∨ k = 4 ∨ k = 5 ∨ k = 6 ∨ k = 7 ∨ k = 8 := by omega
  rcases this with rfl | rfl | rfl | rfl | rfl | rfl | rfl | rfl | rfl <;> rfl

/-- Code(nil). -/
theorem code_nil (w : World) : Calls Tryd.prog 14 #[.nilIface] w fun e w' => e = .returned (.tuple #[.int .i64 0, .int .i64 (-1)]) ∧ w' = w := by
  go_enter Tryd.func14, Tryd.ntmps14
  go_wp2
  go_ret2
  exact ⟨rfl, rfl⟩

set_option maxRecDepth 100000 in
set_option maxHeartbeats 2000000 in
theorem code_e (A : Nat → Addr) (x : Addr) (c : Nat) (r : Int) (w : World) (hE : Held9 w A) (hrow : ∃ cs t, w.heap[x.block]? = some (.cells cs t (0, 0)))
    (hc : c ≤ 9) (hlo : ∀ k, k < c → x ≠ A k) (hat : c < 9 → x = A c) (hr1 : c < 9 → r = c + 1) (hr2 : c = 9 → r = -1) :
    Calls Tryd.prog 14 #[.iface 90 (.pointer (some x))] w fun e w' => e = .returned (.tuple #[.int .i64 r, .int .i64 (-1)]) ∧ Below w.heap.size w w' := by
  have H := hid hE
  have HR := hid hrow
  have HLO := hid hlo
  have HAT := hid hat
  have HR1 := hid hr1
  have HR2 := hid hr2
  clear hE hrow hlo hat hr1 hr2
  have hb0 : Below w.heap.size w (w.alloc (.cells #[.pointer none] 51)) := (Below.refl _ _).alloc (Nat.le_refl _) _
  go_enter Tryd.func14, Tryd.ntmps14
  go_wp2_with (go_at_call 18; refine (as_miss x _ _ (by exact (H.out.later hb0).hnd)).mono ?_; rintro e w1 ⟨rfl, hb1⟩; obtain ⟨g0, g1, g2, g3, g4, g5, g6, g7, g8⟩ := (H.out.later (hb0.trans (hb1.mono hb0.size))).cells)
  have hB : Below w.heap.size w (w1.alloc (.cells #[.iface 90 (.pointer (some (A 0))), .iface 90 (.pointer (some (A 1))), .iface 90 (.pointer (some (A 2))), .iface 90 (.pointer (some (A 3))), .iface 90 (.pointer (some (A 4))), .iface 90 (.pointer (some (A 5))), .iface 90 (.pointer (some (A 6))), .iface 90 (.pointer (some (A 7))), .iface 90 (.pointer (some (A 8)))] 37)) := (hb0.trans (hb1.mono hb0.size)).alloc (Nat.le_trans hb0.size hb1.size) _
  have hcell : ∀ k, k < 9 → (w1.alloc (.cells #[.iface 90 (.pointer (some (A 0))), .iface 90 (.pointer (some (A 1))), .iface 90 (.pointer (some (A 2))), .iface 90 (.pointer (some (A 3))), .iface 90 (.pointer (some (A 4))), .iface 90 (.pointer (some (A 5))), .iface 90 (.pointer (some (A 6))), .iface 90 (.pointer (some (A 7))), .iface 90 (.pointer (some (A 8)))] 37)).cell? ⟨w1.heap.size, k, none⟩ = some (.iface 90 (.pointer (some (A k)))) := fun k hk => errArr_at A k hk w1 37
  have HC := hid hcell
  clear g0 g1 g2 g3 g4 g5 g6 g7 g8 hcell
  go_loop [3, 27] (fun a i => ∃ k : Nat, k ≤ c ∧ i = .int .i64 k ∧ a = .int .i64 (-1)) (fun _ i => 9 - (intOf i).toNat)
  case atStart => exact ⟨0, Nat.zero_le _, rfl, rfl⟩
  case round =>
    obtain ⟨k, hk, rfl, rfl⟩ := hrel
    by_cases hlt : k < 9
    · have hck := HC.out k hlt
      by_cases hkc : k = c
      · subst hkc
        have hx := HAT.out hlt
        subst hx
        have hR := HR1.out hlt
        subst hR
        go_wp2_with (go_at_call 19; refine (is_same _ _).mono ?_; rintro e w' ⟨rfl, rfl⟩)
        go_ret2
        exact ⟨rfl, hB⟩
      · obtain ⟨cs, t, hr⟩ := HR.out
        obtain ⟨cs', t', hr'⟩ := H.out.row k hlt
        have hr2 := hid (row_later hB hr)
        have hr2' := hid (row_later hB hr')
        clear hr hr'
        go_wp2_with (go_at_call 19; refine (is_other _ _ cs cs' t t' _ (HLO.out k (by omega)) hr2.out hr2'.out).mono ?_; rintro e w' ⟨rfl, rfl⟩)
        go_round
        case rel => exact ⟨k + 1, by omega, by go_num, rfl⟩
        case measure => simp [intOf]; omega
    · have hc9 : c = 9 := by omega
      have hR := HR2.out hc9
      subst hR
      go_wp2
      go_ret2
      exact ⟨rfl, hB⟩

/-- Code of the error number c + 1. -/
theorem code_at (A : Nat → Addr) (c : Nat) (w : World) (hE : Held9 w A) (hc : c < 9) :
    Calls Tryd.prog 14 #[.iface 90 (.pointer (some (A c)))] w fun e w' => e = .returned (.tuple #[.int .i64 ((c : Int) + 1), .int .i64 (-1)]) ∧ Below w.heap.size w w' :=
  code_e A (A c) c _ w hE (hE.row c hc) (by omega) (fun k hk => hE.ne c k hc (by omega) (by omega)) (fun _ => rfl) (fun _ => rfl) (fun h => by omega)
/-- Code of another error. -/
theorem code_not (A : Nat → Addr) (x : Addr) (w : World) (hE : Held9 w A) (hrow : ∃ cs t, w.heap[x.block]? = some (.cells cs t (0, 0))) (hx : ∀ k, k < 9 → x ≠ A k) :
    Calls Tryd.prog 14 #[.iface 90 (.pointer (some x))] w fun e w' => e = .returned (.tuple #[.int .i64 (-1), .int .i64 (-1)]) ∧ Below w.heap.size w w' :=
  code_e A x 9 _ w hE hrow (Nat.le_refl _) hx (fun h => by omega) (fun h => by omega) (fun _ => rfl)

/-- coded(err, code): does an error have that number, and no place? At nil. -/
theorem coded_nil (n : Int) (w : World) : Calls Tryd.prog 13 #[.nilIface, .int .i64 n] w fun e w' => e = .returned (.bool (0 == n)) ∧ w' = w := by
  go_enter Tryd.func13, Tryd.ntmps13
  go_wp2_with (go_at_call 14; refine (code_nil _).mono ?_; rintro e w' ⟨rfl, rfl⟩)
  all_goals go_ret
  all_goals exact ⟨by simp_all, rfl⟩
theorem coded_at (A : Nat → Addr) (c : Nat) (n : Int) (w : World) (hE : Held9 w A) (hc : c < 9) :
    Calls Tryd.prog 13 #[.iface 90 (.pointer (some (A c))), .int .i64 n] w fun e w' => e = .returned (.bool ((c : Int) + 1 == n)) ∧ Below w.heap.size w w' := by
  have H := hid hE
  clear hE
  go_enter Tryd.func13, Tryd.ntmps13
  go_wp2_with (go_at_call 14; refine (code_at A c _ H.out hc).mono ?_; rintro e w1 ⟨rfl, hb⟩)
  all_goals go_ret
  all_goals exact ⟨by simp_all, hb⟩
end Go.Proofs.YtadhpkopkkjmfaaDoor
