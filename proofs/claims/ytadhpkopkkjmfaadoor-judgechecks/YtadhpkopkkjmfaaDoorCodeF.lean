/-
  THE CONTRACT of plain.Code at an api.Fault round an error of errors.New's make: its number, and its place.
-/
import Derived.Test.YtadhpkopkkjmfaaDoorErrF
namespace Go.Proofs.YtadhpkopkkjmfaaDoor
open Go.RowKit

set_option maxRecDepth 100000 in
set_option maxHeartbeats 2000000 in
theorem code_f (A : Nat → Addr) (pb po : Nat) (at0 : Int) (x : Addr) (c : Nat) (r : Int) (w : World) (hE : Held9 w A) (hf1 : w.cell? ⟨pb, po, none⟩ = some (.int .i64 at0)) (hf2 : w.cell? ⟨pb, po + 1, none⟩ = some (.iface 90 (.pointer (some x)))) (hrow : ∃ cs t, w.heap[x.block]? = some (.cells cs t (0, 0)))
    (hc : c ≤ 9) (hlo : ∀ k, k < c → x ≠ A k) (hat : c < 9 → x = A c) (hr1 : c < 9 → r = c + 1) (hr2 : c = 9 → r = -1) :
    Calls Tryd.prog 14 #[.iface 51 (.pointer (some ⟨pb, po, none⟩))] w fun e w' => e = .returned (.tuple #[.int .i64 r, .int .i64 at0]) ∧ Below w.heap.size w w' := by
  have H := hid hE
  have F1 := hid hf1
  have F2 := hid hf2
  have HR := hid hrow
  have HLO := hid hlo
  have HAT := hid hat
  have HR1 := hid hr1
  have HR2 := hid hr2
  clear hE hf1 hf2 hrow hlo hat hr1 hr2
  have hb0 : Below w.heap.size w (w.alloc (.cells #[.pointer none] 51)) := (Below.refl _ _).alloc (Nat.le_refl _) _
  go_enter Tryd.func14, Tryd.ntmps14
  go_wp2_with (go_at_call 18; refine (as_hit ⟨pb, po, none⟩ _ (.pointer none) w.heap.size _ (Nat.le_refl _) (by exact (H.out.later hb0).hnd) (by simp) (by simp)).mono ?_; rintro e w1 ⟨rfl, ht1, hb1⟩; obtain ⟨g0, g1, g2, g3, g4, g5, g6, g7, g8⟩ := (H.out.later (hb0.trans hb1)).cells; have f1 := cell_later (hb0.trans hb1) F1.out)
  have hB : Below w.heap.size w (w1.alloc (.cells #[.iface 90 (.pointer (some (A 0))), .iface 90 (.pointer (some (A 1))), .iface 90 (.pointer (some (A 2))), .iface 90 (.pointer (some (A 3))), .iface 90 (.pointer (some (A 4))), .iface 90 (.pointer (some (A 5))), .iface 90 (.pointer (some (A 6))), .iface 90 (.pointer (some (A 7))), .iface 90 (.pointer (some (A 8)))] 37)) := (hb0.trans hb1).alloc (Nat.le_trans hb0.size hb1.size) _
  have hcell : ∀ k, k < 9 → (w1.alloc (.cells #[.iface 90 (.pointer (some (A 0))), .iface 90 (.pointer (some (A 1))), .iface 90 (.pointer (some (A 2))), .iface 90 (.pointer (some (A 3))), .iface 90 (.pointer (some (A 4))), .iface 90 (.pointer (some (A 5))), .iface 90 (.pointer (some (A 6))), .iface 90 (.pointer (some (A 7))), .iface 90 (.pointer (some (A 8)))] 37)).cell? ⟨w1.heap.size, k, none⟩ = some (.iface 90 (.pointer (some (A k)))) := fun k hk => errArr_at A k hk w1 37
  have HC := hid hcell
  have F2' := hid (cell_later hB F2.out)
  clear g0 g1 g2 g3 g4 g5 g6 g7 g8 hcell f1 ht1
  go_loop [3, 27] (fun a i => ∃ k : Nat, k ≤ c ∧ i = .int .i64 k ∧ a = .int .i64 at0) (fun _ i => 9 - (intOf i).toNat)
  case atStart => exact ⟨0, Nat.zero_le _, rfl, rfl⟩
  case round =>
    obtain ⟨k, hk, rfl, rfl⟩ := hrel
    by_cases hlt : k < 9
    · have hck := HC.out k hlt
      by_cases hkc : k = c
      · subst hkc
        have hx := HAT.out hlt
        subst hx
        have hR := HR1.out hlt
        subst hR
        go_wp2_with (go_at_call 19; refine (is_f_same pb po _ _ F2'.out).mono ?_; rintro e w' ⟨rfl, rfl⟩)
        go_ret2
        exact ⟨rfl, hB⟩
      · obtain ⟨cs, t, hr⟩ := HR.out
        obtain ⟨cs', t', hr'⟩ := H.out.row k hlt
        have hr2 := hid (row_later hB hr)
        have hr2' := hid (row_later hB hr')
        clear hr hr'
        go_wp2_with (go_at_call 19; refine (is_f_other pb po _ _ cs cs' t t' _ F2'.out (HLO.out k (by omega)) hr2.out hr2'.out).mono ?_; rintro e w' ⟨rfl, rfl⟩)
        go_round
        case rel => exact ⟨k + 1, by omega, by go_num, rfl⟩
        case measure => simp [intOf]; omega
    · have hc9 : c = 9 := by omega
      have hR := HR2.out hc9
      subst hR
      go_wp2
      go_ret2
      exact ⟨rfl, hB⟩

/-- Code of a Fault round the error number c + 1. -/
theorem codeF_at (A : Nat → Addr) (pb po : Nat) (at0 : Int) (c : Nat) (w : World) (hE : Held9 w A) (hc : c < 9) (hf1 : w.cell? ⟨pb, po, none⟩ = some (.int .i64 at0)) (hf2 : w.cell? ⟨pb, po + 1, none⟩ = some (.iface 90 (.pointer (some (A c))))) :
    Calls Tryd.prog 14 #[.iface 51 (.pointer (some ⟨pb, po, none⟩))] w fun e w' => e = .returned (.tuple #[.int .i64 ((c : Int) + 1), .int .i64 at0]) ∧ Below w.heap.size w w' :=
  code_f A pb po at0 (A c) c _ w hE hf1 hf2 (hE.row c hc) (by omega) (fun k hk => hE.ne c k hc (by omega) (by omega)) (fun _ => rfl) (fun _ => rfl) (fun h => by omega)
end Go.Proofs.YtadhpkopkkjmfaaDoor
