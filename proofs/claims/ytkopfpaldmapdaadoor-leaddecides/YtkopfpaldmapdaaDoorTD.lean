/-
  THE WALK of table.Choose.
-/
import Derived.Test.YtkopfpaldmapdaaDoorTB
namespace Go.Proofs.YtkopfpaldmapdaaDoor
open Go.RowKit

theorem greatest_is (pb : Nat) (a : Option Addr) (cap : Nat) (L : List S3) (ph m : Int) (is : Bool) (w : World) (hp : w.cell? ⟨pb, 0, none⟩ = some (.slice a L.length cap)) (hl : L.length ≤ 200) (hL : SL w a L) (h : gr ph L = (m, is)) :
    Calls Tryd.prog 104 #[.int .i64 ph, .pointer (some ⟨pb, 0, none⟩)] w fun e w' => e = .returned (.tuple #[.int .i64 m, .bool is]) ∧ Below w.heap.size w w' := by
  have := greatest_any pb a cap L ph w hp hl hL
  rw [h] at this
  exact this
set_option maxHeartbeats 2000000 in
set_option maxRecDepth 100000 in
theorem choose_any (a : Option Addr) (cap : Nat) (L : List S3) (w : World) (hl : L.length ≤ 200) (hL : SL w a L) :
    Calls Tryd.prog 85 #[.slice a L.length cap] w fun e w' => e = .returned (.tuple #[.int .i64 (chooseL L).1, .bool (chooseL L).2]) ∧ Below w.heap.size w w' := by
  have HL := hid hL
  obtain ⟨⟨cp, cf⟩, HC⟩ : ∃ x, Hid (chooseL L = x) := ⟨_, rfl⟩
  rw [HC.out]
  obtain ⟨⟨m2, i2⟩, H2⟩ : ∃ x, Hid (gr 2 L = x) := ⟨_, rfl⟩
  obtain ⟨⟨m3, i3⟩, H3⟩ : ∃ x, Hid (gr 3 L = x) := ⟨_, rfl⟩
  obtain ⟨⟨m4, i4⟩, H4⟩ : ∃ x, Hid (gr 4 L = x) := ⟨_, rfl⟩
  obtain ⟨⟨m5, i5⟩, H5⟩ : ∃ x, Hid (gr 5 L = x) := ⟨_, rfl⟩
  have HD : Hid ((if i2 = true then ((2 : Int), true) else if i3 = true then (3, true) else if i4 = true ∧ (i5 = false ∨ m5 ≤ m4) then (4, false) else (5, false)) = (cp, cf)) := by
    unfold Hid; rw [← HC.out]; unfold chooseL; rw [H2.out, H3.out, H4.out, H5.out]
  clear hL HC
  have hmf : ∀ (fn : Fn) (first cap : Array Value) (w : World), (Instr.makeFunc fn first cap).run Tryd.prog w = .ok (.func fn first cap) w := fun _ _ _ _ => rfl
  go_enter Tryd.func85, Tryd.ntmps85
  go_wp2_with fail
  go_loopw [16] (fun i wr => ∃ k : Nat, k ≤ 2 ∧ i = .int .i64 (k : Int) ∧ (0 < k → i2 = false) ∧ (1 < k → i3 = false) ∧ Below w.heap.size w wr ∧ wr.cell? ⟨w.heap.size, 0, none⟩ = some (.slice a L.length cap) ∧ wr.cell? ⟨w.heap.size + 1, 0, none⟩ = some (.int .i64 2) ∧ wr.cell? ⟨w.heap.size + 1, 1, none⟩ = some (.int .i64 3)) (fun i _ => 2 - (intOf i).toNat)
  case atStart =>
    refine ⟨0, by omega, rfl, by omega, by omega, ((Below.refl _ _).alloc (Nat.le_refl _) _).alloc (by simp) _, ?_, ?_, ?_⟩
    · exact cell_alloc _ (by simp)
    · rw [World.cell?_alloc_at _ _ _ _ (by simp)]; rfl
    · rw [World.cell?_alloc_at _ _ _ _ (by simp)]; rfl
  case round =>
    obtain ⟨k, hk, rfl, hk1, hk2, hb, c0, c1, c2⟩ := hrel
    have HB := hid hb
    have C0 := hid c0
    have C1 := hid c1
    have C2 := hid c2
    have HLw := hid (HL.out.later hb)
    have hlt0 := cell_lt c0
    have hlt1 := cell_lt c1
    clear hb
    rcases (by omega : k = 0 ∨ k = 1 ∨ k = 2) with rfl | rfl | rfl
    · clear hk1 hk2
      cases i2 with
      | true =>
        obtain ⟨rfl, rfl⟩ : (2 : Int) = cp ∧ true = cf := by simpa using HD.out
        clear HD
        go_wp2_with (go_at_call 104; refine (greatest_is w.heap.size a cap L 2 m2 true _ C0.out hl HLw.out H2.out).mono ?_; rintro e w1 ⟨rfl, hb1⟩)
        go_ret2
        exact ⟨rfl, below_trans HB.out hb1⟩
      | false =>
        go_wp2_with (go_at_call 104; refine (greatest_is w.heap.size a cap L 2 m2 false _ C0.out hl HLw.out H2.out).mono ?_; rintro e w1 ⟨rfl, hb1⟩)
        go_roundw
        case rel => exact ⟨1, by omega, by go_num, (by intros; trivial), by omega, below_trans HB.out hb1, cell_later hb1 C0.out, cell_later hb1 C1.out, cell_later hb1 C2.out⟩
        case measure => simp [intOf]
    · obtain rfl := hk1 (by omega)
      clear hk1 hk2
      cases i3 with
      | true =>
        obtain ⟨rfl, rfl⟩ : (3 : Int) = cp ∧ true = cf := by simpa using HD.out
        clear HD
        go_wp2_with (go_at_call 104; refine (greatest_is w.heap.size a cap L 3 m3 true _ C0.out hl HLw.out H3.out).mono ?_; rintro e w1 ⟨rfl, hb1⟩)
        go_ret2
        exact ⟨rfl, below_trans HB.out hb1⟩
      | false =>
        go_wp2_with (go_at_call 104; refine (greatest_is w.heap.size a cap L 3 m3 false _ C0.out hl HLw.out H3.out).mono ?_; rintro e w1 ⟨rfl, hb1⟩)
        go_roundw
        case rel => exact ⟨2, by omega, by go_num, (by intros; trivial), (by intros; trivial), below_trans HB.out hb1, cell_later hb1 C0.out, cell_later hb1 C1.out, cell_later hb1 C2.out⟩
        case measure => simp [intOf]
    · obtain rfl := hk1 (by omega)
      obtain rfl := hk2 (by omega)
      clear hk1 hk2 c0 c1 c2
      have HD2 : Hid ((if i4 = true ∧ (i5 = false ∨ m5 ≤ m4) then ((4 : Int), false) else (5, false)) = (cp, cf)) := by unfold Hid; simpa using HD.out
      clear HD
      cases i4 with
      | false =>
        obtain ⟨rfl, rfl⟩ : (5 : Int) = cp ∧ false = cf := by simpa using HD2.out
        clear HD2
        go_wp2_with (go_at_call 104; first
          | ((with_reducible refine (greatest_is w.heap.size a cap L 5 m5 i5 _ (cell_later hb1 C0.out) hl (HLw.out.later hb1) H5.out).mono ?_); rintro e w2 ⟨rfl, hb2⟩)
          | ((with_reducible refine (greatest_is w.heap.size a cap L 4 m4 false _ C0.out hl HLw.out H4.out).mono ?_); rintro e w1 ⟨rfl, hb1⟩))
        go_ret2
        exact ⟨rfl, below_trans (below_trans HB.out hb1) hb2⟩
      | true =>
        cases i5 with
        | false =>
          obtain ⟨rfl, rfl⟩ : (4 : Int) = cp ∧ false = cf := by simpa using HD2.out
          clear HD2
          go_wp2_with (go_at_call 104; first
            | ((with_reducible refine (greatest_is w.heap.size a cap L 5 m5 false _ (cell_later hb1 C0.out) hl (HLw.out.later hb1) H5.out).mono ?_); rintro e w2 ⟨rfl, hb2⟩)
            | ((with_reducible refine (greatest_is w.heap.size a cap L 4 m4 true _ C0.out hl HLw.out H4.out).mono ?_); rintro e w1 ⟨rfl, hb1⟩))
          go_ret2
          exact ⟨rfl, below_trans (below_trans HB.out hb1) hb2⟩
        | true =>
          by_cases hm : m5 ≤ m4
          · obtain ⟨rfl, rfl⟩ : (4 : Int) = cp ∧ false = cf := by simpa [hm] using HD2.out
            clear HD2
            go_wp2_with (go_at_call 104; first
              | ((with_reducible refine (greatest_is w.heap.size a cap L 5 m5 true _ (cell_later hb1 C0.out) hl (HLw.out.later hb1) H5.out).mono ?_); rintro e w2 ⟨rfl, hb2⟩)
              | ((with_reducible refine (greatest_is w.heap.size a cap L 4 m4 true _ C0.out hl HLw.out H4.out).mono ?_); rintro e w1 ⟨rfl, hb1⟩))
            go_ret2
            exact ⟨rfl, below_trans (below_trans HB.out hb1) hb2⟩
          · obtain ⟨rfl, rfl⟩ : (5 : Int) = cp ∧ false = cf := by simpa [hm] using HD2.out
            clear HD2
            go_wp2_with (go_at_call 104; first
              | ((with_reducible refine (greatest_is w.heap.size a cap L 5 m5 true _ (cell_later hb1 C0.out) hl (HLw.out.later hb1) H5.out).mono ?_); rintro e w2 ⟨rfl, hb2⟩)
              | ((with_reducible refine (greatest_is w.heap.size a cap L 4 m4 true _ C0.out hl HLw.out H4.out).mono ?_); rintro e w1 ⟨rfl, hb1⟩))
            go_ret2
            exact ⟨rfl, below_trans (below_trans HB.out hb1) hb2⟩
end Go.Proofs.YtkopfpaldmapdaaDoor
