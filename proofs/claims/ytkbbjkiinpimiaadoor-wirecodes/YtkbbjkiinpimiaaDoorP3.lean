/-
  WALKS of package plate: New, From, Bytes, Read.
-/
import Derived.Test.YtkbbjkiinpimiaaDoorP2
namespace Go.Proofs.YtkbbjkiinpimiaaDoor
open Go.RowKit

def zeroB (n : Nat) : ByteArray := ⟨(List.replicate n 0).toArray⟩
theorem zeroB_size (n : Nat) : (zeroB n).size = n := by rw [size_list]; simp [zeroB]
theorem Tryd.infoB : (Tryd.prog.info? 5).map (fun i => (i.zero, i.size, i.bytes)) = some (some (.int .u8 0), 1, 1) := by kernel_rfl
theorem made_zero (n : Nat) : madeCells (Value.int .u8 0).cells n = cellsB (zeroB n) := by
  apply Array.ext'
  rw [show (Value.int .u8 0).cells = #[.int .u8 0] from rfl, toList_madeCells_one]
  simp [cellsB, Lib.strCells, zeroB]
theorem mkB (n : Nat) (h : n ≤ 1000) (w : World) : (Instr.makeSlice 54 (.int .i64 n) (.int .i64 n)).run Tryd.prog w = .ok (.slice (some ⟨w.heap.size, 0, none⟩) n n) (w.alloc (.cells (cellsB (zeroB n)) 5)) := by
  obtain ⟨i0, hi, hz0, hz1, hz2⟩ := info_parts Tryd.infoB
  have hr := run_make (P := Tryd.prog) w 54 5 i0 _ Tryd.underlying54 hi hz0 .i64 .i64 n n (by omega) (Int.le_refl _) (by rw [hz2]; omega) (by omega)
  simp only [Int.toNat_natCast, hz1, Nat.mul_one, made_zero] at hr
  exact hr

theorem pnew_bound (A : Nat → Addr) (n : Int) (w : World) (hE : HeldE w A) (h : n < 0 ∨ 512 < n) :
    Calls Tryd.prog 33 #[.int .i64 n] w fun e w' => e = .returned (.tuple #[.pointer none, .iface 107 (.pointer (some (A 1)))]) ∧ Below w.heap.size w w' := by
  have g1 := hE.g1
  clear hE
  by_cases h1 : n < 0
  · clear h
    go_enter Tryd.func33, Tryd.ntmps33
    go_wp2
    go_quiet (fail)
    go_wp2
    go_ret2
    exact ⟨rfl, below_drewN (Below.refl _ _) _⟩
  · have h2 : 512 < n := by omega
    clear h
    go_enter Tryd.func33, Tryd.ntmps33
    go_wp2
    go_quiet (fail)
    go_wp2
    go_ret2
    exact ⟨rfl, below_drewN (Below.refl _ _) _⟩
theorem pl_new (w : World) (n : Nat) : Pl ((w.alloc (.cells (cellsB (zeroB n)) 5)).alloc (.cells #[.slice (some ⟨w.heap.size, 0, none⟩) n n, .int .i64 (-1)] 117)) (w.heap.size + 1) w.heap.size (zeroB n) (-1) :=
  ⟨by omega, by rw [heap_alloc2_new, zeroB_size], heap_alloc2_old w _ _⟩
theorem pnew_ok (n : Nat) (w : World) (h : n ≤ 512) :
    Calls Tryd.prog 33 #[.int .i64 n] w fun e w' => e = .returned (.tuple #[.pointer (some ⟨w.heap.size + 1, 0, none⟩), .nilIface]) ∧ Pl w' (w.heap.size + 1) w.heap.size (zeroB n) (-1) ∧ Below w.heap.size w w' ∧ w'.heap.size = w.heap.size + 2 := by
  have hmk := mkB n (by omega)
  have H := hid (pl_new w n)
  go_enter Tryd.func33, Tryd.ntmps33
  go_wp2
  go_ret2
  exact ⟨rfl, H.out, ((Below.refl _ _).alloc (Nat.le_refl _) _).alloc (by simp) _, by simp⟩
end Go.Proofs.YtkbbjkiinpimiaaDoor
