/-
  WALKS of package wire: reader and the closure that it hands back.
-/
import Derived.Test.YtkbbjkiinpimiaaDoorKC
import Derived.Test.YtkbbjkiinpimiaaDoorRC
import Derived.Lib.ConvBytes
import Derived.Laws.EntriesVeiled
namespace Go.Proofs.YtkbbjkiinpimiaaDoor
open Go.RowKit

/-- '[]byte(s)' of a text: a new row, drawn wide enough. -/
theorem conv_bytes (w : World) (s : ByteArray) : ∃ cap W, (convert 9 54 (.string s)).run Tryd.prog w = .ok (.slice (some ⟨w.heap.size, 0, none⟩) s.size cap) W ∧ Below w.heap.size w W ∧ W.heap.size = w.heap.size + 1 ∧ BytesAt W w.heap.size 0 s.data.toList ∧ ∃ cs n, W.heap[w.heap.size]? = some (.cells cs 5 (n, n + 1)) ∧ s.size ≤ n ∧ n = cs.size := by
  refine ⟨_, _, Lib.run_convert_string_bytes (P := Tryd.prog) w 9 54 5 s Tryd.underlying9 Tryd.underlying54 Tryd.underlying5, ?_, Lib.bytesWorld_size _ _ _, ?_, _, _, Lib.bytesWorld_at_new _ _ _, ?_, rfl⟩
  · exact ⟨rfl, rfl, rfl, by rw [Lib.bytesWorld_size]; omega, fun k hk => Lib.bytesWorld_at_old _ _ _ k hk⟩
  · intro j hj
    rw [Nat.zero_add, Lib.bytesWorld_cell w 5 s j hj, List.getD_eq_getElem?_getD, List.getElem?_eq_getElem hj]
    rfl
  · simp [Lib.bytesCells]
/-- What the reader keeps: the text, and where it goes on. -/
structure RdR (w : World) (b : Nat) (s : ByteArray) (o : Nat) : Prop where
  c0 : w.heap[b]? = some (.cells #[.string s] 9 (0, 0))
  c1 : w.heap[b + 1]? = some (.cells #[.int .i64 (o : Int)] 3 (0, 0))
theorem ofInt_nat64 (a : Nat) (ha : a < 9223372036854775808) : (BitVec.ofInt 64 (a : Int)).toNat = a := by
  rw [BitVec.ofInt_natCast, BitVec.toNat_ofNat]; exact Nat.mod_eq_of_lt (by omega)
theorem or64 (a b : Nat) (ha : a < 9223372036854775808) (hb : b < 9223372036854775808) : bits .or .i64 (a : Int) (b : Int) = ((a ||| b : Nat) : Int) := by
  have hx : a ||| b < 2 ^ 63 := Nat.or_lt_two_pow (by omega) (by omega)
  show IntKind.i64.wrap ((BitVec.ofInt 64 (a : Int) ||| BitVec.ofInt 64 (b : Int)).toNat : Int) = _
  rw [BitVec.toNat_or, ofInt_nat64 a ha, ofInt_nat64 b hb, IntKind.wrap_i64]
  omega
theorem shl8_or (a b : Nat) (ha : a < 4294967296) (hb : b < 256) : bits .or .i64 ((a : Int) * 256) (b : Int) = ((256 * a + b : Nat) : Int) := by
  have h := or64 (a * 256) b (by omega) (by omega)
  rw [or8 a b hb] at h
  rw [show ((a : Int) * 256) = ((a * 256 : Nat) : Int) by omega, h, Nat.mul_comm]
theorem seg_take (s : ByteArray) (o n : Nat) : (s.extract o (o + n)).data.toList = segL s.data.toList o n := by rw [ext_list, segL, Nat.add_sub_cancel_left]

set_option maxHeartbeats 1000000 in
set_option maxRecDepth 100000 in
theorem next_is (b : Nat) (s : ByteArray) (o n v : Nat) (w : World) (h : RdR w b s o) (hs : s.size ≤ 1000) (hn : n ≤ 4) (ho : o + n ≤ s.size) (hv : numL (segL s.data.toList o n) = v) :
    Calls Tryd.prog 103 #[.int .i64 (n : Int), .pointer (some ⟨b, 0, none⟩), .pointer (some ⟨b + 1, 0, none⟩)] w fun e w' => e = .returned (.int .i64 (v : Int)) ∧ RdR w' b s (o + n) ∧ Kept (In1 (b + 1)) w w' := by
  have p0 : w.cell? ⟨b, 0, none⟩ = some (.string s) := by rw [cell_of_row _ _ _ _ _ _ h.c0]; rfl
  have p1 : w.cell? ⟨b + 1, 0, none⟩ = some (.int .i64 (o : Int)) := by rw [cell_of_row _ _ _ _ _ _ h.c1]; rfl
  have hsl := slice_mid s o (o + n) (o : Int) ((o : Int) + (n : Int)) rfl (by omega) (by omega) (by omega)
  obtain ⟨t, Ht⟩ : ∃ t, Hid (s.extract o (o + n) = t) := ⟨_, rfl⟩
  rw [Ht.out] at hsl
  have HTL : Hid (t.data.toList = segL s.data.toList o n) := by rw [← Ht.out]; exact seg_take s o n
  have hts : t.size = n := by rw [size_list, HTL.out, segL_len _ _ _ (by rw [← size_list]; exact ho)]
  obtain ⟨cap, W, hcv, hbW, hsW, hBy, -⟩ := conv_bytes w t
  have HBy := hid hBy
  have HBW := hid hbW
  have HH := hid h
  have r0 : W.heap[b]? = some (.cells #[.string s] 9 (0, 0)) := (hbW.block _ (row_ltJ h.c0)).trans h.c0
  have r1 : W.heap[b + 1]? = some (.cells #[.int .i64 (o : Int)] 3 (0, 0)) := (hbW.block _ (row_ltJ h.c1)).trans h.c1
  have R0 := hid r0
  have R1 := hid r1
  have x1 : W.cell? ⟨b + 1, 0, none⟩ = some (.int .i64 (o : Int)) := by rw [cell_of_row _ _ _ _ _ _ r1]; rfl
  have f1 := frozen_of_row W (b + 1) 0 _ _ r1
  have HV : Hid (numL (t.data.toList.take n) = v) := by
    unfold Hid; rw [← hv, HTL.out, List.take_of_length_le (by rw [segL_len _ _ _ (by rw [← size_list]; exact ho)]; exact Nat.le_refl _)]
  rw [hts] at hcv
  clear h hbW hBy r0 r1 hv
  go_enter Tryd.func103, Tryd.ntmps103
  go_wp2_with fail
  go_loop [5, 16] (fun x i => ∃ k : Nat, k ≤ n ∧ i = .int .i64 (k : Int) ∧ x = .int .i64 (numL (t.data.toList.take k) : Nat)) (fun _ i => n - (intOf i).toNat)
  case atStart => exact ⟨0, Nat.zero_le _, rfl, rfl⟩
  case round =>
    obtain ⟨k, hk, rfl, rfl⟩ := hrel
    by_cases hlt : k < n
    · have hkt : k < t.data.toList.length := by rw [← size_list]; omega
      have cx := HBy.out k hkt
      rw [Nat.zero_add] at cx
      have hb := UInt8.toNat_lt (t.data.toList[k]'hkt)
      have HS : Hid (numL (t.data.toList.take (k + 1)) = 256 * numL (t.data.toList.take k) + (t.data.toList[k]'hkt).toNat) := by
        unfold Hid
        have e := num_step t.data.toList 0 k (by omega)
        simpa using e
      have hnl : numL (t.data.toList.take k) < 4294967296 := by
        have e := num_lt t.data.toList 0 k (by omega)
        simpa using e
      generalize (t.data.toList[k]'hkt).toNat = x at cx hb HS
      generalize numL (t.data.toList.take k) = c at hnl HS ⊢
      have hor := shl8_or c x hnl hb
      go_wp2_with fail
      go_round
      case rel => exact ⟨k + 1, by omega, by go_num, val_int (by rw [HS.out]; omega)⟩
      case measure => simp [intOf]; omega
    · obtain rfl : k = n := by omega
      rw [HV.out]
      go_wp2_with fail
      go_ret
      refine ⟨rfl, ⟨?_, ?_⟩, ?_⟩
      · exact (Below.heap_setCell _ _ _ _ (by show b ≠ b + 1; omega)).trans R0.out
      · have := heap_setCell_same W (b + 1) 0 _ _ (.int .i64 ((o : Int) + (k : Int))) R1.out
        simpa using this
      · exact (Kept.of_below HBW.out).set1 0 _
theorem reader_any (s : ByteArray) (w : World) :
    Calls Tryd.prog 88 #[.string s] w fun e w' => e = .returned (.func (.func 103) #[] #[.pointer (some ⟨w.heap.size, 0, none⟩), .pointer (some ⟨w.heap.size + 1, 0, none⟩)]) ∧ RdR w' w.heap.size s 0 ∧ Below w.heap.size w w' ∧ w'.heap.size = w.heap.size + 2 := by
  go_enter Tryd.func88, Tryd.ntmps88
  go_wp2_with fail
  go_ret
  refine ⟨rfl, ⟨?_, ?_⟩, ?_, ?_⟩
  · exact (Below.heap_alloc _ _ _ (by simp)).trans (heap_alloc_new w _)
  · have := heap_alloc_new (w.alloc (.cells #[.string s] 9)) (.cells #[.int .i64 0] 3)
    simpa using this
  · exact ((Below.refl _ _).alloc (Nat.le_refl _) _).alloc (by simp) _
  · simp
end Go.Proofs.YtkbbjkiinpimiaaDoor
