/-
  WALKS of the laws of package wire: framed.
-/
import Derived.Test.YtkbbjkiinpimiaaDoorKF
import Derived.Laws.StructEq
namespace Go.Proofs.YtkbbjkiinpimiaaDoor
open Go.RowKit

theorem decode_enc (A : Nat → Addr) (F : FN) (s : ByteArray) (w : World) (hE : Held9 w A) (h : F.ok) (hs : bA (frameL F) = s) :
    Calls Tryd.prog 58 #[.string s] w fun e w' => e = .returned (.tuple #[F.val, .nilIface]) ∧ Below w.heap.size w w' := by
  have := decode_any A s w hE
  rw [← hs, bA_list, code_frame F h] at this
  have e : decF (frameL F) = F := by rw [decF, code_frame F h, if_pos rfl]; exact (read_frame F h).1
  rw [e] at this
  rw [← hs]
  exact this
def F1 : FN := ⟨1, 2, 0, 2, 0, true, 0, 0, 0⟩
theorem F1_ok : F1.ok := by decide
theorem enc1 (A : Nat → Addr) (s : ByteArray) (w : World) (hE : Held9 w A) (hs : bA (frameL F1) = s) :
    Calls Tryd.prog 55 #[.agg #[.int .i64 1, .int .i64 2, .int .i64 0, .int .i64 2, .int .i64 0, .bool true, .int .i64 0, .int .i64 0, .int .i64 0]] w fun e w' => e = .returned (.tuple #[.string s, .nilIface]) ∧ Below w.heap.size w w' := by
  rw [← hs]; exact encode_ok A 1 2 0 2 0 true 0 0 0 w hE F1_ok
theorem dec1 (A : Nat → Addr) (s : ByteArray) (w : World) (hE : Held9 w A) (hs : bA (frameL F1) = s) :
    Calls Tryd.prog 58 #[.string s] w fun e w' => e = .returned (.tuple #[.agg #[.int .i64 1, .int .i64 2, .int .i64 0, .int .i64 2, .int .i64 0, .bool true, .int .i64 0, .int .i64 0, .int .i64 0], .nilIface]) ∧ Below w.heap.size w w' :=
  decode_enc A F1 s w hE F1_ok hs
theorem chk1 (A : Nat → Addr) (w : World) (hE : Held9 w A) :
    Calls Tryd.prog 57 #[.agg #[.int .i64 1, .int .i64 2, .int .i64 0, .int .i64 2, .int .i64 0, .bool true, .int .i64 0, .int .i64 0, .int .i64 0]] w fun e w' => e = .returned .nilIface ∧ Below w.heap.size w w' :=
  wcheck_is A 1 2 0 2 0 true 0 0 0 0 w hE (by decide)
set_option maxHeartbeats 2000000 in
set_option maxRecDepth 100000 in
theorem framed_any (A : Nat → Addr) (w : World) (hE : Held9 w A) : Calls Tryd.prog 54 #[] w fun e w' => e = .returned (.bool true) ∧ Below w.heap.size w w' := by
  obtain ⟨s, HS⟩ : ∃ s, Hid (bA (frameL F1) = s) := ⟨_, rfl⟩
  have hsz : s.size = 22 := by rw [← HS.out, bA_size, frameL_length]
  obtain ⟨W, HW⟩ : ∃ W, Hid (w.alloc (.cells #[.int .i64 1, .int .i64 2, .int .i64 0, .int .i64 2, .int .i64 0, .bool true, .int .i64 0, .int .i64 0, .int .i64 0] 88) = W) := ⟨_, rfl⟩
  have HB : Hid (Below w.heap.size w W) := by rw [← HW.out]; exact (Below.refl _ _).alloc (Nat.le_refl _) _
  have HR : Hid (W.heap[w.heap.size]? = some (.cells #[.int .i64 1, .int .i64 2, .int .i64 0, .int .i64 2, .int .i64 0, .bool true, .int .i64 0, .int .i64 0, .int .i64 0] 88 (0, 0))) := by rw [← HW.out]; exact heap_alloc_new w _
  have HE := hid hE
  clear hE
  go_enter Tryd.func54, Tryd.ntmps54
  go_wp2_with fail
  rw [HW.out]
  refine (enc1 A s W (HE.out.later HB.out) HS.out).mono ?_
  rintro e w1 ⟨rfl, hb1⟩
  have HB1 := hid (HB.out.trans (hb1.mono HB.out.size))
  have HL1 := hid hb1
  clear hb1
  go_wp2_with fail
  refine (dec1 A s w1 (HE.out.later HB1.out) HS.out).mono ?_
  rintro e w2 ⟨rfl, hb2⟩
  have HB2 := hid (HB1.out.trans (hb2.mono HB1.out.size))
  have HL2 := hid (HL1.out.trans (hb2.mono HL1.out.size))
  clear hb2
  have HR2 := hid ((HL2.out.block _ (row_ltJ HR.out)).trans HR.out)
  obtain ⟨q0, q1, q2, q3, q4, q5, q6, q7, q8⟩ := nine (f := 1) (t := 2) (d := 0) (k := 2) (a := 0) (y := true) (ph := 0) (pr := 0) (pa := 0) HR2.out
  have hlt := row_ltJ HR2.out
  have HB3 : Hid (Below w.heap.size w (w2.alloc (.cells #[.int .i64 1, .int .i64 2, .int .i64 0, .int .i64 2, .int .i64 0, .bool true, .int .i64 0, .int .i64 0, .int .i64 0] 88))) := HB2.out.alloc HB2.out.size _
  go_wp2_with fail
  refine (chk1 A _ (HE.out.later HB3.out)).mono ?_
  rintro e w3 ⟨rfl, hb3⟩
  have HB4 := hid (HB3.out.trans (hb3.mono HB3.out.size))
  clear hb3
  go_wp2_with fail
  go_ret
  exact ⟨rfl, HB4.out⟩
end Go.Proofs.YtkbbjkiinpimiaaDoor
