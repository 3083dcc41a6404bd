/-
  PLAIN MATHEMATICS of a frame's bytes: 22 of them; what is written is read, and what is read is written.
-/
import Derived.Test.YtkbbjkiinpimiaaDoorK0
namespace Go.Proofs.YtkbbjkiinpimiaaDoor

/-- A frame of numbers. -/
structure FN where
  f : Nat
  t : Nat
  d : Nat
  k : Nat
  a : Nat
  y : Bool
  ph : Nat
  pr : Nat
  pa : Nat
/-- Within its bounds? -/
abbrev FN.ok (F : FN) : Prop := F.f ≤ 6 ∧ F.t ≤ 6 ∧ F.d ≤ 5 ∧ 1 ≤ F.k ∧ F.k ≤ 7 ∧ F.a ≤ 1048576 ∧ F.ph ≤ 5 ∧ F.pr ≤ 1048576 ∧ F.pa ≤ 1048576
def FN.zero : FN := ⟨0, 0, 0, 0, 0, false, 0, 0, 0⟩
def fieldsL (F : FN) : List UInt8 := wideL F.f 1 ++ (wideL F.t 1 ++ (wideL F.d 1 ++ (wideL F.k 1 ++ (wideL F.a 4 ++ (wideL F.y.toNat 1 ++ (wideL F.ph 1 ++ (wideL F.pr 4 ++ wideL F.pa 4)))))))
theorem fieldsL_length (F : FN) : (fieldsL F).length = 18 := by simp [fieldsL, wideL_length]
def frameL (F : FN) : List UInt8 := fieldsL F ++ lowL (crcL (fieldsL F))
theorem frameL_length (F : FN) : (frameL F).length = 22 := by simp [frameL, fieldsL_length, lowL_length]
def segL (l : List UInt8) (o a : Nat) : List UInt8 := (l.drop o).take a
theorem segL_len (l : List UInt8) (o a : Nat) (h : o + a ≤ l.length) : (segL l o a).length = a := by simp [segL]; omega
def readF (l : List UInt8) : FN := ⟨numL (segL l 0 1), numL (segL l 1 1), numL (segL l 2 1), numL (segL l 3 1), numL (segL l 4 4), numL (segL l 8 1) == 1, numL (segL l 9 1), numL (segL l 10 4), numL (segL l 14 4)⟩
/-- What any bytes are answered: an error's number. -/
def codeF (l : List UInt8) : Nat := if l.length ≠ 22 then 1 else if lowL (crcL (l.take 18)) ≠ l.drop 18 then 7 else if 1 < numL (segL l 8 1) then 1 else if (readF l).ok then 0 else 2
theorem seg_step {l A r : List UInt8} {o a : Nat} (h : l.drop o = A ++ r) (hA : A.length = a) : segL l o a = A ∧ l.drop (o + a) = r := by
  constructor
  · rw [segL, h, take_app hA]
  · rw [← List.drop_drop, h, drop_app hA]
theorem seg_join (l : List UInt8) (o a : Nat) : segL l o a ++ l.drop (o + a) = l.drop o := by rw [segL, ← List.drop_drop, List.take_append_drop]
theorem num_w1 {n : Nat} (h : n < 256) : numL (wideL n 1) = n := by rw [numL_wide]; omega
theorem num_w4 {n : Nat} (h : n ≤ 1048576) : numL (wideL n 4) = n := by rw [numL_wide]; omega
theorem segs_frame (F : FN) : segL (frameL F) 0 1 = wideL F.f 1 ∧ segL (frameL F) 1 1 = wideL F.t 1 ∧ segL (frameL F) 2 1 = wideL F.d 1 ∧ segL (frameL F) 3 1 = wideL F.k 1 ∧ segL (frameL F) 4 4 = wideL F.a 4 ∧
    segL (frameL F) 8 1 = wideL F.y.toNat 1 ∧ segL (frameL F) 9 1 = wideL F.ph 1 ∧ segL (frameL F) 10 4 = wideL F.pr 4 ∧ segL (frameL F) 14 4 = wideL F.pa 4 := by
  have h0 : (frameL F).drop 0 = wideL F.f 1 ++ (wideL F.t 1 ++ (wideL F.d 1 ++ (wideL F.k 1 ++ (wideL F.a 4 ++ (wideL F.y.toNat 1 ++ (wideL F.ph 1 ++ (wideL F.pr 4 ++ (wideL F.pa 4 ++ lowL (crcL (fieldsL F)))))))))) := by
    rw [List.drop_zero, frameL]
    conv => lhs; arg 1; unfold fieldsL
    simp only [List.append_assoc]
  obtain ⟨s0, h1⟩ := seg_step h0 (wideL_length 1 _)
  obtain ⟨s1, h2⟩ := seg_step h1 (wideL_length 1 _)
  obtain ⟨s2, h3⟩ := seg_step h2 (wideL_length 1 _)
  obtain ⟨s3, h4⟩ := seg_step h3 (wideL_length 1 _)
  obtain ⟨s4, h5⟩ := seg_step h4 (wideL_length 4 _)
  obtain ⟨s5, h6⟩ := seg_step h5 (wideL_length 1 _)
  obtain ⟨s6, h7⟩ := seg_step h6 (wideL_length 1 _)
  obtain ⟨s7, h8⟩ := seg_step h7 (wideL_length 4 _)
  obtain ⟨s8, _⟩ := seg_step h8 (wideL_length 4 _)
  exact ⟨s0, s1, s2, s3, s4, s5, s6, s7, s8⟩
theorem toNat_is (y : Bool) : (y.toNat == 1) = y := by cases y <;> rfl
/-- What is written is read. -/
theorem read_frame (F : FN) (h : F.ok) : readF (frameL F) = F ∧ numL (segL (frameL F) 8 1) = F.y.toNat := by
  obtain ⟨s0, s1, s2, s3, s4, s5, s6, s7, s8⟩ := segs_frame F
  obtain ⟨b0, b1, b2, b3, b4, b5, b6, b7, b8⟩ := h
  have hy := Bool.toNat_le F.y
  have e5 : numL (segL (frameL F) 8 1) = F.y.toNat := by rw [s5, num_w1 (by omega)]
  refine ⟨?_, e5⟩
  rw [readF, e5, s0, s1, s2, s3, s4, s6, s7, s8, num_w1 (by omega), num_w1 (by omega), num_w1 (by omega), num_w1 (by omega), num_w4 b5, num_w1 (by omega), num_w4 b7, num_w4 b8, toNat_is]
theorem frame_parts (F : FN) : (frameL F).take 18 = fieldsL F ∧ (frameL F).drop 18 = lowL (crcL (fieldsL F)) := ⟨take_app (fieldsL_length F), drop_app (fieldsL_length F)⟩
theorem frame_well (F : FN) : wellL (frameL F) := by rw [wellL, (frame_parts F).1, (frame_parts F).2]
theorem code_frame (F : FN) (h : F.ok) : codeF (frameL F) = 0 := by
  have hy := Bool.toNat_le F.y
  rw [codeF, if_neg (by rw [frameL_length]; simp), if_neg (by rw [(frame_parts F).1, (frame_parts F).2]; simp), if_neg (by rw [(read_frame F h).2]; omega), (read_frame F h).1, if_pos h]
theorem wide_seg (l : List UInt8) (o a : Nat) (h : o + a ≤ l.length) : wideL (numL (segL l o a)) a = segL l o a := by
  have := wide_numL (segL l o a)
  rwa [segL_len l o a h] at this
/-- What is read well is written as it was. -/
theorem frame_read (l : List UInt8) (h : codeF l = 0) : frameL (readF l) = l ∧ (readF l).ok ∧ l.length = 22 := by
  unfold codeF at h
  split at h
  · cases h
  · rename_i hl
    have hl' : l.length = 22 := Classical.not_not.1 hl
    split at h
    · cases h
    · rename_i hw
      have hw' := Classical.not_not.1 hw
      split at h
      · cases h
      · rename_i hy
        split at h
        · rename_i hok
          have ey : wideL (readF l).y.toNat 1 = segL l 8 1 := by
            rw [← wide_seg l 8 1 (by omega)]
            congr 1
            show (numL (segL l 8 1) == 1).toNat = _
            rcases (show numL (segL l 8 1) = 0 ∨ numL (segL l 8 1) = 1 by omega) with e | e <;> rw [e] <;> rfl
          have ef : fieldsL (readF l) = l.take 18 := by
            unfold fieldsL
            rw [ey]
            show wideL (numL (segL l 0 1)) 1 ++ (wideL (numL (segL l 1 1)) 1 ++ (wideL (numL (segL l 2 1)) 1 ++ (wideL (numL (segL l 3 1)) 1 ++ (wideL (numL (segL l 4 4)) 4 ++ (segL l 8 1 ++ (wideL (numL (segL l 9 1)) 1 ++ (wideL (numL (segL l 10 4)) 4 ++ wideL (numL (segL l 14 4)) 4))))))) = _
            rw [wide_seg l 0 1 (by omega), wide_seg l 1 1 (by omega), wide_seg l 2 1 (by omega), wide_seg l 3 1 (by omega), wide_seg l 4 4 (by omega), wide_seg l 9 1 (by omega), wide_seg l 10 4 (by omega), wide_seg l 14 4 (by omega)]
            apply List.append_cancel_right (bs := l.drop 18)
            rw [List.take_append_drop]
            simp only [List.append_assoc]
            rw [seg_join l 14 4, seg_join l 10 4, seg_join l 9 1, seg_join l 8 1, seg_join l 4 4, seg_join l 3 1, seg_join l 2 1, seg_join l 1 1, seg_join l 0 1, List.drop_zero]
          refine ⟨?_, hok, hl'⟩
          rw [frameL, ef, hw', List.take_append_drop]
        · cases h
end Go.Proofs.YtkbbjkiinpimiaaDoor
