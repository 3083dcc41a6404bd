/-
  PLAIN: what the three writes of a slot leave: done, or torn with power off.
-/
import Derived.Test.YtkbbjkiinpimiaaDoorJK
namespace Go.Proofs.YtkbbjkiinpimiaaDoor

theorem wL_on (B s : ByteArray) (l a : Int) (h : wC B s l a = 0) : wL B s l a ≠ -2 := by
  unfold wC at h
  unfold wL
  split at h
  · cases h
  · rename_i hb
    rw [if_neg hb]
    split at h
    · cases h
    · rename_i hl
      rw [if_neg hl]
      split at h
      · cases h
      · rename_i hn
        rw [if_neg hn]
        split <;> omega
theorem wFree (B s : ByteArray) (a : Nat) (h : a + s.size ≤ B.size) : wC B s (-1) a = 0 ∧ wL B s (-1) a = -1 := by
  have hb : ¬ wBad B s a := by unfold wBad; omega
  unfold wC wL
  have h1 : ¬ ((-1 : Int) = -2) := by decide
  have h2 : ¬ (0 ≤ (-1 : Int) ∧ (-1 : Int) < s.size) := by omega
  rw [if_neg hb, if_neg hb, if_neg h1, if_neg h1, if_neg h2, if_neg h2, if_pos (by decide)]
  exact ⟨rfl, rfl⟩
section
variable {B : ByteArray} {l : Int} {k n : Nat} {s : St}
theorem fill1_out (hB : 18 * (k + 1) ≤ B.size) : ((fill1 B l k).c = 0 ∧ Zeroed B.data.toList k (fill1 B l k).b.data.toList ∧ (fill1 B l k).l ≠ -2) ∨ ((fill1 B l k).c = 6 ∧ Torn B.data.toList k (fill1 B l k).b.data.toList ∧ (fill1 B l k).l = -2) := by
  unfold fill1
  by_cases hl : l = -2
  · rw [if_pos hl]
    exact .inr ⟨rfl, ⟨Only.refl _ _, .inl rfl⟩, hl⟩
  · rw [if_neg hl]
    by_cases hz : B.data.toList[18 * k + 17]? = some 0
    · rw [if_pos hz]
      exact .inl ⟨rfl, zero_skip hz, hl⟩
    · rw [if_neg hz]
      have hw := wr_of B (bA [0]) l (18 * k + 17) (by rw [bA_size]; simp; omega) (by rw [bA_size]; exact Nat.one_pos)
      rw [bA_list] at hw
      rcases zero_wr (by rw [← size_list]; exact hB) hw with ⟨c, z⟩ | ⟨c, t⟩
      · exact .inl ⟨c, z, wL_on _ _ _ _ c⟩
      · exact .inr ⟨c, t, wL_off _ _ _ _ c⟩
theorem fill1_size : (fill1 B l k).b.size = B.size := by
  unfold fill1
  repeat' split
  · rfl
  · rfl
  · exact wB_size _ _ _ _
theorem fill2_size : (fill2 B l k n s).b.size = B.size := by
  unfold fill2
  split
  · exact (wB_size _ _ _ _).trans fill1_size
  · exact fill1_size
theorem fill3_size : (fill3 B l k n s).b.size = B.size := by
  unfold fill3
  split
  · exact (wB_size _ _ _ _).trans fill2_size
  · exact fill2_size
theorem fill2_out (hB : 18 * (k + 1) ≤ B.size) : ((fill2 B l k n s).c = 0 ∧ Bodied B.data.toList k n s (fill2 B l k n s).b.data.toList ∧ (fill2 B l k n s).l ≠ -2) ∨ ((fill2 B l k n s).c = 6 ∧ Torn B.data.toList k (fill2 B l k n s).b.data.toList ∧ (fill2 B l k n s).l = -2) := by
  have hs := fill1_size (B := B) (l := l) (k := k)
  unfold fill2
  rcases fill1_out (l := l) hB with ⟨c, z, ho⟩ | ⟨c, t, ho⟩
  · rw [if_pos c]
    have hw := wr_of (fill1 B l k).b (bA (bodyL n s)) (fill1 B l k).l (18 * k) (by rw [bA_size, bodyL_length, hs]; omega) (by rw [bA_size, bodyL_length]; decide)
    rw [bA_list] at hw
    rcases body_wr (by rw [← size_list]; exact hB) z hw with ⟨c2, z2⟩ | ⟨c2, t2⟩
    · exact .inl ⟨c2, z2, wL_on _ _ _ _ c2⟩
    · exact .inr ⟨c2, t2, wL_off _ _ _ _ c2⟩
  · rw [if_neg (by omega)]
    exact .inr ⟨c, t, ho⟩
/-- Done, with power; or torn, without. -/
theorem fill3_out (hB : 18 * (k + 1) ≤ B.size) : ((fill3 B l k n s).c = 0 ∧ Done B.data.toList k n s (fill3 B l k n s).b.data.toList ∧ (fill3 B l k n s).l ≠ -2) ∨ ((fill3 B l k n s).c = 6 ∧ Torn B.data.toList k (fill3 B l k n s).b.data.toList ∧ (fill3 B l k n s).l = -2) := by
  have hs := fill2_size (B := B) (l := l) (k := k) (n := n) (s := s)
  unfold fill3
  rcases fill2_out (l := l) (n := n) (s := s) hB with ⟨c, z, ho⟩ | ⟨c, t, ho⟩
  · rw [if_pos c]
    have hw := wr_of (fill2 B l k n s).b (bA [165]) (fill2 B l k n s).l (18 * k + 17) (by rw [bA_size, hs]; simp; omega) (by rw [bA_size]; exact Nat.one_pos)
    rw [bA_list] at hw
    rcases last_wr (by rw [← size_list]; exact hB) z hw with ⟨c2, z2⟩ | ⟨c2, t2⟩
    · exact .inl ⟨c2, z2, wL_on _ _ _ _ c2⟩
    · exact .inr ⟨c2, t2, wL_off _ _ _ _ c2⟩
  · rw [if_neg (by omega)]
    exact .inr ⟨c, t, ho⟩
/-- No cut ahead: done. -/
theorem fill3_free (hB : 18 * (k + 1) ≤ B.size) : (fill3 B (-1) k n s).c = 0 ∧ (fill3 B (-1) k n s).l = -1 := by
  have h1 : (fill1 B (-1) k).c = 0 ∧ (fill1 B (-1) k).l = -1 := by
    unfold fill1
    rw [if_neg (by decide)]
    split
    · exact ⟨rfl, rfl⟩
    · exact wFree _ _ (18 * k + 17) (by rw [bA_size]; simp; omega)
  have s1 := fill1_size (B := B) (l := -1) (k := k)
  have h2 : (fill2 B (-1) k n s).c = 0 ∧ (fill2 B (-1) k n s).l = -1 := by
    unfold fill2
    rw [if_pos h1.1, h1.2]
    exact wFree _ _ (18 * k) (by rw [bA_size, bodyL_length, s1]; omega)
  have s2 := fill2_size (B := B) (l := -1) (k := k) (n := n) (s := s)
  unfold fill3
  rw [if_pos h2.1, h2.2]
  exact wFree _ _ (18 * k + 17) (by rw [bA_size, s2]; simp; omega)
end
end Go.Proofs.YtkbbjkiinpimiaaDoor
