/-
  PLAIN MATHEMATICS, no Go text: weights that are all so many times as great have the same quorums; one more site without weight makes no difference.
-/
import Derived.Test.YtkopfpaldmapdaaDoorPlain2
namespace Go.Proofs.YtkopfpaldmapdaaDoor
open Go.RowKit

def mulL (t : Int) (zs : List Int) : List Int := zs.map (t * ·)
theorem mulL_length (t : Int) (zs : List Int) : (mulL t zs).length = zs.length := by simp [mulL]
theorem mulL_getD (t : Int) (zs : List Int) (k : Nat) : (mulL t zs).getD k 0 = t * zs.getD k 0 := by
  simp only [mulL, List.getD_eq_getElem?_getD, List.getElem?_map]
  cases zs[k]? <;> simp
theorem mulL_take_succ (t : Int) (zs : List Int) (k : Nat) (h : k < zs.length) : mulL t (zs.take (k + 1)) = mulL t (zs.take k) ++ [t * zs.getD k 0] := by
  rw [List.take_succ_eq_append_getElem h, getD_lt zs k h]; unfold mulL; rw [List.map_append]; rfl
theorem psum_mul (t : Int) (zs : List Int) : ∀ k, psum (mulL t zs) k = t * psum zs k
  | 0 => by simp [psum]
  | k + 1 => by simp only [psum]; rw [psum_mul t zs k, mulL_getD, Int.mul_add]
theorem sumTo_mul (t : Int) (zs : List Int) (s : Int) : ∀ k, sumTo (mulL t zs) s k = t * sumTo zs s k
  | 0 => by simp [sumTo]
  | k + 1 => by simp only [sumTo]; rw [sumTo_mul t zs s k, mulL_getD, Int.mul_add]; cases bit s k <;> simp
theorem errS_mul {zs : List Int} {t s : Int} (ht : 1 ≤ t) (h : errS zs s = 0) (hb : ∀ i, i < zs.length → zs.getD i 0 ≤ 1000 / t) : errS (mulL t zs) s = 0 := by
  obtain ⟨h1, h2, h3⟩ := errS_zero h
  obtain ⟨g1, g2, g3, g4⟩ := errW_zero h1
  refine errS_mk ?_ h2 (by rw [mulL_length]; exact h3)
  rw [errW_ok (by rw [mulL_length]; omega), if_neg]
  · unfold tot; rw [mulL_length, psum_mul]
    unfold tot at g4
    intro e
    rcases Int.mul_eq_zero.1 e with e | e
    · omega
    · exact g4 e
  · intro i hi
    rw [mulL_length] at hi
    rw [mulL_getD]
    have := g3 i hi
    have hq := hb i hi
    constructor
    · exact Int.mul_nonneg (by omega) this.1
    · have h5 : t * zs.getD i 0 ≤ t * (1000 / t) := Int.mul_le_mul_of_nonneg_left hq (by omega)
      have h6 : t * (1000 / t) ≤ 1000 := Int.mul_ediv_self_le (by omega)
      omega
theorem enoughB_mul {zs : List Int} {t : Int} (ht : 1 ≤ t) (s : Int) : enoughB (mulL t zs) s = enoughB zs s := by
  unfold enoughB tot
  rw [mulL_length, psum_mul, sumTo_mul]
  have e : 2 * (t * sumTo zs s zs.length) = t * (2 * sumTo zs s zs.length) := by rw [← Int.mul_assoc, Int.mul_comm 2 t, Int.mul_assoc]
  rw [e]
  exact decide_eq_decide.2 (Int.mul_lt_mul_left (by omega))
theorem getD_snoc (zs : List Int) (k : Nat) : (zs ++ [0]).getD k 0 = zs.getD k 0 := by
  simp only [List.getD_eq_getElem?_getD]
  rcases Nat.lt_trichotomy k zs.length with h | h | h
  · rw [List.getElem?_append_left h]
  · subst h; simp
  · rw [List.getElem?_eq_none (by simp; omega), List.getElem?_eq_none (by omega)]
theorem psum_snoc (zs : List Int) : ∀ k, psum (zs ++ [0]) k = psum zs k
  | 0 => rfl
  | k + 1 => by simp only [psum]; rw [psum_snoc zs k, getD_snoc]
theorem sumTo_snoc (zs : List Int) (s : Int) : ∀ k, sumTo (zs ++ [0]) s k = sumTo zs s k
  | 0 => rfl
  | k + 1 => by simp only [sumTo]; rw [sumTo_snoc zs s k, getD_snoc]
theorem tot_snoc (zs : List Int) : tot (zs ++ [0]) = tot zs := by
  unfold tot; rw [psum_snoc, List.length_append]; simp [psum]
theorem errS_snoc {zs : List Int} {s : Int} (h : errS zs s = 0) (hl : zs.length ≠ 7) : errS (zs ++ [0]) s = 0 := by
  obtain ⟨h1, h2, h3⟩ := errS_zero h
  obtain ⟨g1, g2, g3, g4⟩ := errW_zero h1
  refine errS_mk ?_ h2 ?_
  · rw [errW_ok (by simp; omega), if_neg (by rw [tot_snoc]; exact g4)]
    intro i hi
    rw [getD_snoc]
    rcases Nat.lt_or_ge i zs.length with h | h
    · exact g3 i h
    · rw [List.getD_eq_getElem?_getD, List.getElem?_eq_none h]; decide
  · rw [List.length_append]
    have e : (2 : Int) ^ (zs.length + [(0 : Int)].length) = 2 * 2 ^ zs.length := by rw [List.length_singleton, Int.pow_succ]; omega
    rw [e]; omega
theorem enoughB_snoc (zs : List Int) (s : Int) : enoughB (zs ++ [0]) s = enoughB zs s := by
  unfold enoughB
  rw [tot_snoc, sumTo_snoc, List.length_append, List.length_singleton]
  have : sumTo zs s (zs.length + 1) = sumTo zs s zs.length := by
    simp only [sumTo]
    rw [List.getD_eq_getElem?_getD, List.getElem?_eq_none (Nat.le_refl _)]; simp
  rw [this]
end Go.Proofs.YtkopfpaldmapdaaDoor
