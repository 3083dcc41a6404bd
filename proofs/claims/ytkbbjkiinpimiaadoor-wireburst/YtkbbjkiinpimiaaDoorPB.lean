/-
  PLAIN MATHEMATICS of bytes: a text laid over another from a place on, as far as so many bytes; its cells.
-/
import Derived.Lib.AppendStr
import Derived.Laws.Strings2
import Derived.Laws.IdiomStrings
namespace Go.Proofs.YtkbbjkiinpimiaaDoor

/-- The first k bytes of s laid over B from place a on. -/
def putB (B : ByteArray) (a : Nat) (s : ByteArray) (k : Nat) : ByteArray := B.extract 0 a ++ s.extract 0 k ++ B.extract (a + k) B.size
theorem ext_list (B : ByteArray) (i j : Nat) : (B.extract i j).data.toList = (B.data.toList.drop i).take (j - i) := by
  have h := ByteArray.extract_mk B.data.toList i j
  have e : ByteArray.mk B.data.toList.toArray = B := by cases B; simp
  rw [e] at h
  rw [h]
theorem size_list (B : ByteArray) : B.size = B.data.toList.length := rfl
theorem putB_list (B : ByteArray) (a : Nat) (s : ByteArray) (k : Nat) : (putB B a s k).data.toList = B.data.toList.take a ++ s.data.toList.take k ++ B.data.toList.drop (a + k) := by
  unfold putB
  rw [ByteArray.data_append, ByteArray.data_append, Array.toList_append, Array.toList_append, ext_list, ext_list, ext_list]
  simp only [List.drop_zero, Nat.sub_zero]
  congr 1
  rw [List.take_of_length_le]
  rw [List.length_drop, size_list]
  exact Nat.le_refl _
theorem size_putB {B : ByteArray} {a : Nat} {s : ByteArray} {k : Nat} (h : a + k ≤ B.size) (hk : k ≤ s.size) : (putB B a s k).size = B.size := by
  rw [size_list] at h hk
  rw [size_list, size_list, putB_list]
  simp only [List.length_append, List.length_take, List.length_drop]
  omega
theorem ba_ext {X Y : ByteArray} (h : X.data.toList = Y.data.toList) : X = Y := ByteArray.ext (Array.ext' h)
theorem putB_zero {B : ByteArray} {a : Nat} {s : ByteArray} : putB B a s 0 = B := by
  apply ba_ext
  rw [putB_list]
  simp
theorem putB_all {B : ByteArray} {s : ByteArray} (h : s.size = B.size) : putB B 0 s s.size = s := by
  apply ba_ext
  rw [putB_list]
  rw [size_list, size_list] at h
  rw [size_list]
  simp only [List.take_zero, List.nil_append, Nat.zero_add, List.take_length]
  rw [h, List.drop_length, List.append_nil]
theorem put_step {α : Type} (L S : List α) (a k : Nat) (d : α) (h : a + k < L.length) (hk : k < S.length) :
    L.take a ++ S.take (k + 1) ++ L.drop (a + (k + 1)) = (L.take a ++ S.take k ++ L.drop (a + k)).set (a + k) (S.getD k d) := by
  apply List.ext_getElem?
  intro j
  simp only [List.getElem?_set, List.getElem?_append, List.length_append, List.length_take, List.getElem?_take, List.getElem?_drop, List.length_drop]
  have e1 : min a L.length = a := by omega
  have e2 : min (k + 1) S.length = k + 1 := by omega
  have e3 : min k S.length = k := by omega
  simp only [e1, e2, e3]
  rcases Nat.lt_trichotomy j (a + k) with h1 | h1 | h1
  · by_cases h2 : j < a
    · simp [h2, show j < a + (k + 1) by omega, show ¬ a + k = j by omega, show j < a + k by omega]
    · simp [h2, show j < a + (k + 1) by omega, show ¬ a + k = j by omega, show j < a + k by omega, show j - a < k + 1 by omega, show j - a < k by omega]
  · subst h1
    simp [show a + k < a + (k + 1) by omega, show a + k - a = k by omega, show k < k + 1 by omega, hk, List.getD]
    rw [if_neg (by omega), if_pos (by omega)]
  · simp [show ¬ j < a + (k + 1) by omega, show ¬ a + k = j by omega, show ¬ j < a + k by omega]
    congr 1
    omega
theorem getB {s : ByteArray} {k : Nat} (hk : k < s.size) : s[k]'hk = s.data.toList[k]'hk := by
  have : s[k]'hk = s.data[k]'hk := rfl
  rw [this, ← Array.getElem_toList]
theorem putB_succ {B : ByteArray} {a : Nat} {s : ByteArray} {k : Nat} (h : a + k < B.size) (hk : k < s.size) :
    (Lib.strCells (putB B a s (k + 1))).toArray = (Lib.strCells (putB B a s k)).toArray.setIfInBounds (a + k) (.int .u8 ((s[k]'hk).toNat : Int)) := by
  apply Array.ext'
  rw [size_list] at h
  have hk' := hk
  rw [size_list] at hk'
  simp only [Lib.strCells, Array.toList_setIfInBounds]
  rw [putB_list, putB_list, put_step _ _ a k 0 h hk', List.map_set]
  congr 1
  rw [getB hk, List.getD_eq_getElem?_getD, List.getElem?_eq_getElem hk']
  rfl
theorem strCells_at {B : ByteArray} {j : Nat} (h : j < B.size) : (Lib.strCells B)[j]? = some (.int .u8 ((B[j]'h).toNat : Int)) := by
  rw [Lib.strCells, List.getElem?_map, List.getElem?_eq_getElem h, getB h]
  rfl
end Go.Proofs.YtkbbjkiinpimiaaDoor
