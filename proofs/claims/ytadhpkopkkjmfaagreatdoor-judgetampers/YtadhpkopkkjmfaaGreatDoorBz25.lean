/-
  On the way to JTampersProof: GT.
-/
import Derived.Test.YtadhpkopkkjmfaaGreatDoorBz16
import Derived.Test.YtadhpkopkkjmfaaGreatDoorBz17
set_option maxHeartbeats 8000000
set_option maxRecDepth 100000
namespace Go.Proofs.YtadhpkopkkjmfaaGreatDoor
open Go.RowKit
def tampE (e : E3) : E3 := ⟨e.s, e.d, 5 - e.p⟩
def tampL (L : List E3) (k : Nat) : List E3 := L.modify k tampE
theorem tampL_length (L : List E3) (k : Nat) : (tampL L k).length = L.length := by unfold tampL; exact List.length_modify _ _ _
theorem tampL_get (L : List E3) (k j : Nat) (h : j < (tampL L k).length) : (tampL L k)[j]'h = if k = j then tampE (L[j]'(by rw [tampL_length] at h; exact h)) else L[j]'(by rw [tampL_length] at h; exact h) := by
  exact List.getElem_modify tampE k L j h
def pairL (L : List E3) (k m : Nat) : Prop := ∃ i, ∃ hi : i < L.length, ∃ hk : k < L.length, i < m ∧ i ≠ k ∧ (L[i]'hi).d = (L[k]'hk).d
theorem mem_take_ex {L : List E3} {j : Nat} {q : E3} (h : q ∈ L.take j) : ∃ i, ∃ hi : i < L.length, i < j ∧ L[i]'hi = q := by
  obtain ⟨i, hi, e⟩ := List.mem_iff_getElem.1 h
  rw [List.length_take] at hi
  refine ⟨i, by omega, by omega, ?_⟩
  rw [← e, List.getElem_take]
theorem take_mem {L : List E3} {i j : Nat} (hi : i < L.length) (h : i < j) : L[i]'hi ∈ L.take j := by
  refine List.mem_iff_getElem.2 ⟨i, by rw [List.length_take]; omega, ?_⟩
  rw [List.getElem_take]
theorem tamp_ok {n : Int} {L : List E3} {k : Nat} (hk : k < L.length) (h : EvF n L 0 L.length) (hp : ¬ pairL L k L.length) : EvF n (tampL L k) 0 (tampL L k).length := by
  refine ⟨fun j hj _ => ?_, .inl ⟨rfl, rfl⟩⟩
  have hj' : j < L.length := by rw [tampL_length] at hj; exact hj
  have h0 := h.1 j hj' hj'
  obtain ⟨h1, h2, h3⟩ := evC_zero h0
  have hg := tampL_get L k j hj
  have hb : bdB n ((tampL L k)[j]'hj) = true := by
    rw [hg]
    split
    · have hb1 := of_decide_eq_true h1
      refine decide_eq_true ⟨hb1.1, hb1.2.1, ?_⟩
      show 5 - (L[j]'hj').p = 2 ∨ 5 - (L[j]'hj').p = 3
      have := hb1.2.2
      omega
    · exact h1
  have hsd : ((tampL L k)[j]'hj).s = (L[j]'hj').s ∧ ((tampL L k)[j]'hj).d = (L[j]'hj').d := by
    rw [hg]; split <;> exact ⟨rfl, rfl⟩
  have hs : spB ((tampL L k).take j) ((tampL L k)[j]'hj) = false := by
    unfold spB
    rw [List.any_eq_false]
    intro q hq hx
    obtain ⟨x1, x2⟩ := of_decide_eq_true hx
    obtain ⟨i, hi, hij, rfl⟩ := mem_take_ex hq
    have hi' : i < L.length := by rw [tampL_length] at hi; exact hi
    have hgi := tampL_get L k i hi
    have hid : ((tampL L k)[i]'hi).d = (L[i]'hi').d := by rw [hgi]; split <;> rfl
    rw [hid, hsd.2] at x1
    by_cases e1 : k = i
    · subst e1
      exact hp ⟨j, hj', hk, hj', by omega, x1.symm⟩
    · by_cases e2 : k = j
      · subst e2
        exact hp ⟨i, hi', hk, hi', by omega, x1⟩
      · rw [hgi, if_neg e1, hg, if_neg e2] at x2
        unfold spB at h2
        rw [List.any_eq_false] at h2
        exact h2 _ (take_mem hi' hij) (decide_eq_true ⟨x1, x2⟩)
  have hh : heB ((tampL L k).take j) ((tampL L k)[j]'hj) = false := by
    unfold heB
    rw [List.any_eq_false]
    intro q hq hx
    obtain ⟨x1, x2⟩ := of_decide_eq_true hx
    obtain ⟨i, hi, hij, rfl⟩ := mem_take_ex hq
    have hi' : i < L.length := by rw [tampL_length] at hi; exact hi
    have hgi := tampL_get L k i hi
    have hid : ((tampL L k)[i]'hi).d = (L[i]'hi').d ∧ ((tampL L k)[i]'hi).s = (L[i]'hi').s := by rw [hgi]; split <;> exact ⟨rfl, rfl⟩
    rw [hid.1, hsd.2] at x1
    rw [hid.2, hsd.1] at x2
    unfold heB at h3
    rw [List.any_eq_false] at h3
    exact h3 _ (take_mem hi' hij) (decide_eq_true ⟨x1, x2⟩)
  unfold evC
  rw [if_neg (by rw [hb]; decide), if_neg (by rw [hs]; decide), if_neg (by rw [hh]; decide)]
theorem tamp_no {n : Int} {L : List E3} {k : Nat} (h : EvF n L 0 L.length) (hp : pairL L k L.length) : ∃ c j, c ≠ 0 ∧ EvF n (tampL L k) c j := by
  obtain ⟨c, j, hc⟩ := evF_ex n (tampL L k)
  refine ⟨c, j, fun h0 => ?_, hc⟩
  subst h0
  have hw : ∀ x (hx : x < (tampL L k).length), evC n ((tampL L k).take x) ((tampL L k)[x]'hx) = 0 := fun x hx => by
    rcases hc.2 with ⟨-, e⟩ | ⟨_, e, -⟩
    · exact hc.1 x hx (by omega)
    · exact absurd rfl e
  obtain ⟨i, hi, hk, -, hne, hd⟩ := hp
  have hi2 : i < (tampL L k).length := by rw [tampL_length]; exact hi
  have hk2 : k < (tampL L k).length := by rw [tampL_length]; exact hk
  have gi := tampL_get L k i hi2
  rw [if_neg (fun e => hne e.symm)] at gi
  have gk := tampL_get L k k hk2
  rw [if_pos rfl] at gk
  have same : (L[i]'hi).p = (L[k]'hk).p := by
    have key : ∀ a b (ha : a < L.length) (hb : b < L.length), a < b → (L[a]'ha).d = (L[b]'hb).d → (L[a]'ha).p = (L[b]'hb).p := by
      intro a b ha hb hab hdd
      obtain ⟨-, h2, -⟩ := evC_zero (h.1 b hb hb)
      unfold spB at h2
      rw [List.any_eq_false] at h2
      have := h2 _ (take_mem ha hab)
      have h4 : ¬ ((L[a]'ha).d = (L[b]'hb).d ∧ (L[a]'ha).p ≠ (L[b]'hb).p) := fun g => this (decide_eq_true g)
      exact Classical.byContradiction fun g => h4 ⟨hdd, g⟩
    rcases Nat.lt_or_gt_of_ne hne with g | g
    · exact key i k hi hk g hd
    · exact (key k i hk hi g hd.symm).symm
  have key2 : ∀ a b (ha : a < (tampL L k).length) (hb : b < (tampL L k).length), a < b → ((tampL L k)[a]'ha).d = ((tampL L k)[b]'hb).d → ((tampL L k)[a]'ha).p = ((tampL L k)[b]'hb).p := by
    intro a b ha hb hab hdd
    obtain ⟨-, h2, -⟩ := evC_zero (hw b hb)
    unfold spB at h2
    rw [List.any_eq_false] at h2
    have := h2 _ (take_mem ha hab)
    have h4 : ¬ (((tampL L k)[a]'ha).d = ((tampL L k)[b]'hb).d ∧ ((tampL L k)[a]'ha).p ≠ ((tampL L k)[b]'hb).p) := fun g => this (decide_eq_true g)
    exact Classical.byContradiction fun g => h4 ⟨hdd, g⟩
  have fin : (L[i]'hi).p = 5 - (L[k]'hk).p := by
    rcases Nat.lt_or_gt_of_ne hne with g | g
    · have := key2 i k hi2 hk2 g (by rw [gi, gk]; exact hd)
      rw [gi, gk] at this; exact this
    · have := key2 k i hk2 hi2 g (by rw [gi, gk]; exact hd.symm)
      rw [gi, gk] at this; exact this.symm
  omega
theorem coded_flt (A : Nat → Addr) (c k base : Nat) (v : Value) (w : World) (hE : Held9 w A) (hc : c ≤ 9) (h0 : c ≠ 0) (hv : FltV w A c k v base) :
    Calls Tryz.prog 39 #[v, .int .i64 0] w fun e w' => e = .returned (.bool false) ∧ Below w.heap.size w w' := by
  rcases hv with ⟨e, -⟩ | ⟨x, fb, rfl, -, rfl, hc0, hc1⟩
  · exact absurd e h0
  · have HC := hid (codeF_at A fb 0 (k : Int) x w hE (by omega) hc0 hc1)
    have e1 : ((x : Int) + 1 == 0) = false := beq_eq_false_iff_ne.2 (by omega)
    clear hE hc0 hc1
    go_enter Tryz.func39, Tryz.ntmps39
    go_wp2_with fail
    refine HC.out.mono ?_
    rintro e w1 ⟨rfl, hb⟩
    have HB := hid hb
    clear hb
    go_wp2_with fail
    go_ret
    exact ⟨rfl, HB.out⟩
end Go.Proofs.YtadhpkopkkjmfaaGreatDoor
