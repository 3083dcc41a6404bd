/-
  On the way to WCommitsProof, WAgreesProof, WEndsProof, WWaitsProof, JTampersProof, PAgreesProof, PAgainProof: YL.
-/
import Derived.Test.YtadhpkopkkjmfaaGreatDoorBz51
import Derived.Test.YtadhpkopkkjmfaaGreatDoorBz16
set_option maxHeartbeats 8000000
set_option maxRecDepth 100000
namespace Go.Proofs.YtadhpkopkkjmfaaGreatDoor
open Go.RowKit
theorem ax_events {zs : List Int} {V : PX} (hA : AX zs V) : EvF zs.length V.evs 0 V.evs.length := by
  refine ⟨fun j hj _ => ?_, .inl ⟨rfl, rfl⟩⟩
  obtain ⟨i, d, p, h1, h2, h3, h4, h5⟩ := hA.ex.at_ (V.evs[j]'hj) (List.getElem_mem hj)
  have hpre : ∀ q, q ∈ V.evs.take j → q ∈ V.evs ∧ ¬ (q.s = (V.evs[j]'hj).s ∧ q.d = (V.evs[j]'hj).d) := by
    intro q hq
    refine ⟨List.mem_of_mem_take hq, ?_⟩
    have hp := hA.ex.once
    rw [← List.take_append_drop j V.evs, List.pairwise_append] at hp
    exact hp.2.2 q hq _ (by rw [List.drop_eq_getElem_cons hj]; exact List.mem_cons_self)
  obtain ⟨g, hg⟩ := hA.gx d h3
  have hb : bdB zs.length (V.evs[j]'hj) = true := by rw [h1]; exact decide_eq_true ⟨⟨by simp only; omega, by simp only; omega⟩, ⟨by simp only; omega, by simp only; omega⟩, by simp only; omega⟩
  have hs : spB (V.evs.take j) (V.evs[j]'hj) = false := by
    unfold spB
    rw [List.any_eq_false]
    intro q hq hx
    obtain ⟨x1, x2⟩ := of_decide_eq_true hx
    obtain ⟨i', d', p', g1, g2, g3, g4, g5⟩ := hA.ex.at_ q (hpre q hq).1
    rw [h1, g1] at x1 x2
    simp only at x1 x2
    have ed : d' = d := by omega
    subst ed
    have s2 := hg.co.s2
    have s3 := hg.co.s3
    rcases h4 with h4 | h4 <;> rcases g4 with g4 | g4
    · omega
    · exact hg.co.split (s2 i h2 (by show (stN (V.nd i) d').ph = 2; omega)) (s3 i' g2 (by show (stN (V.nd i') d').ph = 3; omega))
    · exact hg.co.split (s2 i' g2 (by show (stN (V.nd i') d').ph = 2; omega)) (s3 i h2 (by show (stN (V.nd i) d').ph = 3; omega))
    · omega
  have hh : heB (V.evs.take j) (V.evs[j]'hj) = false := by
    unfold heB
    rw [List.any_eq_false]
    intro q hq hx
    obtain ⟨x1, x2⟩ := of_decide_eq_true hx
    exact (hpre q hq).2 ⟨x2, x1⟩
  unfold evC
  rw [if_neg (by rw [hb]; decide), if_neg (by rw [hs]; decide), if_neg (by rw [hh]; decide)]
end Go.Proofs.YtadhpkopkkjmfaaGreatDoor
