/-
  PLAIN: a lead's state is one of four.
-/
import Derived.Test.YtkopfpaldmapdaaDoorQ0
namespace Go.Proofs.YtkopfpaldmapdaaDoor

theorem taken_st {zs : List Int} {P : PL} {f : F9} (h : P.stt < 4) : (takenP zs P f).1.stt < 4 := by
  have h1 : (seeP (noteP P f) f.pr).stt < 4 := by rw [(seeP_of _ _).1]; exact h
  unfold takenP
  split
  · unfold voteP; split
    · show 2 < 4; decide
    · split
      · show 1 < 4; decide
      · exact h
  · split
    · show 3 < 4; decide
    · split
      · unfold tellP
        split
        · exact h1
        · split
          · show 2 < 4; decide
          · show 1 < 4; decide
      · unfold ackP
        split
        · exact h1
        · show 2 < 4; decide
theorem phear_st {zs : List Int} {id : Nat} {deal att : Int} {P : PL} {f : F9} (h : P.stt < 4) : (phear zs id deal att P f).1.stt < 4 := by
  unfold phear
  split
  · exact taken_st h
  · exact h
end Go.Proofs.YtkopfpaldmapdaaDoor
