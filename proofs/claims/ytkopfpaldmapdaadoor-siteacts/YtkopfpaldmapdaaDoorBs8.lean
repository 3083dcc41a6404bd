/-
  On the way to SActsProof: SN.
-/
import Derived.Test.YtkopfpaldmapdaaDoorBs1
import Derived.Test.YtkopfpaldmapdaaDoorBs3
import Derived.Test.YtkopfpaldmapdaaDoorBs2
set_option maxHeartbeats 8000000
set_option maxRecDepth 100000
namespace Go.Proofs.YtkopfpaldmapdaaDoor
open Go.RowKit
theorem rfinal_is (p:Nat) (b:Bool) (w:World) (h:finB p=b):Calls Tryd.prog 34 #[.int .i64 (p:Int)] w fun e w'=>e=.returned (.bool b)∧w'=w:=by
 subst h
 unfold finB
 by_cases h2:p=2
 ·subst h2
  go_enter Tryd.func34,Tryd.ntmps34
  go_wp2_with fail
  go_ret
  exact ⟨rfl,rfl⟩
 ·by_cases h3:p=3
  ·subst h3
   go_enter Tryd.func34,Tryd.ntmps34
   go_wp2_with fail
   go_ret
   exact ⟨rfl,rfl⟩
  ·rw [decide_eq_false (by omega)]
   have g2:¬ (p:Int)=2:=by omega
   have g3:¬ (p:Int)=3:=by omega
   go_enter Tryd.func34,Tryd.ntmps34
   go_wp2_with fail
   go_ret
   exact ⟨by simp; omega,rfl⟩
end Go.Proofs.YtkopfpaldmapdaaDoor
