/-
  On the way to WStepsProof, WEndsProof, WWaitsProof: SN.
-/
import Derived.Test.YtadhpkopkkjmfaaGreatDoorBz1
import Derived.Test.YtadhpkopkkjmfaaGreatDoorBz6
set_option maxHeartbeats 8000000
set_option maxRecDepth 100000
namespace Go.Proofs.YtadhpkopkkjmfaaGreatDoor
open Go.RowKit
theorem rfinal_is (p:Nat) (b:Bool) (w:World) (h:finB p=b):Calls Tryz.prog 37 #[.int .i64 (p:Int)] w fun e w'=>e=.returned (.bool b)∧w'=w:=by
 subst h
 unfold finB
 by_cases h2:p=2
 ·subst h2
  go_enter Tryz.func37,Tryz.ntmps37
  go_wp2_with fail
  go_ret
  exact ⟨rfl,rfl⟩
 ·by_cases h3:p=3
  ·subst h3
   go_enter Tryz.func37,Tryz.ntmps37
   go_wp2_with fail
   go_ret
   exact ⟨rfl,rfl⟩
  ·rw [decide_eq_false (by omega)]
   have g2:¬ (p:Int)=2:=by omega
   have g3:¬ (p:Int)=3:=by omega
   go_enter Tryz.func37,Tryz.ntmps37
   go_wp2_with fail
   go_ret
   exact ⟨by simp; omega,rfl⟩
end Go.Proofs.YtadhpkopkkjmfaaGreatDoor
