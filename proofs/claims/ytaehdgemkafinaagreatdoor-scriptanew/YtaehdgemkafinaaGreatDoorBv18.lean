/-
  On the way to SAnewProof: L8.
-/
import Derived.Test.YtaehdgemkafinaaGreatDoorBv13
import Derived.Test.YtaehdgemkafinaaGreatDoorBv6
set_option maxHeartbeats 8000000
set_option maxRecDepth 100000
namespace Go.Proofs.YtaehdgemkafinaaGreatDoor
open Go.RowKit
section
variable {w:World} {lb id n cap:Nat} {deal att:Int} {aw:Option Addr} {st:ByteArray} {wait:Int} {vh:Value} {hs:List F9} {ph seen:Int}
structure HL (w W:World) (lb id n cap:Nat) (deal att:Int) (aw:Option Addr) (st:ByteArray) (wait:Int) (vh:Value) (hs:List F9) (ph seen:Int) (f:Nat) (k:Int) (y:Bool) (p1 p2 p3:Int):Prop where
 ld:RLd W lb id n cap deal att aw st wait vh hs ph seen
 fr:FIn w W f id deal k att y p1 p2 p3
 kp:Kept (In1 lb) w W
end
end Go.Proofs.YtaehdgemkafinaaGreatDoor
