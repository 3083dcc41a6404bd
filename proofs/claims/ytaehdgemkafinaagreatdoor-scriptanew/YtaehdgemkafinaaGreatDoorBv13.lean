/-
  On the way to SAnewProof: L7.
-/
import Derived.Test.YtaehdgemkafinaaGreatDoorBv9
import Derived.Test.YtaehdgemkafinaaGreatDoorBv2
import Derived.Deep.CutRange
set_option maxHeartbeats 8000000
set_option maxRecDepth 100000
namespace Go.Proofs.YtaehdgemkafinaaGreatDoor
open Go.RowKit
structure FIn (w W:World) (f t d k a:Int) (y:Bool) (p1 p2 p3:Int):Prop where
 row:W.heap[w.heap.size]? = some (.cells #[.int .i64 f,.int .i64 t,.int .i64 d,.int .i64 k,.int .i64 a,.bool y,.int .i64 p1,.int .i64 p2,.int .i64 p3] 125 (0,0))
end Go.Proofs.YtaehdgemkafinaaGreatDoor
