/-
  On the way to SAnewProof: L2 L3.
-/
import Derived.Test.YtaehdgemkafinaaGreatDoorBv3
import Derived.Laws.ResultCell
set_option maxHeartbeats 8000000
set_option maxRecDepth 100000
namespace Go.Proofs.YtaehdgemkafinaaGreatDoor
open Go.RowKit
def rlC (id deal att:Int) (vw:Value) (st:ByteArray) (wait:Int) (vh:Value) (ph seen:Int):Array Value:=#[.int .i64 id,.int .i64 deal,.int .i64 att,vw,.string st,.int .i64 wait,vh,.int .i64 ph,.int .i64 seen]
structure RLd (w:World) (lb id n cap:Nat) (deal att:Int) (aw:Option Addr) (st:ByteArray) (wait:Int) (vh:Value) (hs:List F9) (ph seen:Int):Prop where
 row:w.heap[lb]? = some (.cells (rlC id deal att (.slice aw n cap) st wait vh ph seen) 121 (0,0))
 own:w.ownsRow (lb+1) 125 9 vh hs.length (frCells hs)
end Go.Proofs.YtaehdgemkafinaaGreatDoor
