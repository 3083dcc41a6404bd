/-
  AN ERROR's VALUE by its number.
-/
import Derived.Test.YtadhpkopkkjmfaaDoorZ0
import Derived.BigQuiet
import Derived.Deep.QuietTactic
import Derived.Deep.RegionWith
import Derived.Deep.RegionHeld3
import Derived.Laws.EntriesVeiled
namespace Go.Proofs.YtadhpkopkkjmfaaDoor
open Go.RowKit

/-- An error's value by its number: 0: nil; c + 1: what the variable c holds. -/
def ev (A : Nat → Addr) : Nat → Value
  | 0 => .nilIface
  | c + 1 => .iface 90 (.pointer (some (A c)))
end Go.Proofs.YtadhpkopkkjmfaaDoor
