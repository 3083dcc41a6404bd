/-
  NARROWER THAN 'FOR EVERY INPUT', by the rows' own cells (each row's printed sentence says how): JudgeChecks: laid.
  DERIVED. THE GIVEN ROWS OF THIS SEAT. 1 by the template 'for every input the law returns true; each argument reads behind the call as it read before'; 0 by the template 'total and deterministic' (their statements: YtadhpkopkkjmfaaDoorTotals.lean).
  GIVEN WITH THE SEED: the statements are not yours to turn. If you find one false, say at which input.
  Laid BY PROGRAM, IN A SANDBOX (cutbox-rows.mjs): the forced cells as the released guide's own fill.sh prints them over the translation fcc26e604fe6f10c… (all of the seat's roots in one cut). By AI agents, Wed Nov 11 2026. No macro, syntax, notation, axiom, sorry.
-/
import Derived.Test.YtadhpkopkkjmfaaDoorChecked
import GoSem.Claim
import GoSem.ClaimJoined
import GoSem.ClaimMapViews
import Derived.JoinedTies
import Derived.KernelRfl
namespace Go.Proofs.YtadhpkopkkjmfaaDoor
/- THE CELL 'sum', in the pinned program and in every row, IS THE sha256 OF THE DUMP (.gsa) THAT YtadhpkopkkjmfaaDoorProg.lean LOADS. Nothing in Lean hashes anything: it is a label: what it is worth is what the hold of that sum in a sandbox is worth. -/
noncomputable def Tryd.pinned : Pinned := { name := "ytadhpkopkkjmfaadoor", sum := "fcc26e604fe6f10c8c064ce1e58e259dc1da7e53f9060e887dc9264714611ff2", checked := Tryd.checked }
namespace Rows
def none {H : Type} : Left H := { results := [], args := [] }

/- WHAT THE LISTED PACKAGE-LEVEL VARIABLES READ AS WHEN THE CALL BEGINS. Each datum BY PROGRAM (the guide's laid-datum.mjs) off the statement by which the dump's own 'gosem.cut.vars' lays the variable. In a bare row this is a premise. The card (YtadhpkopkkjmfaaDoorCards.lean) ties it to the program's text. -/
def laid_errors_errorType {H : Type} : DataW H := .iface "internal/reflectlite.rtype" (.agg [.ptr (.lit (.string [101, 114, 114, 111, 114]))])
def laid_threefold_api_ErrText {H : Type} : DataW H := .iface "*errors.errorString" (.ptr (.agg [.lit (.string [116, 104, 114, 101, 101, 102, 111, 108, 100, 58, 32, 116, 101, 120, 116])]))
def laid_threefold_api_ErrBound {H : Type} : DataW H := .iface "*errors.errorString" (.ptr (.agg [.lit (.string [116, 104, 114, 101, 101, 102, 111, 108, 100, 58, 32, 98, 111, 117, 110, 100])]))
def laid_threefold_api_ErrShape {H : Type} : DataW H := .iface "*errors.errorString" (.ptr (.agg [.lit (.string [116, 104, 114, 101, 101, 102, 111, 108, 100, 58, 32, 115, 104, 97, 112, 101])]))
def laid_threefold_api_ErrNone {H : Type} : DataW H := .iface "*errors.errorString" (.ptr (.agg [.lit (.string [116, 104, 114, 101, 101, 102, 111, 108, 100, 58, 32, 110, 111, 110, 101])]))
def laid_threefold_api_ErrFull {H : Type} : DataW H := .iface "*errors.errorString" (.ptr (.agg [.lit (.string [116, 104, 114, 101, 101, 102, 111, 108, 100, 58, 32, 102, 117, 108, 108])]))
def laid_threefold_api_ErrOff {H : Type} : DataW H := .iface "*errors.errorString" (.ptr (.agg [.lit (.string [116, 104, 114, 101, 101, 102, 111, 108, 100, 58, 32, 111, 102, 102])]))
def laid_threefold_api_ErrSum {H : Type} : DataW H := .iface "*errors.errorString" (.ptr (.agg [.lit (.string [116, 104, 114, 101, 101, 102, 111, 108, 100, 58, 32, 115, 117, 109])]))
def laid_threefold_api_ErrHeld {H : Type} : DataW H := .iface "*errors.errorString" (.ptr (.agg [.lit (.string [116, 104, 114, 101, 101, 102, 111, 108, 100, 58, 32, 104, 101, 108, 100])]))
def laid_threefold_api_ErrSplit {H : Type} : DataW H := .iface "*errors.errorString" (.ptr (.agg [.lit (.string [116, 104, 114, 101, 101, 102, 111, 108, 100, 58, 32, 115, 112, 108, 105, 116])]))

/-- 'threefoldlaw3.JudgeChecks': WHATEVER THE INPUT: true; the input reads as it did. -/
def judgeChecksSpec : ChangeSpec := { name := "judgeChecks", fn := fun _ => fun
  | [d1, d2, d3, d4] => { results := [.lit (.bool true)], args := [d1, d2, d3, d4] }
  | _ => none }
def judgeChecksRow : OpenClaim := { program := "ytadhpkopkkjmfaadoor", sum := "fcc26e604fe6f10c8c064ce1e58e259dc1da7e53f9060e887dc9264714611ff2", func := "threefold/threefoldlaw3.JudgeChecks", spec := "judgeChecks", inPlace := ["internal/reflectlite.ValueOf", "(internal/reflectlite.Value).Type", "(internal/reflectlite.Value).IsNil", "internal/reflectlite.TypeOf", "(internal/reflectlite.Value).Elem", "(internal/reflectlite.Value).Set"], unfollowed := true, recurses := true, named := ["threefold/api.ErrBound", "threefold/api.ErrSplit", "threefold/api.ErrHeld", "threefold/api.ErrText", "threefold/api.ErrShape", "threefold/api.ErrNone", "threefold/api.ErrFull", "threefold/api.ErrOff", "threefold/api.ErrSum", "errors.errorType"], apart := false, laid := [("errors.errorType", laid_errors_errorType), ("threefold/api.ErrText", laid_threefold_api_ErrText), ("threefold/api.ErrBound", laid_threefold_api_ErrBound), ("threefold/api.ErrShape", laid_threefold_api_ErrShape), ("threefold/api.ErrNone", laid_threefold_api_ErrNone), ("threefold/api.ErrFull", laid_threefold_api_ErrFull), ("threefold/api.ErrOff", laid_threefold_api_ErrOff), ("threefold/api.ErrSum", laid_threefold_api_ErrSum), ("threefold/api.ErrHeld", laid_threefold_api_ErrHeld), ("threefold/api.ErrSplit", laid_threefold_api_ErrSplit)] }
def JudgeChecksSaid : Prop := judgeChecksRow.holds Tryd.pinned (OpenSpec.ofChange judgeChecksSpec)

/-- ITS FALSE NEIGHBOUR: 'it returns false'. Refute it at one input. -/
def judgeChecksWrong : ChangeSpec := { name := "judgeChecks", fn := fun _ => fun
  | [d1, d2, d3, d4] => { results := [.lit (.bool false)], args := [d1, d2, d3, d4] }
  | _ => none }
def JudgeChecksWrongFalsely : Prop := judgeChecksRow.holds Tryd.pinned (OpenSpec.ofChange judgeChecksWrong)

/- THE SECOND FORM. 'bulk': how many values and letters a reading holds, each counted each time it is reached (what is shared counts as often as it is met; a slice's spare places count too). A statement '..UptoSaid' is the law's where the arguments, and the package variables that the reading takes, are together of bulk at most 1048576: NARROWER than '..Said'. Prove '..Said' where nothing that the law and all that it calls make is longer than what came in: it says more and counts as full. Else prove '..UptoSaid'. A law counts once. -/
mutual
def uptoBulk {H : Type} : DataW H → Nat
  | .lit (.string bytes) => bytes.length + 1
  | .lit _ => 1
  | .nil => 1
  | .ptr d => uptoBulk d + 1
  | .slice elems spare => uptoBulkAll elems + uptoBulkAll spare + 1
  | .agg parts => uptoBulkAll parts + 1
  | .iface _ d => uptoBulk d + 1
  | .map entries => uptoBulkEntries entries + 1
  | .held _ => 1
def uptoBulkAll {H : Type} : List (DataW H) → Nat
  | [] => 0
  | d :: r => uptoBulk d + uptoBulkAll r
def uptoBulkEntries {H : Type} : List (Lit × DataW H) → Nat
  | [] => 0
  | x :: r => uptoBulkEntry x + uptoBulkEntries r
def uptoBulkEntry {H : Type} : Lit × DataW H → Nat
  | (.string bytes, d) => bytes.length + uptoBulk d + 1
  | (_, d) => uptoBulk d + 1
 end
def uptoSmall : (H : Type) → List (DataW H) → Bool := fun _ ds => decide (uptoBulkAll ds ≤ 1048576)
def OpenSpec.upto (s : _root_.Go.ChangeSpec) : _root_.Go.OpenSpec := { _root_.Go.OpenSpec.ofChange s with cond := some uptoSmall }

/-- 'threefoldlaw3.JudgeChecks', WHERE WHAT IT READS IS OF BULK AT MOST 1048576: true; the input reads as it did. -/
def judgeChecksUptoRow : OpenClaim := { program := "ytadhpkopkkjmfaadoor", sum := "fcc26e604fe6f10c8c064ce1e58e259dc1da7e53f9060e887dc9264714611ff2", func := "threefold/threefoldlaw3.JudgeChecks", spec := "judgeChecks", inPlace := ["internal/reflectlite.ValueOf", "(internal/reflectlite.Value).Type", "(internal/reflectlite.Value).IsNil", "internal/reflectlite.TypeOf", "(internal/reflectlite.Value).Elem", "(internal/reflectlite.Value).Set"], unfollowed := true, recurses := true, named := ["threefold/api.ErrBound", "threefold/api.ErrSplit", "threefold/api.ErrHeld", "threefold/api.ErrText", "threefold/api.ErrShape", "threefold/api.ErrNone", "threefold/api.ErrFull", "threefold/api.ErrOff", "threefold/api.ErrSum", "errors.errorType"], apart := false, laid := [("errors.errorType", laid_errors_errorType), ("threefold/api.ErrText", laid_threefold_api_ErrText), ("threefold/api.ErrBound", laid_threefold_api_ErrBound), ("threefold/api.ErrShape", laid_threefold_api_ErrShape), ("threefold/api.ErrNone", laid_threefold_api_ErrNone), ("threefold/api.ErrFull", laid_threefold_api_ErrFull), ("threefold/api.ErrOff", laid_threefold_api_ErrOff), ("threefold/api.ErrSum", laid_threefold_api_ErrSum), ("threefold/api.ErrHeld", laid_threefold_api_ErrHeld), ("threefold/api.ErrSplit", laid_threefold_api_ErrSplit)], narrowed := true }
def JudgeChecksUptoSaid : Prop := judgeChecksUptoRow.holds Tryd.pinned (OpenSpec.upto judgeChecksSpec)

end Rows
end Go.Proofs.YtadhpkopkkjmfaaDoor
