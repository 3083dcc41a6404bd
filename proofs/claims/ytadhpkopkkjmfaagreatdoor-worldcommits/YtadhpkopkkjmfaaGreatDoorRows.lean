/-
  NARROWER THAN 'FOR EVERY INPUT', by the rows' own cells (each row's printed sentence says how): WorldCommits: laid · WorldAgrees: laid · WorldEnds: laid · WorldWaits: laid · WorldSteps: laid · JudgeTampers: laid · PlayAgrees: laid · PlayAgain: laid.
  DERIVED. THE GIVEN ROWS OF THIS SEAT. 8 by the template 'for every input the law returns true; each argument reads behind the call as it read before'; 0 by the template 'total and deterministic' (their statements: YtadhpkopkkjmfaaGreatDoorTotals.lean).
  GIVEN WITH THE SEED: the statements are not yours to turn. If you find one false, say at which input.
  Laid BY PROGRAM, IN A SANDBOX (cutbox-rows.mjs): the forced cells as the released guide's own fill.sh prints them over the translation 0d2e5e899bda464c… (all of the seat's roots in one cut). By AI agents, Wed Nov 11 2026. No macro, syntax, notation, axiom, sorry.
-/
import Derived.Test.YtadhpkopkkjmfaaGreatDoorChecked
import GoSem.Claim
import GoSem.ClaimJoined
import GoSem.ClaimMapViews
import Derived.JoinedTies
import Derived.KernelRfl
namespace Go.Proofs.YtadhpkopkkjmfaaGreatDoor
/- THE CELL 'sum', in the pinned program and in every row, IS THE sha256 OF THE DUMP (.gsa) THAT YtadhpkopkkjmfaaGreatDoorProg.lean LOADS. Nothing in Lean hashes anything: it is a label: what it is worth is what the hold of that sum in a sandbox is worth. -/
noncomputable def Tryz.pinned : Pinned := { name := "ytadhpkopkkjmfaagreatdoor", sum := "0d2e5e899bda464cf6725df94d0711f411b78345d262009ffb836460ba0ece07", checked := Tryz.checked }
namespace Rows
def none {H : Type} : Left H := { results := [], args := [] }

/- WHAT THE LISTED PACKAGE-LEVEL VARIABLES READ AS WHEN THE CALL BEGINS. Each datum BY PROGRAM (the guide's laid-datum.mjs) off the statement by which the dump's own 'gosem.cut.vars' lays the variable. In a bare row this is a premise. The card (YtadhpkopkkjmfaaGreatDoorCards.lean) ties it to the program's text. -/
def laid_errors_errorType {H : Type} : DataW H := .iface "internal/reflectlite.rtype" (.agg [.ptr (.lit (.string [101, 114, 114, 111, 114]))])
def laid_threefold_api_ErrText {H : Type} : DataW H := .iface "*errors.errorString" (.ptr (.agg [.lit (.string [116, 104, 114, 101, 101, 102, 111, 108, 100, 58, 32, 116, 101, 120, 116])]))
def laid_threefold_api_ErrBound {H : Type} : DataW H := .iface "*errors.errorString" (.ptr (.agg [.lit (.string [116, 104, 114, 101, 101, 102, 111, 108, 100, 58, 32, 98, 111, 117, 110, 100])]))
def laid_threefold_api_ErrShape {H : Type} : DataW H := .iface "*errors.errorString" (.ptr (.agg [.lit (.string [116, 104, 114, 101, 101, 102, 111, 108, 100, 58, 32, 115, 104, 97, 112, 101])]))
def laid_threefold_api_ErrNone {H : Type} : DataW H := .iface "*errors.errorString" (.ptr (.agg [.lit (.string [116, 104, 114, 101, 101, 102, 111, 108, 100, 58, 32, 110, 111, 110, 101])]))
def laid_threefold_api_ErrFull {H : Type} : DataW H := .iface "*errors.errorString" (.ptr (.agg [.lit (.string [116, 104, 114, 101, 101, 102, 111, 108, 100, 58, 32, 102, 117, 108, 108])]))
def laid_threefold_api_ErrOff {H : Type} : DataW H := .iface "*errors.errorString" (.ptr (.agg [.lit (.string [116, 104, 114, 101, 101, 102, 111, 108, 100, 58, 32, 111, 102, 102])]))
def laid_threefold_api_ErrSum {H : Type} : DataW H := .iface "*errors.errorString" (.ptr (.agg [.lit (.string [116, 104, 114, 101, 101, 102, 111, 108, 100, 58, 32, 115, 117, 109])]))
def laid_threefold_api_ErrHeld {H : Type} : DataW H := .iface "*errors.errorString" (.ptr (.agg [.lit (.string [116, 104, 114, 101, 101, 102, 111, 108, 100, 58, 32, 104, 101, 108, 100])]))
def laid_threefold_api_ErrSplit {H : Type} : DataW H := .iface "*errors.errorString" (.ptr (.agg [.lit (.string [116, 104, 114, 101, 101, 102, 111, 108, 100, 58, 32, 115, 112, 108, 105, 116])]))

/-- 'threefoldlaw3.WorldCommits': WHATEVER THE INPUT: true; the input reads as it did. -/
def worldCommitsSpec : ChangeSpec := { name := "worldCommits", fn := fun _ => fun
  | [d1, d2, d3, d4] => { results := [.lit (.bool true)], args := [d1, d2, d3, d4] }
  | _ => none }
def worldCommitsRow : OpenClaim := { program := "ytadhpkopkkjmfaagreatdoor", sum := "0d2e5e899bda464cf6725df94d0711f411b78345d262009ffb836460ba0ece07", func := "threefold/threefoldlaw3.WorldCommits", spec := "worldCommits", inPlace := ["internal/reflectlite.ValueOf", "(internal/reflectlite.Value).Type", "(internal/reflectlite.Value).IsNil", "internal/reflectlite.TypeOf", "(internal/reflectlite.Value).Elem", "(internal/reflectlite.Value).Set"], unfollowed := true, recurses := true, named := ["threefold/api.ErrShape", "threefold/api.ErrBound", "threefold/api.ErrNone", "threefold/api.ErrOff", "threefold/api.ErrHeld", "threefold/api.ErrText", "threefold/api.ErrFull", "threefold/api.ErrSum", "threefold/api.ErrSplit", "errors.errorType"], plainKeys := false, apart := false, laid := [("errors.errorType", laid_errors_errorType), ("threefold/api.ErrText", laid_threefold_api_ErrText), ("threefold/api.ErrBound", laid_threefold_api_ErrBound), ("threefold/api.ErrShape", laid_threefold_api_ErrShape), ("threefold/api.ErrNone", laid_threefold_api_ErrNone), ("threefold/api.ErrFull", laid_threefold_api_ErrFull), ("threefold/api.ErrOff", laid_threefold_api_ErrOff), ("threefold/api.ErrSum", laid_threefold_api_ErrSum), ("threefold/api.ErrHeld", laid_threefold_api_ErrHeld), ("threefold/api.ErrSplit", laid_threefold_api_ErrSplit)] }
def WorldCommitsSaid : Prop := worldCommitsRow.holds Tryz.pinned (OpenSpec.ofChange worldCommitsSpec)

/-- ITS FALSE NEIGHBOUR: 'it returns false'. Refute it at one input. -/
def worldCommitsWrong : ChangeSpec := { name := "worldCommits", fn := fun _ => fun
  | [d1, d2, d3, d4] => { results := [.lit (.bool false)], args := [d1, d2, d3, d4] }
  | _ => none }
def WorldCommitsWrongFalsely : Prop := worldCommitsRow.holds Tryz.pinned (OpenSpec.ofChange worldCommitsWrong)

/-- 'threefoldlaw3.WorldAgrees': WHATEVER THE INPUT: true; the input reads as it did. -/
def worldAgreesSpec : ChangeSpec := { name := "worldAgrees", fn := fun _ => fun
  | [d1, d2] => { results := [.lit (.bool true)], args := [d1, d2] }
  | _ => none }
def worldAgreesRow : OpenClaim := { program := "ytadhpkopkkjmfaagreatdoor", sum := "0d2e5e899bda464cf6725df94d0711f411b78345d262009ffb836460ba0ece07", func := "threefold/threefoldlaw3.WorldAgrees", spec := "worldAgrees", inPlace := ["internal/reflectlite.ValueOf", "(internal/reflectlite.Value).Type", "(internal/reflectlite.Value).IsNil", "internal/reflectlite.TypeOf", "(internal/reflectlite.Value).Elem", "(internal/reflectlite.Value).Set", "slices.overlaps[threefold/api.Frame]"], unfollowed := true, recurses := true, named := ["threefold/api.ErrShape", "threefold/api.ErrBound", "threefold/api.ErrNone", "threefold/api.ErrOff", "threefold/api.ErrHeld", "threefold/api.ErrText", "threefold/api.ErrFull", "threefold/api.ErrSum", "threefold/api.ErrSplit", "errors.errorType"], plainKeys := false, apart := false, laid := [("errors.errorType", laid_errors_errorType), ("threefold/api.ErrText", laid_threefold_api_ErrText), ("threefold/api.ErrBound", laid_threefold_api_ErrBound), ("threefold/api.ErrShape", laid_threefold_api_ErrShape), ("threefold/api.ErrNone", laid_threefold_api_ErrNone), ("threefold/api.ErrFull", laid_threefold_api_ErrFull), ("threefold/api.ErrOff", laid_threefold_api_ErrOff), ("threefold/api.ErrSum", laid_threefold_api_ErrSum), ("threefold/api.ErrHeld", laid_threefold_api_ErrHeld), ("threefold/api.ErrSplit", laid_threefold_api_ErrSplit)] }
def WorldAgreesSaid : Prop := worldAgreesRow.holds Tryz.pinned (OpenSpec.ofChange worldAgreesSpec)

/-- ITS FALSE NEIGHBOUR: 'it returns false'. Refute it at one input. -/
def worldAgreesWrong : ChangeSpec := { name := "worldAgrees", fn := fun _ => fun
  | [d1, d2] => { results := [.lit (.bool false)], args := [d1, d2] }
  | _ => none }
def WorldAgreesWrongFalsely : Prop := worldAgreesRow.holds Tryz.pinned (OpenSpec.ofChange worldAgreesWrong)

/-- 'threefoldlaw3.WorldEnds': WHATEVER THE INPUT: true; the input reads as it did. -/
def worldEndsSpec : ChangeSpec := { name := "worldEnds", fn := fun _ => fun
  | [d1, d2, d3] => { results := [.lit (.bool true)], args := [d1, d2, d3] }
  | _ => none }
def worldEndsRow : OpenClaim := { program := "ytadhpkopkkjmfaagreatdoor", sum := "0d2e5e899bda464cf6725df94d0711f411b78345d262009ffb836460ba0ece07", func := "threefold/threefoldlaw3.WorldEnds", spec := "worldEnds", inPlace := ["internal/reflectlite.ValueOf", "(internal/reflectlite.Value).Type", "(internal/reflectlite.Value).IsNil", "internal/reflectlite.TypeOf", "(internal/reflectlite.Value).Elem", "(internal/reflectlite.Value).Set", "slices.overlaps[threefold/api.Frame]"], unfollowed := true, recurses := true, named := ["threefold/api.ErrShape", "threefold/api.ErrBound", "threefold/api.ErrNone", "threefold/api.ErrOff", "threefold/api.ErrHeld", "threefold/api.ErrText", "threefold/api.ErrFull", "threefold/api.ErrSum", "threefold/api.ErrSplit", "errors.errorType"], plainKeys := false, apart := false, laid := [("errors.errorType", laid_errors_errorType), ("threefold/api.ErrText", laid_threefold_api_ErrText), ("threefold/api.ErrBound", laid_threefold_api_ErrBound), ("threefold/api.ErrShape", laid_threefold_api_ErrShape), ("threefold/api.ErrNone", laid_threefold_api_ErrNone), ("threefold/api.ErrFull", laid_threefold_api_ErrFull), ("threefold/api.ErrOff", laid_threefold_api_ErrOff), ("threefold/api.ErrSum", laid_threefold_api_ErrSum), ("threefold/api.ErrHeld", laid_threefold_api_ErrHeld), ("threefold/api.ErrSplit", laid_threefold_api_ErrSplit)] }
def WorldEndsSaid : Prop := worldEndsRow.holds Tryz.pinned (OpenSpec.ofChange worldEndsSpec)

/-- ITS FALSE NEIGHBOUR: 'it returns false'. Refute it at one input. -/
def worldEndsWrong : ChangeSpec := { name := "worldEnds", fn := fun _ => fun
  | [d1, d2, d3] => { results := [.lit (.bool false)], args := [d1, d2, d3] }
  | _ => none }
def WorldEndsWrongFalsely : Prop := worldEndsRow.holds Tryz.pinned (OpenSpec.ofChange worldEndsWrong)

/-- 'threefoldlaw3.WorldWaits': WHATEVER THE INPUT: true; the input reads as it did. -/
def worldWaitsSpec : ChangeSpec := { name := "worldWaits", fn := fun _ => fun
  | [d1, d2, d3] => { results := [.lit (.bool true)], args := [d1, d2, d3] }
  | _ => none }
def worldWaitsRow : OpenClaim := { program := "ytadhpkopkkjmfaagreatdoor", sum := "0d2e5e899bda464cf6725df94d0711f411b78345d262009ffb836460ba0ece07", func := "threefold/threefoldlaw3.WorldWaits", spec := "worldWaits", inPlace := ["internal/reflectlite.ValueOf", "(internal/reflectlite.Value).Type", "(internal/reflectlite.Value).IsNil", "internal/reflectlite.TypeOf", "(internal/reflectlite.Value).Elem", "(internal/reflectlite.Value).Set", "slices.overlaps[threefold/api.Frame]"], unfollowed := true, recurses := true, named := ["threefold/api.ErrShape", "threefold/api.ErrBound", "threefold/api.ErrNone", "threefold/api.ErrOff", "threefold/api.ErrHeld", "threefold/api.ErrText", "threefold/api.ErrFull", "threefold/api.ErrSum", "threefold/api.ErrSplit", "errors.errorType"], plainKeys := false, apart := false, laid := [("errors.errorType", laid_errors_errorType), ("threefold/api.ErrText", laid_threefold_api_ErrText), ("threefold/api.ErrBound", laid_threefold_api_ErrBound), ("threefold/api.ErrShape", laid_threefold_api_ErrShape), ("threefold/api.ErrNone", laid_threefold_api_ErrNone), ("threefold/api.ErrFull", laid_threefold_api_ErrFull), ("threefold/api.ErrOff", laid_threefold_api_ErrOff), ("threefold/api.ErrSum", laid_threefold_api_ErrSum), ("threefold/api.ErrHeld", laid_threefold_api_ErrHeld), ("threefold/api.ErrSplit", laid_threefold_api_ErrSplit)] }
def WorldWaitsSaid : Prop := worldWaitsRow.holds Tryz.pinned (OpenSpec.ofChange worldWaitsSpec)

/-- ITS FALSE NEIGHBOUR: 'it returns false'. Refute it at one input. -/
def worldWaitsWrong : ChangeSpec := { name := "worldWaits", fn := fun _ => fun
  | [d1, d2, d3] => { results := [.lit (.bool false)], args := [d1, d2, d3] }
  | _ => none }
def WorldWaitsWrongFalsely : Prop := worldWaitsRow.holds Tryz.pinned (OpenSpec.ofChange worldWaitsWrong)

/-- 'threefoldlaw3.WorldSteps': WHATEVER THE INPUT: true; the input reads as it did. -/
def worldStepsSpec : ChangeSpec := { name := "worldSteps", fn := fun _ => fun
  | [d1, d2] => { results := [.lit (.bool true)], args := [d1, d2] }
  | _ => none }
def worldStepsRow : OpenClaim := { program := "ytadhpkopkkjmfaagreatdoor", sum := "0d2e5e899bda464cf6725df94d0711f411b78345d262009ffb836460ba0ece07", func := "threefold/threefoldlaw3.WorldSteps", spec := "worldSteps", inPlace := ["internal/reflectlite.ValueOf", "(internal/reflectlite.Value).Type", "(internal/reflectlite.Value).IsNil", "internal/reflectlite.TypeOf", "(internal/reflectlite.Value).Elem", "(internal/reflectlite.Value).Set", "slices.overlaps[threefold/api.Frame]"], unfollowed := true, recurses := true, named := ["threefold/api.ErrShape", "threefold/api.ErrBound", "threefold/api.ErrNone", "threefold/api.ErrOff", "threefold/api.ErrHeld", "threefold/api.ErrText", "threefold/api.ErrFull", "threefold/api.ErrSum", "threefold/api.ErrSplit", "errors.errorType"], plainKeys := false, apart := false, laid := [("errors.errorType", laid_errors_errorType), ("threefold/api.ErrText", laid_threefold_api_ErrText), ("threefold/api.ErrBound", laid_threefold_api_ErrBound), ("threefold/api.ErrShape", laid_threefold_api_ErrShape), ("threefold/api.ErrNone", laid_threefold_api_ErrNone), ("threefold/api.ErrFull", laid_threefold_api_ErrFull), ("threefold/api.ErrOff", laid_threefold_api_ErrOff), ("threefold/api.ErrSum", laid_threefold_api_ErrSum), ("threefold/api.ErrHeld", laid_threefold_api_ErrHeld), ("threefold/api.ErrSplit", laid_threefold_api_ErrSplit)] }
def WorldStepsSaid : Prop := worldStepsRow.holds Tryz.pinned (OpenSpec.ofChange worldStepsSpec)

/-- ITS FALSE NEIGHBOUR: 'it returns false'. Refute it at one input. -/
def worldStepsWrong : ChangeSpec := { name := "worldSteps", fn := fun _ => fun
  | [d1, d2] => { results := [.lit (.bool false)], args := [d1, d2] }
  | _ => none }
def WorldStepsWrongFalsely : Prop := worldStepsRow.holds Tryz.pinned (OpenSpec.ofChange worldStepsWrong)

/-- 'threefoldlaw3.JudgeTampers': WHATEVER THE INPUT: true; the input reads as it did. -/
def judgeTampersSpec : ChangeSpec := { name := "judgeTampers", fn := fun _ => fun
  | [d1, d2, d3] => { results := [.lit (.bool true)], args := [d1, d2, d3] }
  | _ => none }
def judgeTampersRow : OpenClaim := { program := "ytadhpkopkkjmfaagreatdoor", sum := "0d2e5e899bda464cf6725df94d0711f411b78345d262009ffb836460ba0ece07", func := "threefold/threefoldlaw3.JudgeTampers", spec := "judgeTampers", inPlace := ["internal/reflectlite.ValueOf", "(internal/reflectlite.Value).Type", "(internal/reflectlite.Value).IsNil", "internal/reflectlite.TypeOf", "(internal/reflectlite.Value).Elem", "(internal/reflectlite.Value).Set", "slices.overlaps[threefold/api.Frame]"], unfollowed := true, recurses := true, named := ["threefold/api.ErrBound", "threefold/api.ErrSplit", "threefold/api.ErrHeld", "threefold/api.ErrText", "threefold/api.ErrShape", "threefold/api.ErrNone", "threefold/api.ErrFull", "threefold/api.ErrOff", "threefold/api.ErrSum", "errors.errorType"], plainKeys := false, apart := false, laid := [("errors.errorType", laid_errors_errorType), ("threefold/api.ErrText", laid_threefold_api_ErrText), ("threefold/api.ErrBound", laid_threefold_api_ErrBound), ("threefold/api.ErrShape", laid_threefold_api_ErrShape), ("threefold/api.ErrNone", laid_threefold_api_ErrNone), ("threefold/api.ErrFull", laid_threefold_api_ErrFull), ("threefold/api.ErrOff", laid_threefold_api_ErrOff), ("threefold/api.ErrSum", laid_threefold_api_ErrSum), ("threefold/api.ErrHeld", laid_threefold_api_ErrHeld), ("threefold/api.ErrSplit", laid_threefold_api_ErrSplit)] }
def JudgeTampersSaid : Prop := judgeTampersRow.holds Tryz.pinned (OpenSpec.ofChange judgeTampersSpec)

/-- ITS FALSE NEIGHBOUR: 'it returns false'. Refute it at one input. -/
def judgeTampersWrong : ChangeSpec := { name := "judgeTampers", fn := fun _ => fun
  | [d1, d2, d3] => { results := [.lit (.bool false)], args := [d1, d2, d3] }
  | _ => none }
def JudgeTampersWrongFalsely : Prop := judgeTampersRow.holds Tryz.pinned (OpenSpec.ofChange judgeTampersWrong)

/-- 'threefoldlaw3.PlayAgrees': WHATEVER THE INPUT: true; the input reads as it did. -/
def playAgreesSpec : ChangeSpec := { name := "playAgrees", fn := fun _ => fun
  | [d1, d2] => { results := [.lit (.bool true)], args := [d1, d2] }
  | _ => none }
def playAgreesRow : OpenClaim := { program := "ytadhpkopkkjmfaagreatdoor", sum := "0d2e5e899bda464cf6725df94d0711f411b78345d262009ffb836460ba0ece07", func := "threefold/threefoldlaw3.PlayAgrees", spec := "playAgrees", inPlace := ["internal/reflectlite.ValueOf", "(internal/reflectlite.Value).Type", "(internal/reflectlite.Value).IsNil", "internal/reflectlite.TypeOf", "(internal/reflectlite.Value).Elem", "(internal/reflectlite.Value).Set", "slices.overlaps[threefold/api.Frame]"], unfollowed := true, recurses := true, named := ["threefold/api.ErrShape", "threefold/api.ErrBound", "threefold/api.ErrNone", "threefold/api.ErrOff", "threefold/api.ErrHeld", "threefold/api.ErrText", "threefold/api.ErrFull", "threefold/api.ErrSum", "threefold/api.ErrSplit", "errors.errorType"], plainKeys := false, apart := false, laid := [("errors.errorType", laid_errors_errorType), ("threefold/api.ErrText", laid_threefold_api_ErrText), ("threefold/api.ErrBound", laid_threefold_api_ErrBound), ("threefold/api.ErrShape", laid_threefold_api_ErrShape), ("threefold/api.ErrNone", laid_threefold_api_ErrNone), ("threefold/api.ErrFull", laid_threefold_api_ErrFull), ("threefold/api.ErrOff", laid_threefold_api_ErrOff), ("threefold/api.ErrSum", laid_threefold_api_ErrSum), ("threefold/api.ErrHeld", laid_threefold_api_ErrHeld), ("threefold/api.ErrSplit", laid_threefold_api_ErrSplit)] }
def PlayAgreesSaid : Prop := playAgreesRow.holds Tryz.pinned (OpenSpec.ofChange playAgreesSpec)

/-- ITS FALSE NEIGHBOUR: 'it returns false'. Refute it at one input. -/
def playAgreesWrong : ChangeSpec := { name := "playAgrees", fn := fun _ => fun
  | [d1, d2] => { results := [.lit (.bool false)], args := [d1, d2] }
  | _ => none }
def PlayAgreesWrongFalsely : Prop := playAgreesRow.holds Tryz.pinned (OpenSpec.ofChange playAgreesWrong)

/-- 'threefoldlaw3.PlayAgain': WHATEVER THE INPUT: true; the input reads as it did. -/
def playAgainSpec : ChangeSpec := { name := "playAgain", fn := fun _ => fun
  | [d1, d2, d3] => { results := [.lit (.bool true)], args := [d1, d2, d3] }
  | _ => none }
def playAgainRow : OpenClaim := { program := "ytadhpkopkkjmfaagreatdoor", sum := "0d2e5e899bda464cf6725df94d0711f411b78345d262009ffb836460ba0ece07", func := "threefold/threefoldlaw3.PlayAgain", spec := "playAgain", inPlace := ["internal/reflectlite.ValueOf", "(internal/reflectlite.Value).Type", "(internal/reflectlite.Value).IsNil", "internal/reflectlite.TypeOf", "(internal/reflectlite.Value).Elem", "(internal/reflectlite.Value).Set", "slices.overlaps[threefold/api.Frame]"], unfollowed := true, recurses := true, named := ["threefold/api.ErrShape", "threefold/api.ErrBound", "threefold/api.ErrNone", "threefold/api.ErrOff", "threefold/api.ErrHeld", "threefold/api.ErrText", "threefold/api.ErrFull", "threefold/api.ErrSum", "threefold/api.ErrSplit", "errors.errorType"], plainKeys := false, apart := false, laid := [("errors.errorType", laid_errors_errorType), ("threefold/api.ErrText", laid_threefold_api_ErrText), ("threefold/api.ErrBound", laid_threefold_api_ErrBound), ("threefold/api.ErrShape", laid_threefold_api_ErrShape), ("threefold/api.ErrNone", laid_threefold_api_ErrNone), ("threefold/api.ErrFull", laid_threefold_api_ErrFull), ("threefold/api.ErrOff", laid_threefold_api_ErrOff), ("threefold/api.ErrSum", laid_threefold_api_ErrSum), ("threefold/api.ErrHeld", laid_threefold_api_ErrHeld), ("threefold/api.ErrSplit", laid_threefold_api_ErrSplit)] }
def PlayAgainSaid : Prop := playAgainRow.holds Tryz.pinned (OpenSpec.ofChange playAgainSpec)

/-- ITS FALSE NEIGHBOUR: 'it returns false'. Refute it at one input. -/
def playAgainWrong : ChangeSpec := { name := "playAgain", fn := fun _ => fun
  | [d1, d2, d3] => { results := [.lit (.bool false)], args := [d1, d2, d3] }
  | _ => none }
def PlayAgainWrongFalsely : Prop := playAgainRow.holds Tryz.pinned (OpenSpec.ofChange playAgainWrong)

/- THE SECOND FORM. 'bulk': how many values and letters a reading holds, each counted each time it is reached (what is shared counts as often as it is met; a slice's spare places count too). A statement '..UptoSaid' is the law's where the arguments, and the package variables that the reading takes, are together of bulk at most 1048576: NARROWER than '..Said'. Prove '..Said' where nothing that the law and all that it calls make is longer than what came in: it says more and counts as full. Else prove '..UptoSaid'. A law counts once. -/
mutual
def uptoBulk {H : Type} : DataW H → Nat
  | .lit (.string bytes) => bytes.length + 1
  | .lit _ => 1
  | .nil => 1
  | .ptr d => uptoBulk d + 1
  | .slice elems spare => uptoBulkAll elems + uptoBulkAll spare + 1
  | .agg parts => uptoBulkAll parts + 1
  | .iface _ d => uptoBulk d + 1
  | .map entries => uptoBulkEntries entries + 1
  | .held _ => 1
def uptoBulkAll {H : Type} : List (DataW H) → Nat
  | [] => 0
  | d :: r => uptoBulk d + uptoBulkAll r
def uptoBulkEntries {H : Type} : List (Lit × DataW H) → Nat
  | [] => 0
  | x :: r => uptoBulkEntry x + uptoBulkEntries r
def uptoBulkEntry {H : Type} : Lit × DataW H → Nat
  | (.string bytes, d) => bytes.length + uptoBulk d + 1
  | (_, d) => uptoBulk d + 1
 end
def uptoSmall : (H : Type) → List (DataW H) → Bool := fun _ ds => decide (uptoBulkAll ds ≤ 1048576)
def OpenSpec.upto (s : _root_.Go.ChangeSpec) : _root_.Go.OpenSpec := { _root_.Go.OpenSpec.ofChange s with cond := some uptoSmall }

/-- 'threefoldlaw3.WorldCommits', WHERE WHAT IT READS IS OF BULK AT MOST 1048576: true; the input reads as it did. -/
def worldCommitsUptoRow : OpenClaim := { program := "ytadhpkopkkjmfaagreatdoor", sum := "0d2e5e899bda464cf6725df94d0711f411b78345d262009ffb836460ba0ece07", func := "threefold/threefoldlaw3.WorldCommits", spec := "worldCommits", inPlace := ["internal/reflectlite.ValueOf", "(internal/reflectlite.Value).Type", "(internal/reflectlite.Value).IsNil", "internal/reflectlite.TypeOf", "(internal/reflectlite.Value).Elem", "(internal/reflectlite.Value).Set"], unfollowed := true, recurses := true, named := ["threefold/api.ErrShape", "threefold/api.ErrBound", "threefold/api.ErrNone", "threefold/api.ErrOff", "threefold/api.ErrHeld", "threefold/api.ErrText", "threefold/api.ErrFull", "threefold/api.ErrSum", "threefold/api.ErrSplit", "errors.errorType"], plainKeys := false, apart := false, laid := [("errors.errorType", laid_errors_errorType), ("threefold/api.ErrText", laid_threefold_api_ErrText), ("threefold/api.ErrBound", laid_threefold_api_ErrBound), ("threefold/api.ErrShape", laid_threefold_api_ErrShape), ("threefold/api.ErrNone", laid_threefold_api_ErrNone), ("threefold/api.ErrFull", laid_threefold_api_ErrFull), ("threefold/api.ErrOff", laid_threefold_api_ErrOff), ("threefold/api.ErrSum", laid_threefold_api_ErrSum), ("threefold/api.ErrHeld", laid_threefold_api_ErrHeld), ("threefold/api.ErrSplit", laid_threefold_api_ErrSplit)], narrowed := true }
def WorldCommitsUptoSaid : Prop := worldCommitsUptoRow.holds Tryz.pinned (OpenSpec.upto worldCommitsSpec)

/-- 'threefoldlaw3.WorldAgrees', WHERE WHAT IT READS IS OF BULK AT MOST 1048576: true; the input reads as it did. -/
def worldAgreesUptoRow : OpenClaim := { program := "ytadhpkopkkjmfaagreatdoor", sum := "0d2e5e899bda464cf6725df94d0711f411b78345d262009ffb836460ba0ece07", func := "threefold/threefoldlaw3.WorldAgrees", spec := "worldAgrees", inPlace := ["internal/reflectlite.ValueOf", "(internal/reflectlite.Value).Type", "(internal/reflectlite.Value).IsNil", "internal/reflectlite.TypeOf", "(internal/reflectlite.Value).Elem", "(internal/reflectlite.Value).Set", "slices.overlaps[threefold/api.Frame]"], unfollowed := true, recurses := true, named := ["threefold/api.ErrShape", "threefold/api.ErrBound", "threefold/api.ErrNone", "threefold/api.ErrOff", "threefold/api.ErrHeld", "threefold/api.ErrText", "threefold/api.ErrFull", "threefold/api.ErrSum", "threefold/api.ErrSplit", "errors.errorType"], plainKeys := false, apart := false, laid := [("errors.errorType", laid_errors_errorType), ("threefold/api.ErrText", laid_threefold_api_ErrText), ("threefold/api.ErrBound", laid_threefold_api_ErrBound), ("threefold/api.ErrShape", laid_threefold_api_ErrShape), ("threefold/api.ErrNone", laid_threefold_api_ErrNone), ("threefold/api.ErrFull", laid_threefold_api_ErrFull), ("threefold/api.ErrOff", laid_threefold_api_ErrOff), ("threefold/api.ErrSum", laid_threefold_api_ErrSum), ("threefold/api.ErrHeld", laid_threefold_api_ErrHeld), ("threefold/api.ErrSplit", laid_threefold_api_ErrSplit)], narrowed := true }
def WorldAgreesUptoSaid : Prop := worldAgreesUptoRow.holds Tryz.pinned (OpenSpec.upto worldAgreesSpec)

/-- 'threefoldlaw3.WorldEnds', WHERE WHAT IT READS IS OF BULK AT MOST 1048576: true; the input reads as it did. -/
def worldEndsUptoRow : OpenClaim := { program := "ytadhpkopkkjmfaagreatdoor", sum := "0d2e5e899bda464cf6725df94d0711f411b78345d262009ffb836460ba0ece07", func := "threefold/threefoldlaw3.WorldEnds", spec := "worldEnds", inPlace := ["internal/reflectlite.ValueOf", "(internal/reflectlite.Value).Type", "(internal/reflectlite.Value).IsNil", "internal/reflectlite.TypeOf", "(internal/reflectlite.Value).Elem", "(internal/reflectlite.Value).Set", "slices.overlaps[threefold/api.Frame]"], unfollowed := true, recurses := true, named := ["threefold/api.ErrShape", "threefold/api.ErrBound", "threefold/api.ErrNone", "threefold/api.ErrOff", "threefold/api.ErrHeld", "threefold/api.ErrText", "threefold/api.ErrFull", "threefold/api.ErrSum", "threefold/api.ErrSplit", "errors.errorType"], plainKeys := false, apart := false, laid := [("errors.errorType", laid_errors_errorType), ("threefold/api.ErrText", laid_threefold_api_ErrText), ("threefold/api.ErrBound", laid_threefold_api_ErrBound), ("threefold/api.ErrShape", laid_threefold_api_ErrShape), ("threefold/api.ErrNone", laid_threefold_api_ErrNone), ("threefold/api.ErrFull", laid_threefold_api_ErrFull), ("threefold/api.ErrOff", laid_threefold_api_ErrOff), ("threefold/api.ErrSum", laid_threefold_api_ErrSum), ("threefold/api.ErrHeld", laid_threefold_api_ErrHeld), ("threefold/api.ErrSplit", laid_threefold_api_ErrSplit)], narrowed := true }
def WorldEndsUptoSaid : Prop := worldEndsUptoRow.holds Tryz.pinned (OpenSpec.upto worldEndsSpec)

/-- 'threefoldlaw3.WorldWaits', WHERE WHAT IT READS IS OF BULK AT MOST 1048576: true; the input reads as it did. -/
def worldWaitsUptoRow : OpenClaim := { program := "ytadhpkopkkjmfaagreatdoor", sum := "0d2e5e899bda464cf6725df94d0711f411b78345d262009ffb836460ba0ece07", func := "threefold/threefoldlaw3.WorldWaits", spec := "worldWaits", inPlace := ["internal/reflectlite.ValueOf", "(internal/reflectlite.Value).Type", "(internal/reflectlite.Value).IsNil", "internal/reflectlite.TypeOf", "(internal/reflectlite.Value).Elem", "(internal/reflectlite.Value).Set", "slices.overlaps[threefold/api.Frame]"], unfollowed := true, recurses := true, named := ["threefold/api.ErrShape", "threefold/api.ErrBound", "threefold/api.ErrNone", "threefold/api.ErrOff", "threefold/api.ErrHeld", "threefold/api.ErrText", "threefold/api.ErrFull", "threefold/api.ErrSum", "threefold/api.ErrSplit", "errors.errorType"], plainKeys := false, apart := false, laid := [("errors.errorType", laid_errors_errorType), ("threefold/api.ErrText", laid_threefold_api_ErrText), ("threefold/api.ErrBound", laid_threefold_api_ErrBound), ("threefold/api.ErrShape", laid_threefold_api_ErrShape), ("threefold/api.ErrNone", laid_threefold_api_ErrNone), ("threefold/api.ErrFull", laid_threefold_api_ErrFull), ("threefold/api.ErrOff", laid_threefold_api_ErrOff), ("threefold/api.ErrSum", laid_threefold_api_ErrSum), ("threefold/api.ErrHeld", laid_threefold_api_ErrHeld), ("threefold/api.ErrSplit", laid_threefold_api_ErrSplit)], narrowed := true }
def WorldWaitsUptoSaid : Prop := worldWaitsUptoRow.holds Tryz.pinned (OpenSpec.upto worldWaitsSpec)

/-- 'threefoldlaw3.WorldSteps', WHERE WHAT IT READS IS OF BULK AT MOST 1048576: true; the input reads as it did. -/
def worldStepsUptoRow : OpenClaim := { program := "ytadhpkopkkjmfaagreatdoor", sum := "0d2e5e899bda464cf6725df94d0711f411b78345d262009ffb836460ba0ece07", func := "threefold/threefoldlaw3.WorldSteps", spec := "worldSteps", inPlace := ["internal/reflectlite.ValueOf", "(internal/reflectlite.Value).Type", "(internal/reflectlite.Value).IsNil", "internal/reflectlite.TypeOf", "(internal/reflectlite.Value).Elem", "(internal/reflectlite.Value).Set", "slices.overlaps[threefold/api.Frame]"], unfollowed := true, recurses := true, named := ["threefold/api.ErrShape", "threefold/api.ErrBound", "threefold/api.ErrNone", "threefold/api.ErrOff", "threefold/api.ErrHeld", "threefold/api.ErrText", "threefold/api.ErrFull", "threefold/api.ErrSum", "threefold/api.ErrSplit", "errors.errorType"], plainKeys := false, apart := false, laid := [("errors.errorType", laid_errors_errorType), ("threefold/api.ErrText", laid_threefold_api_ErrText), ("threefold/api.ErrBound", laid_threefold_api_ErrBound), ("threefold/api.ErrShape", laid_threefold_api_ErrShape), ("threefold/api.ErrNone", laid_threefold_api_ErrNone), ("threefold/api.ErrFull", laid_threefold_api_ErrFull), ("threefold/api.ErrOff", laid_threefold_api_ErrOff), ("threefold/api.ErrSum", laid_threefold_api_ErrSum), ("threefold/api.ErrHeld", laid_threefold_api_ErrHeld), ("threefold/api.ErrSplit", laid_threefold_api_ErrSplit)], narrowed := true }
def WorldStepsUptoSaid : Prop := worldStepsUptoRow.holds Tryz.pinned (OpenSpec.upto worldStepsSpec)

/-- 'threefoldlaw3.JudgeTampers', WHERE WHAT IT READS IS OF BULK AT MOST 1048576: true; the input reads as it did. -/
def judgeTampersUptoRow : OpenClaim := { program := "ytadhpkopkkjmfaagreatdoor", sum := "0d2e5e899bda464cf6725df94d0711f411b78345d262009ffb836460ba0ece07", func := "threefold/threefoldlaw3.JudgeTampers", spec := "judgeTampers", inPlace := ["internal/reflectlite.ValueOf", "(internal/reflectlite.Value).Type", "(internal/reflectlite.Value).IsNil", "internal/reflectlite.TypeOf", "(internal/reflectlite.Value).Elem", "(internal/reflectlite.Value).Set", "slices.overlaps[threefold/api.Frame]"], unfollowed := true, recurses := true, named := ["threefold/api.ErrBound", "threefold/api.ErrSplit", "threefold/api.ErrHeld", "threefold/api.ErrText", "threefold/api.ErrShape", "threefold/api.ErrNone", "threefold/api.ErrFull", "threefold/api.ErrOff", "threefold/api.ErrSum", "errors.errorType"], plainKeys := false, apart := false, laid := [("errors.errorType", laid_errors_errorType), ("threefold/api.ErrText", laid_threefold_api_ErrText), ("threefold/api.ErrBound", laid_threefold_api_ErrBound), ("threefold/api.ErrShape", laid_threefold_api_ErrShape), ("threefold/api.ErrNone", laid_threefold_api_ErrNone), ("threefold/api.ErrFull", laid_threefold_api_ErrFull), ("threefold/api.ErrOff", laid_threefold_api_ErrOff), ("threefold/api.ErrSum", laid_threefold_api_ErrSum), ("threefold/api.ErrHeld", laid_threefold_api_ErrHeld), ("threefold/api.ErrSplit", laid_threefold_api_ErrSplit)], narrowed := true }
def JudgeTampersUptoSaid : Prop := judgeTampersUptoRow.holds Tryz.pinned (OpenSpec.upto judgeTampersSpec)

/-- 'threefoldlaw3.PlayAgrees', WHERE WHAT IT READS IS OF BULK AT MOST 1048576: true; the input reads as it did. -/
def playAgreesUptoRow : OpenClaim := { program := "ytadhpkopkkjmfaagreatdoor", sum := "0d2e5e899bda464cf6725df94d0711f411b78345d262009ffb836460ba0ece07", func := "threefold/threefoldlaw3.PlayAgrees", spec := "playAgrees", inPlace := ["internal/reflectlite.ValueOf", "(internal/reflectlite.Value).Type", "(internal/reflectlite.Value).IsNil", "internal/reflectlite.TypeOf", "(internal/reflectlite.Value).Elem", "(internal/reflectlite.Value).Set", "slices.overlaps[threefold/api.Frame]"], unfollowed := true, recurses := true, named := ["threefold/api.ErrShape", "threefold/api.ErrBound", "threefold/api.ErrNone", "threefold/api.ErrOff", "threefold/api.ErrHeld", "threefold/api.ErrText", "threefold/api.ErrFull", "threefold/api.ErrSum", "threefold/api.ErrSplit", "errors.errorType"], plainKeys := false, apart := false, laid := [("errors.errorType", laid_errors_errorType), ("threefold/api.ErrText", laid_threefold_api_ErrText), ("threefold/api.ErrBound", laid_threefold_api_ErrBound), ("threefold/api.ErrShape", laid_threefold_api_ErrShape), ("threefold/api.ErrNone", laid_threefold_api_ErrNone), ("threefold/api.ErrFull", laid_threefold_api_ErrFull), ("threefold/api.ErrOff", laid_threefold_api_ErrOff), ("threefold/api.ErrSum", laid_threefold_api_ErrSum), ("threefold/api.ErrHeld", laid_threefold_api_ErrHeld), ("threefold/api.ErrSplit", laid_threefold_api_ErrSplit)], narrowed := true }
def PlayAgreesUptoSaid : Prop := playAgreesUptoRow.holds Tryz.pinned (OpenSpec.upto playAgreesSpec)

/-- 'threefoldlaw3.PlayAgain', WHERE WHAT IT READS IS OF BULK AT MOST 1048576: true; the input reads as it did. -/
def playAgainUptoRow : OpenClaim := { program := "ytadhpkopkkjmfaagreatdoor", sum := "0d2e5e899bda464cf6725df94d0711f411b78345d262009ffb836460ba0ece07", func := "threefold/threefoldlaw3.PlayAgain", spec := "playAgain", inPlace := ["internal/reflectlite.ValueOf", "(internal/reflectlite.Value).Type", "(internal/reflectlite.Value).IsNil", "internal/reflectlite.TypeOf", "(internal/reflectlite.Value).Elem", "(internal/reflectlite.Value).Set", "slices.overlaps[threefold/api.Frame]"], unfollowed := true, recurses := true, named := ["threefold/api.ErrShape", "threefold/api.ErrBound", "threefold/api.ErrNone", "threefold/api.ErrOff", "threefold/api.ErrHeld", "threefold/api.ErrText", "threefold/api.ErrFull", "threefold/api.ErrSum", "threefold/api.ErrSplit", "errors.errorType"], plainKeys := false, apart := false, laid := [("errors.errorType", laid_errors_errorType), ("threefold/api.ErrText", laid_threefold_api_ErrText), ("threefold/api.ErrBound", laid_threefold_api_ErrBound), ("threefold/api.ErrShape", laid_threefold_api_ErrShape), ("threefold/api.ErrNone", laid_threefold_api_ErrNone), ("threefold/api.ErrFull", laid_threefold_api_ErrFull), ("threefold/api.ErrOff", laid_threefold_api_ErrOff), ("threefold/api.ErrSum", laid_threefold_api_ErrSum), ("threefold/api.ErrHeld", laid_threefold_api_ErrHeld), ("threefold/api.ErrSplit", laid_threefold_api_ErrSplit)], narrowed := true }
def PlayAgainUptoSaid : Prop := playAgainUptoRow.holds Tryz.pinned (OpenSpec.upto playAgainSpec)

end Rows
end Go.Proofs.YtadhpkopkkjmfaaGreatDoor
