/-
  DERIVED. GIVEN WITH THE SEED: THE CARDS: each row of YtmolmmhkbfehgacDoorRows.lean that lists a variable, with what it lists TIED to the program's text (the seventh form; the later family's looks); each row that meets fmt, with fmt's text TOLD by the authors' own Lean function (tested against real Go, not proved from fmt's source: count such statements apart). THE CARD IS WHAT COUNTS. Prove the row's statement (the work); the ties are given (YtmolmmhkbfehgacDoorTie.lean); close each card by the builder's one call (the guide's Derived/Test/ToyasCard.lean, 'card_holds'). Laid BY PROGRAM, IN A SANDBOX (cutbox-door.mjs). By AI agents, Wed Nov 11 2026. No macro, syntax, notation, axiom, sorry.
-/
import Derived.Test.YtmolmmhkbfehgacDoorRows
import GoSem.ClaimSeven
namespace Go.Proofs.YtmolmmhkbfehgacDoor
namespace Rows

/-- THE TIED CARD OF 'threefoldlaw3.JudgeChecks'. -/
def judgeChecksCard : Claim7 := { stood := { row := judgeChecksRow, standIns := [], harness := (true, "f95242bac202816a98dc429eb17e933269809524ba68233375bcc5f59339a875"), looks := true }, kinds := [], alts := [], laidByText := true, laidKinds := [.handle, .sentinel, .sentinel, .sentinel, .sentinel, .sentinel, .sentinel, .sentinel, .sentinel, .sentinel], laidTests := true, laidLooks := .later }
def JudgeChecksCardSaid : Prop := Claim7.holds Tryd.pinned (.plain (OpenSpec.ofChange judgeChecksSpec)) judgeChecksCard

/-- THE TIED CARD OF 'threefoldlaw3.JudgeTampers'. -/
def judgeTampersCard : Claim7 := { stood := { row := judgeTampersRow, standIns := [], harness := (true, "f95242bac202816a98dc429eb17e933269809524ba68233375bcc5f59339a875"), looks := true }, kinds := [], alts := [], laidByText := true, laidKinds := [.handle, .sentinel, .sentinel, .sentinel, .sentinel, .sentinel, .sentinel, .sentinel, .sentinel, .sentinel], laidTests := true, laidLooks := .later }
def JudgeTampersCardSaid : Prop := Claim7.holds Tryd.pinned (.plain (OpenSpec.ofChange judgeTampersSpec)) judgeTampersCard

/-- THE TIED CARD OF 'threefoldlaw3.PlayAgrees'. -/
def playAgreesCard : Claim7 := { stood := { row := playAgreesRow, standIns := [], harness := (true, "f95242bac202816a98dc429eb17e933269809524ba68233375bcc5f59339a875"), looks := true }, kinds := [], alts := [], laidByText := true, laidKinds := [.handle, .sentinel, .sentinel, .sentinel, .sentinel, .sentinel, .sentinel, .sentinel, .sentinel, .sentinel], laidTests := true, laidLooks := .later }
def PlayAgreesCardSaid : Prop := Claim7.holds Tryd.pinned (.plain (OpenSpec.ofChange playAgreesSpec)) playAgreesCard

/-- THE TIED CARD OF 'threefoldlaw3.PlayAgain'. -/
def playAgainCard : Claim7 := { stood := { row := playAgainRow, standIns := [], harness := (true, "f95242bac202816a98dc429eb17e933269809524ba68233375bcc5f59339a875"), looks := true }, kinds := [], alts := [], laidByText := true, laidKinds := [.handle, .sentinel, .sentinel, .sentinel, .sentinel, .sentinel, .sentinel, .sentinel, .sentinel, .sentinel], laidTests := true, laidLooks := .later }
def PlayAgainCardSaid : Prop := Claim7.holds Tryd.pinned (.plain (OpenSpec.ofChange playAgainSpec)) playAgainCard

/-- THE SECOND FORM's CARD OF 'threefoldlaw3.JudgeChecks'. -/
def judgeChecksUptoCard : Claim7 := { stood := { row := judgeChecksUptoRow, standIns := [], harness := (true, "f95242bac202816a98dc429eb17e933269809524ba68233375bcc5f59339a875"), looks := true }, kinds := [], alts := [], laidByText := true, laidKinds := [.handle, .sentinel, .sentinel, .sentinel, .sentinel, .sentinel, .sentinel, .sentinel, .sentinel, .sentinel], laidTests := true, laidLooks := .later }
def JudgeChecksUptoCardSaid : Prop := Claim7.holds Tryd.pinned (.plain (OpenSpec.upto judgeChecksSpec)) judgeChecksUptoCard

/-- THE SECOND FORM's CARD OF 'threefoldlaw3.JudgeTampers'. -/
def judgeTampersUptoCard : Claim7 := { stood := { row := judgeTampersUptoRow, standIns := [], harness := (true, "f95242bac202816a98dc429eb17e933269809524ba68233375bcc5f59339a875"), looks := true }, kinds := [], alts := [], laidByText := true, laidKinds := [.handle, .sentinel, .sentinel, .sentinel, .sentinel, .sentinel, .sentinel, .sentinel, .sentinel, .sentinel], laidTests := true, laidLooks := .later }
def JudgeTampersUptoCardSaid : Prop := Claim7.holds Tryd.pinned (.plain (OpenSpec.upto judgeTampersSpec)) judgeTampersUptoCard

/-- THE SECOND FORM's CARD OF 'threefoldlaw3.PlayAgrees'. -/
def playAgreesUptoCard : Claim7 := { stood := { row := playAgreesUptoRow, standIns := [], harness := (true, "f95242bac202816a98dc429eb17e933269809524ba68233375bcc5f59339a875"), looks := true }, kinds := [], alts := [], laidByText := true, laidKinds := [.handle, .sentinel, .sentinel, .sentinel, .sentinel, .sentinel, .sentinel, .sentinel, .sentinel, .sentinel], laidTests := true, laidLooks := .later }
def PlayAgreesUptoCardSaid : Prop := Claim7.holds Tryd.pinned (.plain (OpenSpec.upto playAgreesSpec)) playAgreesUptoCard

/-- THE SECOND FORM's CARD OF 'threefoldlaw3.PlayAgain'. -/
def playAgainUptoCard : Claim7 := { stood := { row := playAgainUptoRow, standIns := [], harness := (true, "f95242bac202816a98dc429eb17e933269809524ba68233375bcc5f59339a875"), looks := true }, kinds := [], alts := [], laidByText := true, laidKinds := [.handle, .sentinel, .sentinel, .sentinel, .sentinel, .sentinel, .sentinel, .sentinel, .sentinel, .sentinel], laidTests := true, laidLooks := .later }
def PlayAgainUptoCardSaid : Prop := Claim7.holds Tryd.pinned (.plain (OpenSpec.upto playAgainSpec)) playAgainUptoCard
end Rows
end Go.Proofs.YtmolmmhkbfehgacDoor
