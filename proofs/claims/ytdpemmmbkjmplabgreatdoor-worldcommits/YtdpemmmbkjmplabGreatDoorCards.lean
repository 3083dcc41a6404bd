/-
  DERIVED. GIVEN WITH THE SEED: THE CARDS: each row of YtdpemmmbkjmplabGreatDoorRows.lean that lists a variable, with what it lists TIED to the program's text (the seventh form; the later family's looks); each row that meets fmt, with fmt's text TOLD by the authors' own Lean function (tested against real Go, not proved from fmt's source: count such statements apart). THE CARD IS WHAT COUNTS. Prove the row's statement (the work); the ties are given (YtdpemmmbkjmplabGreatDoorTie.lean); close each card by the builder's one call (the guide's Derived/Test/ToyasCard.lean, 'card_holds'). Laid BY PROGRAM, IN A SANDBOX (cutbox-door.mjs). By AI agents, Wed Nov 11 2026. No macro, syntax, notation, axiom, sorry.
-/
import Derived.Test.YtdpemmmbkjmplabGreatDoorRows
import GoSem.ClaimSeven
namespace Go.Proofs.YtdpemmmbkjmplabGreatDoor
namespace Rows

/-- THE TIED CARD OF 'threefoldlaw3.WorldCommits'. -/
def worldCommitsCard : Claim7 := { stood := { row := worldCommitsRow, standIns := [], harness := (true, "173bc78baadb8e586c138a9182651ad9d867d70a38d45d8e3a58871ccca22079"), looks := true }, kinds := [], alts := [], laidByText := true, laidKinds := [.handle, .sentinel, .sentinel, .sentinel, .sentinel, .sentinel, .sentinel, .sentinel, .sentinel, .sentinel], laidTests := true, laidLooks := .later }
def WorldCommitsCardSaid : Prop := Claim7.holds Tryz.pinned (.plain (OpenSpec.ofChange worldCommitsSpec)) worldCommitsCard

/-- THE TIED CARD OF 'threefoldlaw3.WorldAgrees'. -/
def worldAgreesCard : Claim7 := { stood := { row := worldAgreesRow, standIns := [], harness := (true, "173bc78baadb8e586c138a9182651ad9d867d70a38d45d8e3a58871ccca22079"), looks := true }, kinds := [], alts := [], laidByText := true, laidKinds := [.handle, .sentinel, .sentinel, .sentinel, .sentinel, .sentinel, .sentinel, .sentinel, .sentinel, .sentinel], laidTests := true, laidLooks := .later }
def WorldAgreesCardSaid : Prop := Claim7.holds Tryz.pinned (.plain (OpenSpec.ofChange worldAgreesSpec)) worldAgreesCard

/-- THE TIED CARD OF 'threefoldlaw3.WorldEnds'. -/
def worldEndsCard : Claim7 := { stood := { row := worldEndsRow, standIns := [], harness := (true, "173bc78baadb8e586c138a9182651ad9d867d70a38d45d8e3a58871ccca22079"), looks := true }, kinds := [], alts := [], laidByText := true, laidKinds := [.handle, .sentinel, .sentinel, .sentinel, .sentinel, .sentinel, .sentinel, .sentinel, .sentinel, .sentinel], laidTests := true, laidLooks := .later }
def WorldEndsCardSaid : Prop := Claim7.holds Tryz.pinned (.plain (OpenSpec.ofChange worldEndsSpec)) worldEndsCard

/-- THE TIED CARD OF 'threefoldlaw3.WorldWaits'. -/
def worldWaitsCard : Claim7 := { stood := { row := worldWaitsRow, standIns := [], harness := (true, "173bc78baadb8e586c138a9182651ad9d867d70a38d45d8e3a58871ccca22079"), looks := true }, kinds := [], alts := [], laidByText := true, laidKinds := [.handle, .sentinel, .sentinel, .sentinel, .sentinel, .sentinel, .sentinel, .sentinel, .sentinel, .sentinel], laidTests := true, laidLooks := .later }
def WorldWaitsCardSaid : Prop := Claim7.holds Tryz.pinned (.plain (OpenSpec.ofChange worldWaitsSpec)) worldWaitsCard

/-- THE SECOND FORM's CARD OF 'threefoldlaw3.WorldCommits'. -/
def worldCommitsUptoCard : Claim7 := { stood := { row := worldCommitsUptoRow, standIns := [], harness := (true, "173bc78baadb8e586c138a9182651ad9d867d70a38d45d8e3a58871ccca22079"), looks := true }, kinds := [], alts := [], laidByText := true, laidKinds := [.handle, .sentinel, .sentinel, .sentinel, .sentinel, .sentinel, .sentinel, .sentinel, .sentinel, .sentinel], laidTests := true, laidLooks := .later }
def WorldCommitsUptoCardSaid : Prop := Claim7.holds Tryz.pinned (.plain (OpenSpec.upto worldCommitsSpec)) worldCommitsUptoCard

/-- THE SECOND FORM's CARD OF 'threefoldlaw3.WorldAgrees'. -/
def worldAgreesUptoCard : Claim7 := { stood := { row := worldAgreesUptoRow, standIns := [], harness := (true, "173bc78baadb8e586c138a9182651ad9d867d70a38d45d8e3a58871ccca22079"), looks := true }, kinds := [], alts := [], laidByText := true, laidKinds := [.handle, .sentinel, .sentinel, .sentinel, .sentinel, .sentinel, .sentinel, .sentinel, .sentinel, .sentinel], laidTests := true, laidLooks := .later }
def WorldAgreesUptoCardSaid : Prop := Claim7.holds Tryz.pinned (.plain (OpenSpec.upto worldAgreesSpec)) worldAgreesUptoCard

/-- THE SECOND FORM's CARD OF 'threefoldlaw3.WorldEnds'. -/
def worldEndsUptoCard : Claim7 := { stood := { row := worldEndsUptoRow, standIns := [], harness := (true, "173bc78baadb8e586c138a9182651ad9d867d70a38d45d8e3a58871ccca22079"), looks := true }, kinds := [], alts := [], laidByText := true, laidKinds := [.handle, .sentinel, .sentinel, .sentinel, .sentinel, .sentinel, .sentinel, .sentinel, .sentinel, .sentinel], laidTests := true, laidLooks := .later }
def WorldEndsUptoCardSaid : Prop := Claim7.holds Tryz.pinned (.plain (OpenSpec.upto worldEndsSpec)) worldEndsUptoCard

/-- THE SECOND FORM's CARD OF 'threefoldlaw3.WorldWaits'. -/
def worldWaitsUptoCard : Claim7 := { stood := { row := worldWaitsUptoRow, standIns := [], harness := (true, "173bc78baadb8e586c138a9182651ad9d867d70a38d45d8e3a58871ccca22079"), looks := true }, kinds := [], alts := [], laidByText := true, laidKinds := [.handle, .sentinel, .sentinel, .sentinel, .sentinel, .sentinel, .sentinel, .sentinel, .sentinel, .sentinel], laidTests := true, laidLooks := .later }
def WorldWaitsUptoCardSaid : Prop := Claim7.holds Tryz.pinned (.plain (OpenSpec.upto worldWaitsSpec)) worldWaitsUptoCard
end Rows
end Go.Proofs.YtdpemmmbkjmplabGreatDoor
