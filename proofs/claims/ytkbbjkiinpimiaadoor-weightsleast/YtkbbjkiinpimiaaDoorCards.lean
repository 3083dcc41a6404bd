/-
  DERIVED. GIVEN WITH THE SEED: THE CARDS: each row of YtkbbjkiinpimiaaDoorRows.lean that lists a variable, with what it lists TIED to the program's text (the seventh form; the later family's looks); each row that meets fmt, with fmt's text TOLD by the authors' own Lean function (tested against real Go, not proved from fmt's source: count such statements apart). THE CARD IS WHAT COUNTS. Prove the row's statement (the work); the ties are given (YtkbbjkiinpimiaaDoorTie.lean); close each card by the builder's one call (the guide's Derived/Test/ToyasCard.lean, 'card_holds'). Laid BY PROGRAM, IN A SANDBOX (cutbox-door.mjs). By AI agents, Wed Nov 11 2026. No macro, syntax, notation, axiom, sorry.
-/
import Derived.Test.YtkbbjkiinpimiaaDoorRows
import GoSem.ClaimSeven
namespace Go.Proofs.YtkbbjkiinpimiaaDoor
namespace Rows

/-- THE TIED CARD OF 'threefoldlaw1.Names'. -/
def namesCard : Claim7 := { stood := { row := namesRow, standIns := [], harness := (true, "735348e9c0cf52280048881f0f57806a867c06a8c2fe66deb843f2d81b989f80"), looks := true }, kinds := [], alts := [], laidByText := true, laidKinds := [.handle, .sentinel, .sentinel, .sentinel, .sentinel, .sentinel, .sentinel, .sentinel, .sentinel, .sentinel], laidTests := true, laidLooks := .later }
def NamesCardSaid : Prop := Claim7.holds Tryd.pinned (.plain (OpenSpec.ofChange namesSpec)) namesCard

/-- THE TIED CARD OF 'threefoldlaw1.WeightsSets'. -/
def weightsSetsCard : Claim7 := { stood := { row := weightsSetsRow, standIns := [], harness := (true, "735348e9c0cf52280048881f0f57806a867c06a8c2fe66deb843f2d81b989f80"), looks := true }, kinds := [], alts := [], laidByText := true, laidKinds := [.handle, .sentinel, .sentinel, .sentinel, .sentinel, .sentinel, .sentinel, .sentinel, .sentinel, .sentinel], laidTests := true, laidLooks := .later }
def WeightsSetsCardSaid : Prop := Claim7.holds Tryd.pinned (.plain (OpenSpec.ofChange weightsSetsSpec)) weightsSetsCard

/-- THE TIED CARD OF 'threefoldlaw1.WeightsLeast'. -/
def weightsLeastCard : Claim7 := { stood := { row := weightsLeastRow, standIns := [], harness := (true, "735348e9c0cf52280048881f0f57806a867c06a8c2fe66deb843f2d81b989f80"), looks := true }, kinds := [], alts := [], laidByText := true, laidKinds := [.handle, .sentinel, .sentinel, .sentinel, .sentinel, .sentinel, .sentinel, .sentinel, .sentinel, .sentinel], laidTests := true, laidLooks := .later }
def WeightsLeastCardSaid : Prop := Claim7.holds Tryd.pinned (.plain (OpenSpec.ofChange weightsLeastSpec)) weightsLeastCard

/-- THE TIED CARD OF 'threefoldlaw1.WeightsMeet'. -/
def weightsMeetCard : Claim7 := { stood := { row := weightsMeetRow, standIns := [], harness := (true, "735348e9c0cf52280048881f0f57806a867c06a8c2fe66deb843f2d81b989f80"), looks := true }, kinds := [], alts := [], laidByText := true, laidKinds := [.sentinel, .sentinel, .sentinel], laidTests := true, laidLooks := .later }
def WeightsMeetCardSaid : Prop := Claim7.holds Tryd.pinned (.plain (OpenSpec.ofChange weightsMeetSpec)) weightsMeetCard

/-- THE TIED CARD OF 'threefoldlaw1.WeightsMany'. -/
def weightsManyCard : Claim7 := { stood := { row := weightsManyRow, standIns := [], harness := (true, "735348e9c0cf52280048881f0f57806a867c06a8c2fe66deb843f2d81b989f80"), looks := true }, kinds := [], alts := [], laidByText := true, laidKinds := [.sentinel, .sentinel, .sentinel], laidTests := true, laidLooks := .later }
def WeightsManyCardSaid : Prop := Claim7.holds Tryd.pinned (.plain (OpenSpec.ofChange weightsManySpec)) weightsManyCard

/-- THE TIED CARD OF 'threefoldlaw1.PlateActs'. -/
def plateActsCard : Claim7 := { stood := { row := plateActsRow, standIns := [], harness := (true, "735348e9c0cf52280048881f0f57806a867c06a8c2fe66deb843f2d81b989f80"), looks := true }, kinds := [], alts := [], laidByText := true, laidKinds := [.handle, .sentinel, .sentinel, .sentinel, .sentinel, .sentinel, .sentinel, .sentinel, .sentinel, .sentinel], laidTests := true, laidLooks := .later }
def PlateActsCardSaid : Prop := Claim7.holds Tryd.pinned (.plain (OpenSpec.ofChange plateActsSpec)) plateActsCard

/-- THE TIED CARD OF 'threefoldlaw1.JournalCuts'. -/
def journalCutsCard : Claim7 := { stood := { row := journalCutsRow, standIns := [], harness := (true, "735348e9c0cf52280048881f0f57806a867c06a8c2fe66deb843f2d81b989f80"), looks := true }, kinds := [], alts := [], laidByText := true, laidKinds := [.handle, .sentinel, .sentinel, .sentinel, .sentinel, .sentinel, .sentinel, .sentinel, .sentinel, .sentinel], laidTests := true, laidLooks := .later }
def JournalCutsCardSaid : Prop := Claim7.holds Tryd.pinned (.plain (OpenSpec.ofChange journalCutsSpec)) journalCutsCard

/-- THE TIED CARD OF 'threefoldlaw1.JournalLast'. -/
def journalLastCard : Claim7 := { stood := { row := journalLastRow, standIns := [], harness := (true, "735348e9c0cf52280048881f0f57806a867c06a8c2fe66deb843f2d81b989f80"), looks := true }, kinds := [], alts := [], laidByText := true, laidKinds := [.sentinel, .sentinel, .sentinel, .sentinel], laidTests := true, laidLooks := .later }
def JournalLastCardSaid : Prop := Claim7.holds Tryd.pinned (.plain (OpenSpec.ofChange journalLastSpec)) journalLastCard

/-- THE TIED CARD OF 'threefoldlaw1.JournalActs'. -/
def journalActsCard : Claim7 := { stood := { row := journalActsRow, standIns := [], harness := (true, "735348e9c0cf52280048881f0f57806a867c06a8c2fe66deb843f2d81b989f80"), looks := true }, kinds := [], alts := [], laidByText := true, laidKinds := [.handle, .sentinel, .sentinel, .sentinel, .sentinel, .sentinel, .sentinel, .sentinel, .sentinel, .sentinel], laidTests := true, laidLooks := .later }
def JournalActsCardSaid : Prop := Claim7.holds Tryd.pinned (.plain (OpenSpec.ofChange journalActsSpec)) journalActsCard

/-- THE TIED CARD OF 'threefoldlaw1.WireCodes'. -/
def wireCodesCard : Claim7 := { stood := { row := wireCodesRow, standIns := [], harness := (true, "735348e9c0cf52280048881f0f57806a867c06a8c2fe66deb843f2d81b989f80"), looks := true }, kinds := [], alts := [], laidByText := true, laidKinds := [.handle, .sentinel, .sentinel, .sentinel, .sentinel, .sentinel, .sentinel, .sentinel, .sentinel, .sentinel], laidTests := true, laidLooks := .later }
def WireCodesCardSaid : Prop := Claim7.holds Tryd.pinned (.plain (OpenSpec.ofChange wireCodesSpec)) wireCodesCard

/-- THE TIED CARD OF 'threefoldlaw1.WireReads'. -/
def wireReadsCard : Claim7 := { stood := { row := wireReadsRow, standIns := [], harness := (true, "735348e9c0cf52280048881f0f57806a867c06a8c2fe66deb843f2d81b989f80"), looks := true }, kinds := [], alts := [], laidByText := true, laidKinds := [.handle, .sentinel, .sentinel, .sentinel, .sentinel, .sentinel, .sentinel, .sentinel, .sentinel, .sentinel], laidTests := true, laidLooks := .later }
def WireReadsCardSaid : Prop := Claim7.holds Tryd.pinned (.plain (OpenSpec.ofChange wireReadsSpec)) wireReadsCard

/-- THE TIED CARD OF 'threefoldlaw1.WireBurst'. -/
def wireBurstCard : Claim7 := { stood := { row := wireBurstRow, standIns := [], harness := (true, "735348e9c0cf52280048881f0f57806a867c06a8c2fe66deb843f2d81b989f80"), looks := true }, kinds := [], alts := [], laidByText := true, laidKinds := [.handle, .sentinel, .sentinel, .sentinel, .sentinel, .sentinel, .sentinel, .sentinel, .sentinel, .sentinel], laidTests := true, laidLooks := .later }
def WireBurstCardSaid : Prop := Claim7.holds Tryd.pinned (.plain (OpenSpec.ofChange wireBurstSpec)) wireBurstCard

/-- THE SECOND FORM's CARD OF 'threefoldlaw1.Names'. -/
def namesUptoCard : Claim7 := { stood := { row := namesUptoRow, standIns := [], harness := (true, "735348e9c0cf52280048881f0f57806a867c06a8c2fe66deb843f2d81b989f80"), looks := true }, kinds := [], alts := [], laidByText := true, laidKinds := [.handle, .sentinel, .sentinel, .sentinel, .sentinel, .sentinel, .sentinel, .sentinel, .sentinel, .sentinel], laidTests := true, laidLooks := .later }
def NamesUptoCardSaid : Prop := Claim7.holds Tryd.pinned (.plain (OpenSpec.upto namesSpec)) namesUptoCard

/-- THE SECOND FORM's CARD OF 'threefoldlaw1.WeightsSets'. -/
def weightsSetsUptoCard : Claim7 := { stood := { row := weightsSetsUptoRow, standIns := [], harness := (true, "735348e9c0cf52280048881f0f57806a867c06a8c2fe66deb843f2d81b989f80"), looks := true }, kinds := [], alts := [], laidByText := true, laidKinds := [.handle, .sentinel, .sentinel, .sentinel, .sentinel, .sentinel, .sentinel, .sentinel, .sentinel, .sentinel], laidTests := true, laidLooks := .later }
def WeightsSetsUptoCardSaid : Prop := Claim7.holds Tryd.pinned (.plain (OpenSpec.upto weightsSetsSpec)) weightsSetsUptoCard

/-- THE SECOND FORM's CARD OF 'threefoldlaw1.WeightsLeast'. -/
def weightsLeastUptoCard : Claim7 := { stood := { row := weightsLeastUptoRow, standIns := [], harness := (true, "735348e9c0cf52280048881f0f57806a867c06a8c2fe66deb843f2d81b989f80"), looks := true }, kinds := [], alts := [], laidByText := true, laidKinds := [.handle, .sentinel, .sentinel, .sentinel, .sentinel, .sentinel, .sentinel, .sentinel, .sentinel, .sentinel], laidTests := true, laidLooks := .later }
def WeightsLeastUptoCardSaid : Prop := Claim7.holds Tryd.pinned (.plain (OpenSpec.upto weightsLeastSpec)) weightsLeastUptoCard

/-- THE SECOND FORM's CARD OF 'threefoldlaw1.WeightsMeet'. -/
def weightsMeetUptoCard : Claim7 := { stood := { row := weightsMeetUptoRow, standIns := [], harness := (true, "735348e9c0cf52280048881f0f57806a867c06a8c2fe66deb843f2d81b989f80"), looks := true }, kinds := [], alts := [], laidByText := true, laidKinds := [.sentinel, .sentinel, .sentinel], laidTests := true, laidLooks := .later }
def WeightsMeetUptoCardSaid : Prop := Claim7.holds Tryd.pinned (.plain (OpenSpec.upto weightsMeetSpec)) weightsMeetUptoCard

/-- THE SECOND FORM's CARD OF 'threefoldlaw1.WeightsMany'. -/
def weightsManyUptoCard : Claim7 := { stood := { row := weightsManyUptoRow, standIns := [], harness := (true, "735348e9c0cf52280048881f0f57806a867c06a8c2fe66deb843f2d81b989f80"), looks := true }, kinds := [], alts := [], laidByText := true, laidKinds := [.sentinel, .sentinel, .sentinel], laidTests := true, laidLooks := .later }
def WeightsManyUptoCardSaid : Prop := Claim7.holds Tryd.pinned (.plain (OpenSpec.upto weightsManySpec)) weightsManyUptoCard

/-- THE SECOND FORM's CARD OF 'threefoldlaw1.PlateActs'. -/
def plateActsUptoCard : Claim7 := { stood := { row := plateActsUptoRow, standIns := [], harness := (true, "735348e9c0cf52280048881f0f57806a867c06a8c2fe66deb843f2d81b989f80"), looks := true }, kinds := [], alts := [], laidByText := true, laidKinds := [.handle, .sentinel, .sentinel, .sentinel, .sentinel, .sentinel, .sentinel, .sentinel, .sentinel, .sentinel], laidTests := true, laidLooks := .later }
def PlateActsUptoCardSaid : Prop := Claim7.holds Tryd.pinned (.plain (OpenSpec.upto plateActsSpec)) plateActsUptoCard

/-- THE SECOND FORM's CARD OF 'threefoldlaw1.JournalCuts'. -/
def journalCutsUptoCard : Claim7 := { stood := { row := journalCutsUptoRow, standIns := [], harness := (true, "735348e9c0cf52280048881f0f57806a867c06a8c2fe66deb843f2d81b989f80"), looks := true }, kinds := [], alts := [], laidByText := true, laidKinds := [.handle, .sentinel, .sentinel, .sentinel, .sentinel, .sentinel, .sentinel, .sentinel, .sentinel, .sentinel], laidTests := true, laidLooks := .later }
def JournalCutsUptoCardSaid : Prop := Claim7.holds Tryd.pinned (.plain (OpenSpec.upto journalCutsSpec)) journalCutsUptoCard

/-- THE SECOND FORM's CARD OF 'threefoldlaw1.JournalLast'. -/
def journalLastUptoCard : Claim7 := { stood := { row := journalLastUptoRow, standIns := [], harness := (true, "735348e9c0cf52280048881f0f57806a867c06a8c2fe66deb843f2d81b989f80"), looks := true }, kinds := [], alts := [], laidByText := true, laidKinds := [.sentinel, .sentinel, .sentinel, .sentinel], laidTests := true, laidLooks := .later }
def JournalLastUptoCardSaid : Prop := Claim7.holds Tryd.pinned (.plain (OpenSpec.upto journalLastSpec)) journalLastUptoCard

/-- THE SECOND FORM's CARD OF 'threefoldlaw1.JournalActs'. -/
def journalActsUptoCard : Claim7 := { stood := { row := journalActsUptoRow, standIns := [], harness := (true, "735348e9c0cf52280048881f0f57806a867c06a8c2fe66deb843f2d81b989f80"), looks := true }, kinds := [], alts := [], laidByText := true, laidKinds := [.handle, .sentinel, .sentinel, .sentinel, .sentinel, .sentinel, .sentinel, .sentinel, .sentinel, .sentinel], laidTests := true, laidLooks := .later }
def JournalActsUptoCardSaid : Prop := Claim7.holds Tryd.pinned (.plain (OpenSpec.upto journalActsSpec)) journalActsUptoCard

/-- THE SECOND FORM's CARD OF 'threefoldlaw1.WireCodes'. -/
def wireCodesUptoCard : Claim7 := { stood := { row := wireCodesUptoRow, standIns := [], harness := (true, "735348e9c0cf52280048881f0f57806a867c06a8c2fe66deb843f2d81b989f80"), looks := true }, kinds := [], alts := [], laidByText := true, laidKinds := [.handle, .sentinel, .sentinel, .sentinel, .sentinel, .sentinel, .sentinel, .sentinel, .sentinel, .sentinel], laidTests := true, laidLooks := .later }
def WireCodesUptoCardSaid : Prop := Claim7.holds Tryd.pinned (.plain (OpenSpec.upto wireCodesSpec)) wireCodesUptoCard

/-- THE SECOND FORM's CARD OF 'threefoldlaw1.WireReads'. -/
def wireReadsUptoCard : Claim7 := { stood := { row := wireReadsUptoRow, standIns := [], harness := (true, "735348e9c0cf52280048881f0f57806a867c06a8c2fe66deb843f2d81b989f80"), looks := true }, kinds := [], alts := [], laidByText := true, laidKinds := [.handle, .sentinel, .sentinel, .sentinel, .sentinel, .sentinel, .sentinel, .sentinel, .sentinel, .sentinel], laidTests := true, laidLooks := .later }
def WireReadsUptoCardSaid : Prop := Claim7.holds Tryd.pinned (.plain (OpenSpec.upto wireReadsSpec)) wireReadsUptoCard

/-- THE SECOND FORM's CARD OF 'threefoldlaw1.WireBurst'. -/
def wireBurstUptoCard : Claim7 := { stood := { row := wireBurstUptoRow, standIns := [], harness := (true, "735348e9c0cf52280048881f0f57806a867c06a8c2fe66deb843f2d81b989f80"), looks := true }, kinds := [], alts := [], laidByText := true, laidKinds := [.handle, .sentinel, .sentinel, .sentinel, .sentinel, .sentinel, .sentinel, .sentinel, .sentinel, .sentinel], laidTests := true, laidLooks := .later }
def WireBurstUptoCardSaid : Prop := Claim7.holds Tryd.pinned (.plain (OpenSpec.upto wireBurstSpec)) wireBurstUptoCard
end Rows
end Go.Proofs.YtkbbjkiinpimiaaDoor
