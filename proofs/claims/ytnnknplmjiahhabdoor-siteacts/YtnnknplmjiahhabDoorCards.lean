/-
  DERIVED. GIVEN WITH THE SEED: THE CARDS: each row of YtnnknplmjiahhabDoorRows.lean that lists a variable, with what it lists TIED to the program's text (the seventh form; the later family's looks); each row that meets fmt, with fmt's text TOLD by the authors' own Lean function (tested against real Go, not proved from fmt's source: count such statements apart). THE CARD IS WHAT COUNTS. Prove the row's statement (the work); the ties are given (YtnnknplmjiahhabDoorTie.lean); close each card by the builder's one call (the guide's Derived/Test/ToyasCard.lean, 'card_holds'). Laid BY PROGRAM, IN A SANDBOX (cutbox-door.mjs). By AI agents, Wed Nov 11 2026. No macro, syntax, notation, axiom, sorry.
-/
import Derived.Test.YtnnknplmjiahhabDoorRows
import GoSem.ClaimSeven
namespace Go.Proofs.YtnnknplmjiahhabDoor
namespace Rows

/-- THE TIED CARD OF 'threefoldlaw2.SiteRises'. -/
def siteRisesCard : Claim7 := { stood := { row := siteRisesRow, standIns := [], harness := (true, "18f5c63143b49bbe5c3753fd781d21fda2f40117e71cc242f113e6aff3a7383d"), looks := true }, kinds := [], alts := [], laidByText := true, laidKinds := [.sentinel, .sentinel, .sentinel, .sentinel], laidTests := true, laidLooks := .later }
def SiteRisesCardSaid : Prop := Claim7.holds Tryd.pinned (.plain (OpenSpec.ofChange siteRisesSpec)) siteRisesCard

/-- THE TIED CARD OF 'threefoldlaw2.SiteKeeps'. -/
def siteKeepsCard : Claim7 := { stood := { row := siteKeepsRow, standIns := [], harness := (true, "18f5c63143b49bbe5c3753fd781d21fda2f40117e71cc242f113e6aff3a7383d"), looks := true }, kinds := [], alts := [], laidByText := true, laidKinds := [.sentinel, .sentinel, .sentinel, .sentinel], laidTests := true, laidLooks := .later }
def SiteKeepsCardSaid : Prop := Claim7.holds Tryd.pinned (.plain (OpenSpec.ofChange siteKeepsSpec)) siteKeepsCard

/-- THE TIED CARD OF 'threefoldlaw2.SiteActs'. -/
def siteActsCard : Claim7 := { stood := { row := siteActsRow, standIns := [], harness := (true, "18f5c63143b49bbe5c3753fd781d21fda2f40117e71cc242f113e6aff3a7383d"), looks := true }, kinds := [], alts := [], laidByText := true, laidKinds := [.handle, .sentinel, .sentinel, .sentinel, .sentinel, .sentinel, .sentinel, .sentinel, .sentinel, .sentinel], laidTests := true, laidLooks := .later }
def SiteActsCardSaid : Prop := Claim7.holds Tryd.pinned (.plain (OpenSpec.ofChange siteActsSpec)) siteActsCard

/-- THE SECOND FORM's CARD OF 'threefoldlaw2.SiteRises'. -/
def siteRisesUptoCard : Claim7 := { stood := { row := siteRisesUptoRow, standIns := [], harness := (true, "18f5c63143b49bbe5c3753fd781d21fda2f40117e71cc242f113e6aff3a7383d"), looks := true }, kinds := [], alts := [], laidByText := true, laidKinds := [.sentinel, .sentinel, .sentinel, .sentinel], laidTests := true, laidLooks := .later }
def SiteRisesUptoCardSaid : Prop := Claim7.holds Tryd.pinned (.plain (OpenSpec.upto siteRisesSpec)) siteRisesUptoCard

/-- THE SECOND FORM's CARD OF 'threefoldlaw2.SiteKeeps'. -/
def siteKeepsUptoCard : Claim7 := { stood := { row := siteKeepsUptoRow, standIns := [], harness := (true, "18f5c63143b49bbe5c3753fd781d21fda2f40117e71cc242f113e6aff3a7383d"), looks := true }, kinds := [], alts := [], laidByText := true, laidKinds := [.sentinel, .sentinel, .sentinel, .sentinel], laidTests := true, laidLooks := .later }
def SiteKeepsUptoCardSaid : Prop := Claim7.holds Tryd.pinned (.plain (OpenSpec.upto siteKeepsSpec)) siteKeepsUptoCard

/-- THE SECOND FORM's CARD OF 'threefoldlaw2.SiteActs'. -/
def siteActsUptoCard : Claim7 := { stood := { row := siteActsUptoRow, standIns := [], harness := (true, "18f5c63143b49bbe5c3753fd781d21fda2f40117e71cc242f113e6aff3a7383d"), looks := true }, kinds := [], alts := [], laidByText := true, laidKinds := [.handle, .sentinel, .sentinel, .sentinel, .sentinel, .sentinel, .sentinel, .sentinel, .sentinel, .sentinel], laidTests := true, laidLooks := .later }
def SiteActsUptoCardSaid : Prop := Claim7.holds Tryd.pinned (.plain (OpenSpec.upto siteActsSpec)) siteActsUptoCard
end Rows
end Go.Proofs.YtnnknplmjiahhabDoor
