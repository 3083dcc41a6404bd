/-
  DERIVED. GIVEN WITH THE SEED: THE CARDS: each row of YtkopfpaldmapdaaDoorRows.lean that lists a variable, with what it lists TIED to the program's text (the seventh form; the later family's looks); each row that meets fmt, with fmt's text TOLD by the authors' own Lean function (tested against real Go, not proved from fmt's source: count such statements apart). THE CARD IS WHAT COUNTS. Prove the row's statement (the work); the ties are given (YtkopfpaldmapdaaDoorTie.lean); close each card by the builder's one call (the guide's Derived/Test/ToyasCard.lean, 'card_holds'). Laid BY PROGRAM, IN A SANDBOX (cutbox-door.mjs). By AI agents, Wed Nov 11 2026. No macro, syntax, notation, axiom, sorry.
-/
import Derived.Test.YtkopfpaldmapdaaDoorRows
import GoSem.ClaimSeven
namespace Go.Proofs.YtkopfpaldmapdaaDoor
namespace Rows

/-- THE TIED CARD OF 'threefoldlaw2.SiteRises'. -/
def siteRisesCard : Claim7 := { stood := { row := siteRisesRow, standIns := [], harness := (true, "c98bb2ab714abf0bd1cdf370ea15a595efe7599456d9a6a9bd83af87f299848e"), looks := true }, kinds := [], alts := [], laidByText := true, laidKinds := [.sentinel, .sentinel, .sentinel, .sentinel], laidTests := true, laidLooks := .later }
def SiteRisesCardSaid : Prop := Claim7.holds Tryd.pinned (.plain (OpenSpec.ofChange siteRisesSpec)) siteRisesCard

/-- THE TIED CARD OF 'threefoldlaw2.SiteKeeps'. -/
def siteKeepsCard : Claim7 := { stood := { row := siteKeepsRow, standIns := [], harness := (true, "c98bb2ab714abf0bd1cdf370ea15a595efe7599456d9a6a9bd83af87f299848e"), looks := true }, kinds := [], alts := [], laidByText := true, laidKinds := [.sentinel, .sentinel, .sentinel, .sentinel], laidTests := true, laidLooks := .later }
def SiteKeepsCardSaid : Prop := Claim7.holds Tryd.pinned (.plain (OpenSpec.ofChange siteKeepsSpec)) siteKeepsCard

/-- THE TIED CARD OF 'threefoldlaw2.SiteActs'. -/
def siteActsCard : Claim7 := { stood := { row := siteActsRow, standIns := [], harness := (true, "c98bb2ab714abf0bd1cdf370ea15a595efe7599456d9a6a9bd83af87f299848e"), looks := true }, kinds := [], alts := [], laidByText := true, laidKinds := [.handle, .sentinel, .sentinel, .sentinel, .sentinel, .sentinel, .sentinel, .sentinel, .sentinel, .sentinel], laidTests := true, laidLooks := .later }
def SiteActsCardSaid : Prop := Claim7.holds Tryd.pinned (.plain (OpenSpec.ofChange siteActsSpec)) siteActsCard

/-- THE TIED CARD OF 'threefoldlaw2.LeadDecides'. -/
def leadDecidesCard : Claim7 := { stood := { row := leadDecidesRow, standIns := [], harness := (true, "c98bb2ab714abf0bd1cdf370ea15a595efe7599456d9a6a9bd83af87f299848e"), looks := true }, kinds := [], alts := [], laidByText := true, laidKinds := [.sentinel, .sentinel, .sentinel], laidTests := true, laidLooks := .later }
def LeadDecidesCardSaid : Prop := Claim7.holds Tryd.pinned (.plain (OpenSpec.ofChange leadDecidesSpec)) leadDecidesCard

/-- THE TIED CARD OF 'threefoldlaw2.LeadStale'. -/
def leadStaleCard : Claim7 := { stood := { row := leadStaleRow, standIns := [], harness := (true, "c98bb2ab714abf0bd1cdf370ea15a595efe7599456d9a6a9bd83af87f299848e"), looks := true }, kinds := [], alts := [], laidByText := true, laidKinds := [.sentinel, .sentinel, .sentinel], laidTests := true, laidLooks := .later }
def LeadStaleCardSaid : Prop := Claim7.holds Tryd.pinned (.plain (OpenSpec.ofChange leadStaleSpec)) leadStaleCard

/-- THE SECOND FORM's CARD OF 'threefoldlaw2.SiteRises'. -/
def siteRisesUptoCard : Claim7 := { stood := { row := siteRisesUptoRow, standIns := [], harness := (true, "c98bb2ab714abf0bd1cdf370ea15a595efe7599456d9a6a9bd83af87f299848e"), looks := true }, kinds := [], alts := [], laidByText := true, laidKinds := [.sentinel, .sentinel, .sentinel, .sentinel], laidTests := true, laidLooks := .later }
def SiteRisesUptoCardSaid : Prop := Claim7.holds Tryd.pinned (.plain (OpenSpec.upto siteRisesSpec)) siteRisesUptoCard

/-- THE SECOND FORM's CARD OF 'threefoldlaw2.SiteKeeps'. -/
def siteKeepsUptoCard : Claim7 := { stood := { row := siteKeepsUptoRow, standIns := [], harness := (true, "c98bb2ab714abf0bd1cdf370ea15a595efe7599456d9a6a9bd83af87f299848e"), looks := true }, kinds := [], alts := [], laidByText := true, laidKinds := [.sentinel, .sentinel, .sentinel, .sentinel], laidTests := true, laidLooks := .later }
def SiteKeepsUptoCardSaid : Prop := Claim7.holds Tryd.pinned (.plain (OpenSpec.upto siteKeepsSpec)) siteKeepsUptoCard

/-- THE SECOND FORM's CARD OF 'threefoldlaw2.SiteActs'. -/
def siteActsUptoCard : Claim7 := { stood := { row := siteActsUptoRow, standIns := [], harness := (true, "c98bb2ab714abf0bd1cdf370ea15a595efe7599456d9a6a9bd83af87f299848e"), looks := true }, kinds := [], alts := [], laidByText := true, laidKinds := [.handle, .sentinel, .sentinel, .sentinel, .sentinel, .sentinel, .sentinel, .sentinel, .sentinel, .sentinel], laidTests := true, laidLooks := .later }
def SiteActsUptoCardSaid : Prop := Claim7.holds Tryd.pinned (.plain (OpenSpec.upto siteActsSpec)) siteActsUptoCard

/-- THE SECOND FORM's CARD OF 'threefoldlaw2.LeadDecides'. -/
def leadDecidesUptoCard : Claim7 := { stood := { row := leadDecidesUptoRow, standIns := [], harness := (true, "c98bb2ab714abf0bd1cdf370ea15a595efe7599456d9a6a9bd83af87f299848e"), looks := true }, kinds := [], alts := [], laidByText := true, laidKinds := [.sentinel, .sentinel, .sentinel], laidTests := true, laidLooks := .later }
def LeadDecidesUptoCardSaid : Prop := Claim7.holds Tryd.pinned (.plain (OpenSpec.upto leadDecidesSpec)) leadDecidesUptoCard

/-- THE SECOND FORM's CARD OF 'threefoldlaw2.LeadStale'. -/
def leadStaleUptoCard : Claim7 := { stood := { row := leadStaleUptoRow, standIns := [], harness := (true, "c98bb2ab714abf0bd1cdf370ea15a595efe7599456d9a6a9bd83af87f299848e"), looks := true }, kinds := [], alts := [], laidByText := true, laidKinds := [.sentinel, .sentinel, .sentinel], laidTests := true, laidLooks := .later }
def LeadStaleUptoCardSaid : Prop := Claim7.holds Tryd.pinned (.plain (OpenSpec.upto leadStaleSpec)) leadStaleUptoCard
end Rows
end Go.Proofs.YtkopfpaldmapdaaDoor
