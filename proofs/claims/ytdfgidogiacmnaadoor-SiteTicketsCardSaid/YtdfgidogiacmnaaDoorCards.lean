/-
  DERIVED. GIVEN WITH THE SEED: THE CARDS: each row of YtdfgidogiacmnaaDoorRows.lean that lists a variable, with what it lists TIED to the program's text (the seventh form; the later family's looks); each row that meets fmt, with fmt's text TOLD by the authors' own Lean function (tested against real Go, not proved from fmt's source: count such statements apart). THE CARD IS WHAT COUNTS. Prove the row's statement (the work); the ties are given (YtdfgidogiacmnaaDoorTie.lean); close each card by the builder's one call (the guide's Derived/Test/ToyasCard.lean, 'card_holds'). Laid BY PROGRAM, IN A SANDBOX (cutbox-door.mjs). By AI agents, Wed Nov 11 2026. No macro, syntax, notation, axiom, sorry.
-/
import Derived.Test.YtdfgidogiacmnaaDoorRows
import GoSem.ClaimSeven
namespace Go.Proofs.YtdfgidogiacmnaaDoor
namespace Rows

/-- THE TIED CARD OF 'castellanlaw05.SiteNumbers'. -/
def siteNumbersCard : Claim7 := { stood := { row := siteNumbersRow, standIns := [], harness := (true, "1cf5277cad608c87291bedea4a357ce7f5425518c762556e15a3956f5addc105"), looks := true }, kinds := [], alts := [], laidByText := true, laidKinds := [.data, .data, .data, .data, .sentinel, .sentinel, .pinned], laidTests := true, laidLooks := .later }
def SiteNumbersCardSaid : Prop := Claim7.holds Tryd.pinned (.plain (OpenSpec.ofChange siteNumbersSpec)) siteNumbersCard

/-- THE TIED CARD OF 'castellanlaw05.SiteTickets'. -/
def siteTicketsCard : Claim7 := { stood := { row := siteTicketsRow, standIns := [], harness := (true, "1cf5277cad608c87291bedea4a357ce7f5425518c762556e15a3956f5addc105"), looks := true }, kinds := [], alts := [], laidByText := true, laidKinds := [.data, .data, .data, .data, .sentinel, .sentinel, .pinned], laidTests := true, laidLooks := .later }
def SiteTicketsCardSaid : Prop := Claim7.holds Tryd.pinned (.plain (OpenSpec.ofChange siteTicketsSpec)) siteTicketsCard

/-- THE TIED CARD OF 'castellanlaw05.SiteNames'. -/
def siteNamesCard : Claim7 := { stood := { row := siteNamesRow, standIns := [], harness := (true, "1cf5277cad608c87291bedea4a357ce7f5425518c762556e15a3956f5addc105"), looks := true }, kinds := [], alts := [], laidByText := true, laidKinds := [.data, .data, .data, .data, .sentinel, .sentinel, .pinned], laidTests := true, laidLooks := .later }
def SiteNamesCardSaid : Prop := Claim7.holds Tryd.pinned (.plain (OpenSpec.ofChange siteNamesSpec)) siteNamesCard

/-- THE TIED CARD OF 'castellanlaw05.SiteEach'. -/
def siteEachCard : Claim7 := { stood := { row := siteEachRow, standIns := [], harness := (true, "1cf5277cad608c87291bedea4a357ce7f5425518c762556e15a3956f5addc105"), looks := true }, kinds := [], alts := [], laidByText := true, laidKinds := [.data, .data, .data, .data, .sentinel, .sentinel, .pinned], laidTests := true, laidLooks := .later }
def SiteEachCardSaid : Prop := Claim7.holds Tryd.pinned (.plain (OpenSpec.ofChange siteEachSpec)) siteEachCard

/-- THE TIED CARD OF 'castellanlaw05.SiteOrders'. -/
def siteOrdersCard : Claim7 := { stood := { row := siteOrdersRow, standIns := [], harness := (true, "1cf5277cad608c87291bedea4a357ce7f5425518c762556e15a3956f5addc105"), looks := true }, kinds := [], alts := [], laidByText := true, laidKinds := [.data, .data, .data, .data, .sentinel, .sentinel, .pinned], laidTests := true, laidLooks := .later }
def SiteOrdersCardSaid : Prop := Claim7.holds Tryd.pinned (.plain (OpenSpec.ofChange siteOrdersSpec)) siteOrdersCard

/-- THE TIED CARD OF 'castellanlaw05.SiteHolds'. -/
def siteHoldsCard : Claim7 := { stood := { row := siteHoldsRow, standIns := [], harness := (true, "1cf5277cad608c87291bedea4a357ce7f5425518c762556e15a3956f5addc105"), looks := true }, kinds := [], alts := [], laidByText := true, laidKinds := [.data, .data, .data, .data, .sentinel, .sentinel, .pinned], laidTests := true, laidLooks := .later }
def SiteHoldsCardSaid : Prop := Claim7.holds Tryd.pinned (.plain (OpenSpec.ofChange siteHoldsSpec)) siteHoldsCard

/-- THE SECOND FORM's CARD OF 'castellanlaw05.SiteNumbers'. -/
def siteNumbersUptoCard : Claim7 := { stood := { row := siteNumbersUptoRow, standIns := [], harness := (true, "1cf5277cad608c87291bedea4a357ce7f5425518c762556e15a3956f5addc105"), looks := true }, kinds := [], alts := [], laidByText := true, laidKinds := [.data, .data, .data, .data, .sentinel, .sentinel, .pinned], laidTests := true, laidLooks := .later }
def SiteNumbersUptoCardSaid : Prop := Claim7.holds Tryd.pinned (.plain (OpenSpec.upto siteNumbersSpec)) siteNumbersUptoCard

/-- THE SECOND FORM's CARD OF 'castellanlaw05.SiteTickets'. -/
def siteTicketsUptoCard : Claim7 := { stood := { row := siteTicketsUptoRow, standIns := [], harness := (true, "1cf5277cad608c87291bedea4a357ce7f5425518c762556e15a3956f5addc105"), looks := true }, kinds := [], alts := [], laidByText := true, laidKinds := [.data, .data, .data, .data, .sentinel, .sentinel, .pinned], laidTests := true, laidLooks := .later }
def SiteTicketsUptoCardSaid : Prop := Claim7.holds Tryd.pinned (.plain (OpenSpec.upto siteTicketsSpec)) siteTicketsUptoCard

/-- THE SECOND FORM's CARD OF 'castellanlaw05.SiteNames'. -/
def siteNamesUptoCard : Claim7 := { stood := { row := siteNamesUptoRow, standIns := [], harness := (true, "1cf5277cad608c87291bedea4a357ce7f5425518c762556e15a3956f5addc105"), looks := true }, kinds := [], alts := [], laidByText := true, laidKinds := [.data, .data, .data, .data, .sentinel, .sentinel, .pinned], laidTests := true, laidLooks := .later }
def SiteNamesUptoCardSaid : Prop := Claim7.holds Tryd.pinned (.plain (OpenSpec.upto siteNamesSpec)) siteNamesUptoCard

/-- THE SECOND FORM's CARD OF 'castellanlaw05.SiteEach'. -/
def siteEachUptoCard : Claim7 := { stood := { row := siteEachUptoRow, standIns := [], harness := (true, "1cf5277cad608c87291bedea4a357ce7f5425518c762556e15a3956f5addc105"), looks := true }, kinds := [], alts := [], laidByText := true, laidKinds := [.data, .data, .data, .data, .sentinel, .sentinel, .pinned], laidTests := true, laidLooks := .later }
def SiteEachUptoCardSaid : Prop := Claim7.holds Tryd.pinned (.plain (OpenSpec.upto siteEachSpec)) siteEachUptoCard

/-- THE SECOND FORM's CARD OF 'castellanlaw05.SiteOrders'. -/
def siteOrdersUptoCard : Claim7 := { stood := { row := siteOrdersUptoRow, standIns := [], harness := (true, "1cf5277cad608c87291bedea4a357ce7f5425518c762556e15a3956f5addc105"), looks := true }, kinds := [], alts := [], laidByText := true, laidKinds := [.data, .data, .data, .data, .sentinel, .sentinel, .pinned], laidTests := true, laidLooks := .later }
def SiteOrdersUptoCardSaid : Prop := Claim7.holds Tryd.pinned (.plain (OpenSpec.upto siteOrdersSpec)) siteOrdersUptoCard

/-- THE SECOND FORM's CARD OF 'castellanlaw05.SiteHolds'. -/
def siteHoldsUptoCard : Claim7 := { stood := { row := siteHoldsUptoRow, standIns := [], harness := (true, "1cf5277cad608c87291bedea4a357ce7f5425518c762556e15a3956f5addc105"), looks := true }, kinds := [], alts := [], laidByText := true, laidKinds := [.data, .data, .data, .data, .sentinel, .sentinel, .pinned], laidTests := true, laidLooks := .later }
def SiteHoldsUptoCardSaid : Prop := Claim7.holds Tryd.pinned (.plain (OpenSpec.upto siteHoldsSpec)) siteHoldsUptoCard
end Rows
end Go.Proofs.YtdfgidogiacmnaaDoor
