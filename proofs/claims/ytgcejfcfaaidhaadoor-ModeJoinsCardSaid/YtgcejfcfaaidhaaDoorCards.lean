/-
  DERIVED. GIVEN WITH THE SEED: THE CARDS: each row of YtgcejfcfaaidhaaDoorRows.lean that lists a variable, with what it lists TIED to the program's text (the seventh form; the later family's looks); each row that meets fmt, with fmt's text TOLD by the authors' own Lean function (tested against real Go, not proved from fmt's source: count such statements apart). THE CARD IS WHAT COUNTS. Prove the row's statement (the work); the ties are given (YtgcejfcfaaidhaaDoorTie.lean); close each card by the builder's one call (the guide's Derived/Test/ToyasCard.lean, 'card_holds'). Laid BY PROGRAM, IN A SANDBOX (cutbox-door.mjs). By AI agents, Wed Nov 11 2026. No macro, syntax, notation, axiom, sorry.
-/
import Derived.Test.YtgcejfcfaaidhaaDoorRows
import GoSem.ClaimSeven
namespace Go.Proofs.YtgcejfcfaaidhaaDoor
namespace Rows

/-- THE TIED CARD OF 'castellanlaw03.ModePairs'. -/
def modePairsCard : Claim7 := { stood := { row := modePairsRow, standIns := [], harness := (true, "1aba234cab0e7bbf27c63b8655ad961d6edd3615c7c1980458b5d1b42e830b40"), looks := true }, kinds := [], alts := [], laidByText := true, laidKinds := [.data, .data, .data], laidTests := true, laidLooks := .later }
def ModePairsCardSaid : Prop := Claim7.holds Tryd.pinned (.plain (OpenSpec.ofChange modePairsSpec)) modePairsCard

/-- THE TIED CARD OF 'castellanlaw03.ModeJoins'. -/
def modeJoinsCard : Claim7 := { stood := { row := modeJoinsRow, standIns := [], harness := (true, "1aba234cab0e7bbf27c63b8655ad961d6edd3615c7c1980458b5d1b42e830b40"), looks := true }, kinds := [], alts := [], laidByText := true, laidKinds := [.data, .data, .data], laidTests := true, laidLooks := .later }
def ModeJoinsCardSaid : Prop := Claim7.holds Tryd.pinned (.plain (OpenSpec.ofChange modeJoinsSpec)) modeJoinsCard

/-- THE TIED CARD OF 'castellanlaw03.ModeNames'. -/
def modeNamesCard : Claim7 := { stood := { row := modeNamesRow, standIns := [], harness := (true, "1aba234cab0e7bbf27c63b8655ad961d6edd3615c7c1980458b5d1b42e830b40"), looks := true }, kinds := [], alts := [], laidByText := true, laidKinds := [.data, .data, .data], laidTests := true, laidLooks := .later }
def ModeNamesCardSaid : Prop := Claim7.holds Tryd.pinned (.plain (OpenSpec.ofChange modeNamesSpec)) modeNamesCard

/-- THE TIED CARD OF 'castellanlaw03.ModeEach'. -/
def modeEachCard : Claim7 := { stood := { row := modeEachRow, standIns := [], harness := (true, "1aba234cab0e7bbf27c63b8655ad961d6edd3615c7c1980458b5d1b42e830b40"), looks := true }, kinds := [], alts := [], laidByText := true, laidKinds := [.data, .data, .data], laidTests := true, laidLooks := .later }
def ModeEachCardSaid : Prop := Claim7.holds Tryd.pinned (.plain (OpenSpec.ofChange modeEachSpec)) modeEachCard

/-- THE TIED CARD OF 'castellanlaw03.ModeHolds'. -/
def modeHoldsCard : Claim7 := { stood := { row := modeHoldsRow, standIns := [], harness := (true, "1aba234cab0e7bbf27c63b8655ad961d6edd3615c7c1980458b5d1b42e830b40"), looks := true }, kinds := [], alts := [], laidByText := true, laidKinds := [.data, .data, .data], laidTests := true, laidLooks := .later }
def ModeHoldsCardSaid : Prop := Claim7.holds Tryd.pinned (.plain (OpenSpec.ofChange modeHoldsSpec)) modeHoldsCard

/-- THE TIED CARD OF 'castellanlaw05.SiteNumbers'. -/
def siteNumbersCard : Claim7 := { stood := { row := siteNumbersRow, standIns := [], harness := (true, "1aba234cab0e7bbf27c63b8655ad961d6edd3615c7c1980458b5d1b42e830b40"), looks := true }, kinds := [], alts := [], laidByText := true, laidKinds := [.data, .data, .data, .data, .sentinel, .sentinel, .pinned], laidTests := true, laidLooks := .later }
def SiteNumbersCardSaid : Prop := Claim7.holds Tryd.pinned (.plain (OpenSpec.ofChange siteNumbersSpec)) siteNumbersCard

/-- THE TIED CARD OF 'castellanlaw05.SiteTickets'. -/
def siteTicketsCard : Claim7 := { stood := { row := siteTicketsRow, standIns := [], harness := (true, "1aba234cab0e7bbf27c63b8655ad961d6edd3615c7c1980458b5d1b42e830b40"), looks := true }, kinds := [], alts := [], laidByText := true, laidKinds := [.data, .data, .data, .data, .sentinel, .sentinel, .pinned], laidTests := true, laidLooks := .later }
def SiteTicketsCardSaid : Prop := Claim7.holds Tryd.pinned (.plain (OpenSpec.ofChange siteTicketsSpec)) siteTicketsCard

/-- THE SECOND FORM's CARD OF 'castellanlaw03.ModePairs'. -/
def modePairsUptoCard : Claim7 := { stood := { row := modePairsUptoRow, standIns := [], harness := (true, "1aba234cab0e7bbf27c63b8655ad961d6edd3615c7c1980458b5d1b42e830b40"), looks := true }, kinds := [], alts := [], laidByText := true, laidKinds := [.data, .data, .data], laidTests := true, laidLooks := .later }
def ModePairsUptoCardSaid : Prop := Claim7.holds Tryd.pinned (.plain (OpenSpec.upto modePairsSpec)) modePairsUptoCard

/-- THE SECOND FORM's CARD OF 'castellanlaw03.ModeJoins'. -/
def modeJoinsUptoCard : Claim7 := { stood := { row := modeJoinsUptoRow, standIns := [], harness := (true, "1aba234cab0e7bbf27c63b8655ad961d6edd3615c7c1980458b5d1b42e830b40"), looks := true }, kinds := [], alts := [], laidByText := true, laidKinds := [.data, .data, .data], laidTests := true, laidLooks := .later }
def ModeJoinsUptoCardSaid : Prop := Claim7.holds Tryd.pinned (.plain (OpenSpec.upto modeJoinsSpec)) modeJoinsUptoCard

/-- THE SECOND FORM's CARD OF 'castellanlaw03.ModeNames'. -/
def modeNamesUptoCard : Claim7 := { stood := { row := modeNamesUptoRow, standIns := [], harness := (true, "1aba234cab0e7bbf27c63b8655ad961d6edd3615c7c1980458b5d1b42e830b40"), looks := true }, kinds := [], alts := [], laidByText := true, laidKinds := [.data, .data, .data], laidTests := true, laidLooks := .later }
def ModeNamesUptoCardSaid : Prop := Claim7.holds Tryd.pinned (.plain (OpenSpec.upto modeNamesSpec)) modeNamesUptoCard

/-- THE SECOND FORM's CARD OF 'castellanlaw03.ModeEach'. -/
def modeEachUptoCard : Claim7 := { stood := { row := modeEachUptoRow, standIns := [], harness := (true, "1aba234cab0e7bbf27c63b8655ad961d6edd3615c7c1980458b5d1b42e830b40"), looks := true }, kinds := [], alts := [], laidByText := true, laidKinds := [.data, .data, .data], laidTests := true, laidLooks := .later }
def ModeEachUptoCardSaid : Prop := Claim7.holds Tryd.pinned (.plain (OpenSpec.upto modeEachSpec)) modeEachUptoCard

/-- THE SECOND FORM's CARD OF 'castellanlaw03.ModeHolds'. -/
def modeHoldsUptoCard : Claim7 := { stood := { row := modeHoldsUptoRow, standIns := [], harness := (true, "1aba234cab0e7bbf27c63b8655ad961d6edd3615c7c1980458b5d1b42e830b40"), looks := true }, kinds := [], alts := [], laidByText := true, laidKinds := [.data, .data, .data], laidTests := true, laidLooks := .later }
def ModeHoldsUptoCardSaid : Prop := Claim7.holds Tryd.pinned (.plain (OpenSpec.upto modeHoldsSpec)) modeHoldsUptoCard

/-- THE SECOND FORM's CARD OF 'castellanlaw05.SiteNumbers'. -/
def siteNumbersUptoCard : Claim7 := { stood := { row := siteNumbersUptoRow, standIns := [], harness := (true, "1aba234cab0e7bbf27c63b8655ad961d6edd3615c7c1980458b5d1b42e830b40"), looks := true }, kinds := [], alts := [], laidByText := true, laidKinds := [.data, .data, .data, .data, .sentinel, .sentinel, .pinned], laidTests := true, laidLooks := .later }
def SiteNumbersUptoCardSaid : Prop := Claim7.holds Tryd.pinned (.plain (OpenSpec.upto siteNumbersSpec)) siteNumbersUptoCard

/-- THE SECOND FORM's CARD OF 'castellanlaw05.SiteTickets'. -/
def siteTicketsUptoCard : Claim7 := { stood := { row := siteTicketsUptoRow, standIns := [], harness := (true, "1aba234cab0e7bbf27c63b8655ad961d6edd3615c7c1980458b5d1b42e830b40"), looks := true }, kinds := [], alts := [], laidByText := true, laidKinds := [.data, .data, .data, .data, .sentinel, .sentinel, .pinned], laidTests := true, laidLooks := .later }
def SiteTicketsUptoCardSaid : Prop := Claim7.holds Tryd.pinned (.plain (OpenSpec.upto siteTicketsSpec)) siteTicketsUptoCard
end Rows
end Go.Proofs.YtgcejfcfaaidhaaDoor
