/-
  DERIVED. GIVEN WITH THE SEED: THE CARDS: each row of YteblnjgghbclpaaDoorRows.lean that lists a variable, with what it lists TIED to the program's text (the seventh form; the later family's looks); each row that meets fmt, with fmt's text TOLD by the authors' own Lean function (tested against real Go, not proved from fmt's source: count such statements apart). THE CARD IS WHAT COUNTS. Prove the row's statement (the work); the ties are given (YteblnjgghbclpaaDoorTie.lean); close each card by the builder's one call (the guide's Derived/Test/ToyasCard.lean, 'card_holds'). Laid BY PROGRAM, IN A SANDBOX (cutbox-door.mjs). By AI agents, Wed Nov 11 2026. No macro, syntax, notation, axiom, sorry.
-/
import Derived.Test.YteblnjgghbclpaaDoorRows
import GoSem.ClaimSeven
namespace Go.Proofs.YteblnjgghbclpaaDoor
namespace Rows

/-- THE TIED CARD OF 'castellanlaw12.WaitAdds'. -/
def waitAddsCard : Claim7 := { stood := { row := waitAddsRow, standIns := [], harness := (true, "265af66ad916a9b8aa456ba570da502ef0943f0145a639c026b6432c7bea3a61"), looks := false }, kinds := [], alts := [], laidByText := true, laidKinds := [.data], laidTests := true, laidLooks := .later }
def WaitAddsCardSaid : Prop := Claim7.holds Tryd.pinned (.plain (OpenSpec.ofChange waitAddsSpec)) waitAddsCard

/-- THE TIED CARD OF 'castellanlaw12.WaitOrders'. -/
def waitOrdersCard : Claim7 := { stood := { row := waitOrdersRow, standIns := [], harness := (true, "265af66ad916a9b8aa456ba570da502ef0943f0145a639c026b6432c7bea3a61"), looks := false }, kinds := [], alts := [], laidByText := true, laidKinds := [.data], laidTests := true, laidLooks := .later }
def WaitOrdersCardSaid : Prop := Claim7.holds Tryd.pinned (.plain (OpenSpec.ofChange waitOrdersSpec)) waitOrdersCard

/-- THE TIED CARD OF 'castellanlaw12.WaitNexts'. -/
def waitNextsCard : Claim7 := { stood := { row := waitNextsRow, standIns := [], harness := (true, "265af66ad916a9b8aa456ba570da502ef0943f0145a639c026b6432c7bea3a61"), looks := false }, kinds := [], alts := [], laidByText := true, laidKinds := [.data], laidTests := true, laidLooks := .later }
def WaitNextsCardSaid : Prop := Claim7.holds Tryd.pinned (.plain (OpenSpec.ofChange waitNextsSpec)) waitNextsCard

/-- THE TIED CARD OF 'castellanlaw12.WaitGrants'. -/
def waitGrantsCard : Claim7 := { stood := { row := waitGrantsRow, standIns := [], harness := (true, "265af66ad916a9b8aa456ba570da502ef0943f0145a639c026b6432c7bea3a61"), looks := false }, kinds := [], alts := [], laidByText := true, laidKinds := [.data], laidTests := true, laidLooks := .later }
def WaitGrantsCardSaid : Prop := Claim7.holds Tryd.pinned (.plain (OpenSpec.ofChange waitGrantsSpec)) waitGrantsCard

/-- THE TIED CARD OF 'castellanlaw12.WaitAnyone'. -/
def waitAnyoneCard : Claim7 := { stood := { row := waitAnyoneRow, standIns := [], harness := (true, "265af66ad916a9b8aa456ba570da502ef0943f0145a639c026b6432c7bea3a61"), looks := false }, kinds := [], alts := [], laidByText := true, laidKinds := [.data], laidTests := true, laidLooks := .later }
def WaitAnyoneCardSaid : Prop := Claim7.holds Tryd.pinned (.plain (OpenSpec.ofChange waitAnyoneSpec)) waitAnyoneCard

/-- THE TIED CARD OF 'castellanlaw12.WaitHolds'. -/
def waitHoldsCard : Claim7 := { stood := { row := waitHoldsRow, standIns := [], harness := (true, "265af66ad916a9b8aa456ba570da502ef0943f0145a639c026b6432c7bea3a61"), looks := false }, kinds := [], alts := [], laidByText := true, laidKinds := [.data], laidTests := true, laidLooks := .later }
def WaitHoldsCardSaid : Prop := Claim7.holds Tryd.pinned (.plain (OpenSpec.ofChange waitHoldsSpec)) waitHoldsCard

/-- THE TIED CARD OF 'castellanlaw13.HoldAdds'. -/
def holdAddsCard : Claim7 := { stood := { row := holdAddsRow, standIns := [], harness := (true, "265af66ad916a9b8aa456ba570da502ef0943f0145a639c026b6432c7bea3a61"), looks := false }, kinds := [], alts := [], laidByText := true, laidKinds := [.data], laidTests := true, laidLooks := .later }
def HoldAddsCardSaid : Prop := Claim7.holds Tryd.pinned (.plain (OpenSpec.ofChange holdAddsSpec)) holdAddsCard

/-- THE TIED CARD OF 'castellanlaw13.HoldEnds'. -/
def holdEndsCard : Claim7 := { stood := { row := holdEndsRow, standIns := [], harness := (true, "265af66ad916a9b8aa456ba570da502ef0943f0145a639c026b6432c7bea3a61"), looks := false }, kinds := [], alts := [], laidByText := true, laidKinds := [.data], laidTests := true, laidLooks := .later }
def HoldEndsCardSaid : Prop := Claim7.holds Tryd.pinned (.plain (OpenSpec.ofChange holdEndsSpec)) holdEndsCard

/-- THE TIED CARD OF 'castellanlaw13.HoldAsks'. -/
def holdAsksCard : Claim7 := { stood := { row := holdAsksRow, standIns := [], harness := (true, "265af66ad916a9b8aa456ba570da502ef0943f0145a639c026b6432c7bea3a61"), looks := false }, kinds := [], alts := [], laidByText := true, laidKinds := [.data], laidTests := true, laidLooks := .later }
def HoldAsksCardSaid : Prop := Claim7.holds Tryd.pinned (.plain (OpenSpec.ofChange holdAsksSpec)) holdAsksCard

/-- THE TIED CARD OF 'castellanlaw13.HoldEach'. -/
def holdEachCard : Claim7 := { stood := { row := holdEachRow, standIns := [], harness := (true, "265af66ad916a9b8aa456ba570da502ef0943f0145a639c026b6432c7bea3a61"), looks := false }, kinds := [], alts := [], laidByText := true, laidKinds := [.data], laidTests := true, laidLooks := .later }
def HoldEachCardSaid : Prop := Claim7.holds Tryd.pinned (.plain (OpenSpec.ofChange holdEachSpec)) holdEachCard

/-- THE TIED CARD OF 'castellanlaw13.HoldHolds'. -/
def holdHoldsCard : Claim7 := { stood := { row := holdHoldsRow, standIns := [], harness := (true, "265af66ad916a9b8aa456ba570da502ef0943f0145a639c026b6432c7bea3a61"), looks := false }, kinds := [], alts := [], laidByText := true, laidKinds := [.data], laidTests := true, laidLooks := .later }
def HoldHoldsCardSaid : Prop := Claim7.holds Tryd.pinned (.plain (OpenSpec.ofChange holdHoldsSpec)) holdHoldsCard

/-- THE SECOND FORM's CARD OF 'castellanlaw12.WaitAdds'. -/
def waitAddsUptoCard : Claim7 := { stood := { row := waitAddsUptoRow, standIns := [], harness := (true, "265af66ad916a9b8aa456ba570da502ef0943f0145a639c026b6432c7bea3a61"), looks := false }, kinds := [], alts := [], laidByText := true, laidKinds := [.data], laidTests := true, laidLooks := .later }
def WaitAddsUptoCardSaid : Prop := Claim7.holds Tryd.pinned (.plain (OpenSpec.upto waitAddsSpec)) waitAddsUptoCard

/-- THE SECOND FORM's CARD OF 'castellanlaw12.WaitOrders'. -/
def waitOrdersUptoCard : Claim7 := { stood := { row := waitOrdersUptoRow, standIns := [], harness := (true, "265af66ad916a9b8aa456ba570da502ef0943f0145a639c026b6432c7bea3a61"), looks := false }, kinds := [], alts := [], laidByText := true, laidKinds := [.data], laidTests := true, laidLooks := .later }
def WaitOrdersUptoCardSaid : Prop := Claim7.holds Tryd.pinned (.plain (OpenSpec.upto waitOrdersSpec)) waitOrdersUptoCard

/-- THE SECOND FORM's CARD OF 'castellanlaw12.WaitNexts'. -/
def waitNextsUptoCard : Claim7 := { stood := { row := waitNextsUptoRow, standIns := [], harness := (true, "265af66ad916a9b8aa456ba570da502ef0943f0145a639c026b6432c7bea3a61"), looks := false }, kinds := [], alts := [], laidByText := true, laidKinds := [.data], laidTests := true, laidLooks := .later }
def WaitNextsUptoCardSaid : Prop := Claim7.holds Tryd.pinned (.plain (OpenSpec.upto waitNextsSpec)) waitNextsUptoCard

/-- THE SECOND FORM's CARD OF 'castellanlaw12.WaitGrants'. -/
def waitGrantsUptoCard : Claim7 := { stood := { row := waitGrantsUptoRow, standIns := [], harness := (true, "265af66ad916a9b8aa456ba570da502ef0943f0145a639c026b6432c7bea3a61"), looks := false }, kinds := [], alts := [], laidByText := true, laidKinds := [.data], laidTests := true, laidLooks := .later }
def WaitGrantsUptoCardSaid : Prop := Claim7.holds Tryd.pinned (.plain (OpenSpec.upto waitGrantsSpec)) waitGrantsUptoCard

/-- THE SECOND FORM's CARD OF 'castellanlaw12.WaitAnyone'. -/
def waitAnyoneUptoCard : Claim7 := { stood := { row := waitAnyoneUptoRow, standIns := [], harness := (true, "265af66ad916a9b8aa456ba570da502ef0943f0145a639c026b6432c7bea3a61"), looks := false }, kinds := [], alts := [], laidByText := true, laidKinds := [.data], laidTests := true, laidLooks := .later }
def WaitAnyoneUptoCardSaid : Prop := Claim7.holds Tryd.pinned (.plain (OpenSpec.upto waitAnyoneSpec)) waitAnyoneUptoCard

/-- THE SECOND FORM's CARD OF 'castellanlaw12.WaitHolds'. -/
def waitHoldsUptoCard : Claim7 := { stood := { row := waitHoldsUptoRow, standIns := [], harness := (true, "265af66ad916a9b8aa456ba570da502ef0943f0145a639c026b6432c7bea3a61"), looks := false }, kinds := [], alts := [], laidByText := true, laidKinds := [.data], laidTests := true, laidLooks := .later }
def WaitHoldsUptoCardSaid : Prop := Claim7.holds Tryd.pinned (.plain (OpenSpec.upto waitHoldsSpec)) waitHoldsUptoCard

/-- THE SECOND FORM's CARD OF 'castellanlaw13.HoldAdds'. -/
def holdAddsUptoCard : Claim7 := { stood := { row := holdAddsUptoRow, standIns := [], harness := (true, "265af66ad916a9b8aa456ba570da502ef0943f0145a639c026b6432c7bea3a61"), looks := false }, kinds := [], alts := [], laidByText := true, laidKinds := [.data], laidTests := true, laidLooks := .later }
def HoldAddsUptoCardSaid : Prop := Claim7.holds Tryd.pinned (.plain (OpenSpec.upto holdAddsSpec)) holdAddsUptoCard

/-- THE SECOND FORM's CARD OF 'castellanlaw13.HoldEnds'. -/
def holdEndsUptoCard : Claim7 := { stood := { row := holdEndsUptoRow, standIns := [], harness := (true, "265af66ad916a9b8aa456ba570da502ef0943f0145a639c026b6432c7bea3a61"), looks := false }, kinds := [], alts := [], laidByText := true, laidKinds := [.data], laidTests := true, laidLooks := .later }
def HoldEndsUptoCardSaid : Prop := Claim7.holds Tryd.pinned (.plain (OpenSpec.upto holdEndsSpec)) holdEndsUptoCard

/-- THE SECOND FORM's CARD OF 'castellanlaw13.HoldAsks'. -/
def holdAsksUptoCard : Claim7 := { stood := { row := holdAsksUptoRow, standIns := [], harness := (true, "265af66ad916a9b8aa456ba570da502ef0943f0145a639c026b6432c7bea3a61"), looks := false }, kinds := [], alts := [], laidByText := true, laidKinds := [.data], laidTests := true, laidLooks := .later }
def HoldAsksUptoCardSaid : Prop := Claim7.holds Tryd.pinned (.plain (OpenSpec.upto holdAsksSpec)) holdAsksUptoCard

/-- THE SECOND FORM's CARD OF 'castellanlaw13.HoldEach'. -/
def holdEachUptoCard : Claim7 := { stood := { row := holdEachUptoRow, standIns := [], harness := (true, "265af66ad916a9b8aa456ba570da502ef0943f0145a639c026b6432c7bea3a61"), looks := false }, kinds := [], alts := [], laidByText := true, laidKinds := [.data], laidTests := true, laidLooks := .later }
def HoldEachUptoCardSaid : Prop := Claim7.holds Tryd.pinned (.plain (OpenSpec.upto holdEachSpec)) holdEachUptoCard

/-- THE SECOND FORM's CARD OF 'castellanlaw13.HoldHolds'. -/
def holdHoldsUptoCard : Claim7 := { stood := { row := holdHoldsUptoRow, standIns := [], harness := (true, "265af66ad916a9b8aa456ba570da502ef0943f0145a639c026b6432c7bea3a61"), looks := false }, kinds := [], alts := [], laidByText := true, laidKinds := [.data], laidTests := true, laidLooks := .later }
def HoldHoldsUptoCardSaid : Prop := Claim7.holds Tryd.pinned (.plain (OpenSpec.upto holdHoldsSpec)) holdHoldsUptoCard
end Rows
end Go.Proofs.YteblnjgghbclpaaDoor
