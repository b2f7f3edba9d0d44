/-
  NARROWER THAN 'FOR EVERY INPUT', by the rows' own cells (each row's printed sentence says how): WaitAdds: laid · WaitOrders: laid · WaitNexts: laid · WaitGrants: laid · WaitAnyone: laid · WaitHolds: laid · HoldAdds: laid · HoldEnds: laid · HoldAsks: laid · HoldEach: laid · HoldHolds: laid.
  DERIVED. THE GIVEN ROWS OF THIS SEAT. 11 by the template 'for every input the law returns true; each argument reads behind the call as it read before'; 0 by the template 'total and deterministic' (their statements: YteblnjgghbclpaaDoorTotals.lean).
  GIVEN WITH THE SEED: the statements are not yours to turn. If you find one false, say at which input.
  Laid BY PROGRAM, IN A SANDBOX (cutbox-rows.mjs): the forced cells as the released guide's own fill.sh prints them over the translation 692c19aa9f0d7261… (all of the seat's roots in one cut). By AI agents, Wed Nov 11 2026. No macro, syntax, notation, axiom, sorry.
-/
import Derived.Test.YteblnjgghbclpaaDoorChecked
import GoSem.Claim
import GoSem.ClaimJoined
import GoSem.ClaimMapViews
import Derived.JoinedTies
import Derived.KernelRfl
namespace Go.Proofs.YteblnjgghbclpaaDoor
/- THE CELL 'sum', in the pinned program and in every row, IS THE sha256 OF THE DUMP (.gsa) THAT YteblnjgghbclpaaDoorProg.lean LOADS. Nothing in Lean hashes anything: it is a label: what it is worth is what the hold of that sum in a sandbox is worth. -/
noncomputable def Tryd.pinned : Pinned := { name := "yteblnjgghbclpaadoor", sum := "692c19aa9f0d72610cdd04306f2daf790118bb2e97d12ea3dd60fd0a27b6adaf", checked := Tryd.checked }
namespace Rows
def none {H : Type} : Left H := { results := [], args := [] }

/- WHAT THE LISTED PACKAGE-LEVEL VARIABLES READ AS WHEN THE CALL BEGINS. Each datum BY PROGRAM (the guide's laid-datum.mjs) off the statement by which the dump's own 'gosem.cut.vars' lays the variable. In a bare row this is a premise. The card (YteblnjgghbclpaaDoorCards.lean) ties it to the program's text. -/
def laid_castellan_mode_fits {H : Type} : DataW H := .agg [.agg [.lit (.bool true), .lit (.bool true), .lit (.bool true), .lit (.bool true), .lit (.bool true), .lit (.bool true)], .agg [.lit (.bool true), .lit (.bool true), .lit (.bool true), .lit (.bool true), .lit (.bool true), .lit (.bool false)], .agg [.lit (.bool true), .lit (.bool true), .lit (.bool true), .lit (.bool false), .lit (.bool false), .lit (.bool false)], .agg [.lit (.bool true), .lit (.bool true), .lit (.bool false), .lit (.bool true), .lit (.bool false), .lit (.bool false)], .agg [.lit (.bool true), .lit (.bool true), .lit (.bool false), .lit (.bool false), .lit (.bool false), .lit (.bool false)], .agg [.lit (.bool true), .lit (.bool false), .lit (.bool false), .lit (.bool false), .lit (.bool false), .lit (.bool false)]]

/-- 'castellanlaw12.WaitAdds': WHATEVER THE INPUT: true; the input reads as it did. -/
def waitAddsSpec : ChangeSpec := { name := "waitAdds", fn := fun _ => fun
  | [d1, d2, d3] => { results := [.lit (.bool true)], args := [d1, d2, d3] }
  | _ => none }
def waitAddsRow : OpenClaim := { program := "yteblnjgghbclpaadoor", sum := "692c19aa9f0d72610cdd04306f2daf790118bb2e97d12ea3dd60fd0a27b6adaf", func := "castellan/castellanlaw12.WaitAdds", spec := "waitAdds", unfollowed := true, recurses := true, named := ["castellan/mode.fits"], apart := false, laid := [("castellan/mode.fits", laid_castellan_mode_fits)] }
def WaitAddsSaid : Prop := waitAddsRow.holds Tryd.pinned (OpenSpec.ofChange waitAddsSpec)

/-- ITS FALSE NEIGHBOUR: 'it returns false'. Refute it at one input. -/
def waitAddsWrong : ChangeSpec := { name := "waitAdds", fn := fun _ => fun
  | [d1, d2, d3] => { results := [.lit (.bool false)], args := [d1, d2, d3] }
  | _ => none }
def WaitAddsWrongFalsely : Prop := waitAddsRow.holds Tryd.pinned (OpenSpec.ofChange waitAddsWrong)

/-- 'castellanlaw12.WaitOrders': WHATEVER THE INPUT: true; the input reads as it did. -/
def waitOrdersSpec : ChangeSpec := { name := "waitOrders", fn := fun _ => fun
  | [d1, d2, d3] => { results := [.lit (.bool true)], args := [d1, d2, d3] }
  | _ => none }
def waitOrdersRow : OpenClaim := { program := "yteblnjgghbclpaadoor", sum := "692c19aa9f0d72610cdd04306f2daf790118bb2e97d12ea3dd60fd0a27b6adaf", func := "castellan/castellanlaw12.WaitOrders", spec := "waitOrders", unfollowed := true, recurses := true, named := ["castellan/mode.fits"], apart := false, laid := [("castellan/mode.fits", laid_castellan_mode_fits)] }
def WaitOrdersSaid : Prop := waitOrdersRow.holds Tryd.pinned (OpenSpec.ofChange waitOrdersSpec)

/-- ITS FALSE NEIGHBOUR: 'it returns false'. Refute it at one input. -/
def waitOrdersWrong : ChangeSpec := { name := "waitOrders", fn := fun _ => fun
  | [d1, d2, d3] => { results := [.lit (.bool false)], args := [d1, d2, d3] }
  | _ => none }
def WaitOrdersWrongFalsely : Prop := waitOrdersRow.holds Tryd.pinned (OpenSpec.ofChange waitOrdersWrong)

/-- 'castellanlaw12.WaitNexts': WHATEVER THE INPUT: true; the input reads as it did. -/
def waitNextsSpec : ChangeSpec := { name := "waitNexts", fn := fun _ => fun
  | [d1, d2, d3] => { results := [.lit (.bool true)], args := [d1, d2, d3] }
  | _ => none }
def waitNextsRow : OpenClaim := { program := "yteblnjgghbclpaadoor", sum := "692c19aa9f0d72610cdd04306f2daf790118bb2e97d12ea3dd60fd0a27b6adaf", func := "castellan/castellanlaw12.WaitNexts", spec := "waitNexts", unfollowed := true, recurses := true, named := ["castellan/mode.fits"], apart := false, laid := [("castellan/mode.fits", laid_castellan_mode_fits)] }
def WaitNextsSaid : Prop := waitNextsRow.holds Tryd.pinned (OpenSpec.ofChange waitNextsSpec)

/-- ITS FALSE NEIGHBOUR: 'it returns false'. Refute it at one input. -/
def waitNextsWrong : ChangeSpec := { name := "waitNexts", fn := fun _ => fun
  | [d1, d2, d3] => { results := [.lit (.bool false)], args := [d1, d2, d3] }
  | _ => none }
def WaitNextsWrongFalsely : Prop := waitNextsRow.holds Tryd.pinned (OpenSpec.ofChange waitNextsWrong)

/-- 'castellanlaw12.WaitGrants': WHATEVER THE INPUT: true; the input reads as it did. -/
def waitGrantsSpec : ChangeSpec := { name := "waitGrants", fn := fun _ => fun
  | [d1, d2] => { results := [.lit (.bool true)], args := [d1, d2] }
  | _ => none }
def waitGrantsRow : OpenClaim := { program := "yteblnjgghbclpaadoor", sum := "692c19aa9f0d72610cdd04306f2daf790118bb2e97d12ea3dd60fd0a27b6adaf", func := "castellan/castellanlaw12.WaitGrants", spec := "waitGrants", unfollowed := true, recurses := true, named := ["castellan/mode.fits"], apart := false, laid := [("castellan/mode.fits", laid_castellan_mode_fits)] }
def WaitGrantsSaid : Prop := waitGrantsRow.holds Tryd.pinned (OpenSpec.ofChange waitGrantsSpec)

/-- ITS FALSE NEIGHBOUR: 'it returns false'. Refute it at one input. -/
def waitGrantsWrong : ChangeSpec := { name := "waitGrants", fn := fun _ => fun
  | [d1, d2] => { results := [.lit (.bool false)], args := [d1, d2] }
  | _ => none }
def WaitGrantsWrongFalsely : Prop := waitGrantsRow.holds Tryd.pinned (OpenSpec.ofChange waitGrantsWrong)

/-- 'castellanlaw12.WaitAnyone': WHATEVER THE INPUT: true; the input reads as it did. -/
def waitAnyoneSpec : ChangeSpec := { name := "waitAnyone", fn := fun _ => fun
  | [d1, d2, d3] => { results := [.lit (.bool true)], args := [d1, d2, d3] }
  | _ => none }
def waitAnyoneRow : OpenClaim := { program := "yteblnjgghbclpaadoor", sum := "692c19aa9f0d72610cdd04306f2daf790118bb2e97d12ea3dd60fd0a27b6adaf", func := "castellan/castellanlaw12.WaitAnyone", spec := "waitAnyone", unfollowed := true, recurses := true, named := ["castellan/mode.fits"], apart := false, laid := [("castellan/mode.fits", laid_castellan_mode_fits)] }
def WaitAnyoneSaid : Prop := waitAnyoneRow.holds Tryd.pinned (OpenSpec.ofChange waitAnyoneSpec)

/-- ITS FALSE NEIGHBOUR: 'it returns false'. Refute it at one input. -/
def waitAnyoneWrong : ChangeSpec := { name := "waitAnyone", fn := fun _ => fun
  | [d1, d2, d3] => { results := [.lit (.bool false)], args := [d1, d2, d3] }
  | _ => none }
def WaitAnyoneWrongFalsely : Prop := waitAnyoneRow.holds Tryd.pinned (OpenSpec.ofChange waitAnyoneWrong)

/-- 'castellanlaw12.WaitHolds': WHATEVER THE INPUT: true; the input reads as it did. -/
def waitHoldsSpec : ChangeSpec := { name := "waitHolds", fn := fun _ => fun
  | [d1, d2] => { results := [.lit (.bool true)], args := [d1, d2] }
  | _ => none }
def waitHoldsRow : OpenClaim := { program := "yteblnjgghbclpaadoor", sum := "692c19aa9f0d72610cdd04306f2daf790118bb2e97d12ea3dd60fd0a27b6adaf", func := "castellan/castellanlaw12.WaitHolds", spec := "waitHolds", unfollowed := true, recurses := true, named := ["castellan/mode.fits"], apart := false, laid := [("castellan/mode.fits", laid_castellan_mode_fits)] }
def WaitHoldsSaid : Prop := waitHoldsRow.holds Tryd.pinned (OpenSpec.ofChange waitHoldsSpec)

/-- ITS FALSE NEIGHBOUR: 'it returns false'. Refute it at one input. -/
def waitHoldsWrong : ChangeSpec := { name := "waitHolds", fn := fun _ => fun
  | [d1, d2] => { results := [.lit (.bool false)], args := [d1, d2] }
  | _ => none }
def WaitHoldsWrongFalsely : Prop := waitHoldsRow.holds Tryd.pinned (OpenSpec.ofChange waitHoldsWrong)

/-- 'castellanlaw13.HoldAdds': WHATEVER THE INPUT: true; the input reads as it did. -/
def holdAddsSpec : ChangeSpec := { name := "holdAdds", fn := fun _ => fun
  | [d1, d2] => { results := [.lit (.bool true)], args := [d1, d2] }
  | _ => none }
def holdAddsRow : OpenClaim := { program := "yteblnjgghbclpaadoor", sum := "692c19aa9f0d72610cdd04306f2daf790118bb2e97d12ea3dd60fd0a27b6adaf", func := "castellan/castellanlaw13.HoldAdds", spec := "holdAdds", unfollowed := true, recurses := true, named := ["castellan/mode.fits"], apart := false, laid := [("castellan/mode.fits", laid_castellan_mode_fits)] }
def HoldAddsSaid : Prop := holdAddsRow.holds Tryd.pinned (OpenSpec.ofChange holdAddsSpec)

/-- ITS FALSE NEIGHBOUR: 'it returns false'. Refute it at one input. -/
def holdAddsWrong : ChangeSpec := { name := "holdAdds", fn := fun _ => fun
  | [d1, d2] => { results := [.lit (.bool false)], args := [d1, d2] }
  | _ => none }
def HoldAddsWrongFalsely : Prop := holdAddsRow.holds Tryd.pinned (OpenSpec.ofChange holdAddsWrong)

/-- 'castellanlaw13.HoldEnds': WHATEVER THE INPUT: true; the input reads as it did. -/
def holdEndsSpec : ChangeSpec := { name := "holdEnds", fn := fun _ => fun
  | [d1, d2, d3] => { results := [.lit (.bool true)], args := [d1, d2, d3] }
  | _ => none }
def holdEndsRow : OpenClaim := { program := "yteblnjgghbclpaadoor", sum := "692c19aa9f0d72610cdd04306f2daf790118bb2e97d12ea3dd60fd0a27b6adaf", func := "castellan/castellanlaw13.HoldEnds", spec := "holdEnds", unfollowed := true, recurses := true, named := ["castellan/mode.fits"], apart := false, laid := [("castellan/mode.fits", laid_castellan_mode_fits)] }
def HoldEndsSaid : Prop := holdEndsRow.holds Tryd.pinned (OpenSpec.ofChange holdEndsSpec)

/-- ITS FALSE NEIGHBOUR: 'it returns false'. Refute it at one input. -/
def holdEndsWrong : ChangeSpec := { name := "holdEnds", fn := fun _ => fun
  | [d1, d2, d3] => { results := [.lit (.bool false)], args := [d1, d2, d3] }
  | _ => none }
def HoldEndsWrongFalsely : Prop := holdEndsRow.holds Tryd.pinned (OpenSpec.ofChange holdEndsWrong)

/-- 'castellanlaw13.HoldAsks': WHATEVER THE INPUT: true; the input reads as it did. -/
def holdAsksSpec : ChangeSpec := { name := "holdAsks", fn := fun _ => fun
  | [d1, d2, d3] => { results := [.lit (.bool true)], args := [d1, d2, d3] }
  | _ => none }
def holdAsksRow : OpenClaim := { program := "yteblnjgghbclpaadoor", sum := "692c19aa9f0d72610cdd04306f2daf790118bb2e97d12ea3dd60fd0a27b6adaf", func := "castellan/castellanlaw13.HoldAsks", spec := "holdAsks", unfollowed := true, recurses := true, named := ["castellan/mode.fits"], apart := false, laid := [("castellan/mode.fits", laid_castellan_mode_fits)] }
def HoldAsksSaid : Prop := holdAsksRow.holds Tryd.pinned (OpenSpec.ofChange holdAsksSpec)

/-- ITS FALSE NEIGHBOUR: 'it returns false'. Refute it at one input. -/
def holdAsksWrong : ChangeSpec := { name := "holdAsks", fn := fun _ => fun
  | [d1, d2, d3] => { results := [.lit (.bool false)], args := [d1, d2, d3] }
  | _ => none }
def HoldAsksWrongFalsely : Prop := holdAsksRow.holds Tryd.pinned (OpenSpec.ofChange holdAsksWrong)

/-- 'castellanlaw13.HoldEach': WHATEVER THE INPUT: true; the input reads as it did. -/
def holdEachSpec : ChangeSpec := { name := "holdEach", fn := fun _ => fun
  | [d1, d2] => { results := [.lit (.bool true)], args := [d1, d2] }
  | _ => none }
def holdEachRow : OpenClaim := { program := "yteblnjgghbclpaadoor", sum := "692c19aa9f0d72610cdd04306f2daf790118bb2e97d12ea3dd60fd0a27b6adaf", func := "castellan/castellanlaw13.HoldEach", spec := "holdEach", unfollowed := true, recurses := true, named := ["castellan/mode.fits"], apart := false, laid := [("castellan/mode.fits", laid_castellan_mode_fits)] }
def HoldEachSaid : Prop := holdEachRow.holds Tryd.pinned (OpenSpec.ofChange holdEachSpec)

/-- ITS FALSE NEIGHBOUR: 'it returns false'. Refute it at one input. -/
def holdEachWrong : ChangeSpec := { name := "holdEach", fn := fun _ => fun
  | [d1, d2] => { results := [.lit (.bool false)], args := [d1, d2] }
  | _ => none }
def HoldEachWrongFalsely : Prop := holdEachRow.holds Tryd.pinned (OpenSpec.ofChange holdEachWrong)

/-- 'castellanlaw13.HoldHolds': WHATEVER THE INPUT: true; the input reads as it did. -/
def holdHoldsSpec : ChangeSpec := { name := "holdHolds", fn := fun _ => fun
  | [d] => { results := [.lit (.bool true)], args := [d] }
  | _ => none }
def holdHoldsRow : OpenClaim := { program := "yteblnjgghbclpaadoor", sum := "692c19aa9f0d72610cdd04306f2daf790118bb2e97d12ea3dd60fd0a27b6adaf", func := "castellan/castellanlaw13.HoldHolds", spec := "holdHolds", unfollowed := true, recurses := true, named := ["castellan/mode.fits"], apart := false, laid := [("castellan/mode.fits", laid_castellan_mode_fits)] }
def HoldHoldsSaid : Prop := holdHoldsRow.holds Tryd.pinned (OpenSpec.ofChange holdHoldsSpec)

/-- ITS FALSE NEIGHBOUR: 'it returns false'. Refute it at one input. -/
def holdHoldsWrong : ChangeSpec := { name := "holdHolds", fn := fun _ => fun
  | [d] => { results := [.lit (.bool false)], args := [d] }
  | _ => none }
def HoldHoldsWrongFalsely : Prop := holdHoldsRow.holds Tryd.pinned (OpenSpec.ofChange holdHoldsWrong)

/- THE SECOND FORM. 'bulk': how many values and letters a reading holds, each counted each time it is reached (what is shared counts as often as it is met; a slice's spare places count too). A statement '..UptoSaid' is the law's where the arguments, and the package variables that the reading takes, are together of bulk at most 1048576: NARROWER than '..Said'. Prove '..Said' where nothing that the law and all that it calls make is longer than what came in: it says more and counts as full. Else prove '..UptoSaid'. A law counts once. -/
mutual
def uptoBulk {H : Type} : DataW H → Nat
  | .lit (.string bytes) => bytes.length + 1
  | .lit _ => 1
  | .nil => 1
  | .ptr d => uptoBulk d + 1
  | .slice elems spare => uptoBulkAll elems + uptoBulkAll spare + 1
  | .agg parts => uptoBulkAll parts + 1
  | .iface _ d => uptoBulk d + 1
  | .map entries => uptoBulkEntries entries + 1
  | .held _ => 1
def uptoBulkAll {H : Type} : List (DataW H) → Nat
  | [] => 0
  | d :: r => uptoBulk d + uptoBulkAll r
def uptoBulkEntries {H : Type} : List (Lit × DataW H) → Nat
  | [] => 0
  | x :: r => uptoBulkEntry x + uptoBulkEntries r
def uptoBulkEntry {H : Type} : Lit × DataW H → Nat
  | (.string bytes, d) => bytes.length + uptoBulk d + 1
  | (_, d) => uptoBulk d + 1
 end
def uptoSmall : (H : Type) → List (DataW H) → Bool := fun _ ds => decide (uptoBulkAll ds ≤ 1048576)
def OpenSpec.upto (s : _root_.Go.ChangeSpec) : _root_.Go.OpenSpec := { _root_.Go.OpenSpec.ofChange s with cond := some uptoSmall }

/-- 'castellanlaw12.WaitAdds', WHERE WHAT IT READS IS OF BULK AT MOST 1048576: true; the input reads as it did. -/
def waitAddsUptoRow : OpenClaim := { program := "yteblnjgghbclpaadoor", sum := "692c19aa9f0d72610cdd04306f2daf790118bb2e97d12ea3dd60fd0a27b6adaf", func := "castellan/castellanlaw12.WaitAdds", spec := "waitAdds", unfollowed := true, recurses := true, named := ["castellan/mode.fits"], apart := false, laid := [("castellan/mode.fits", laid_castellan_mode_fits)], narrowed := true }
def WaitAddsUptoSaid : Prop := waitAddsUptoRow.holds Tryd.pinned (OpenSpec.upto waitAddsSpec)

/-- 'castellanlaw12.WaitOrders', WHERE WHAT IT READS IS OF BULK AT MOST 1048576: true; the input reads as it did. -/
def waitOrdersUptoRow : OpenClaim := { program := "yteblnjgghbclpaadoor", sum := "692c19aa9f0d72610cdd04306f2daf790118bb2e97d12ea3dd60fd0a27b6adaf", func := "castellan/castellanlaw12.WaitOrders", spec := "waitOrders", unfollowed := true, recurses := true, named := ["castellan/mode.fits"], apart := false, laid := [("castellan/mode.fits", laid_castellan_mode_fits)], narrowed := true }
def WaitOrdersUptoSaid : Prop := waitOrdersUptoRow.holds Tryd.pinned (OpenSpec.upto waitOrdersSpec)

/-- 'castellanlaw12.WaitNexts', WHERE WHAT IT READS IS OF BULK AT MOST 1048576: true; the input reads as it did. -/
def waitNextsUptoRow : OpenClaim := { program := "yteblnjgghbclpaadoor", sum := "692c19aa9f0d72610cdd04306f2daf790118bb2e97d12ea3dd60fd0a27b6adaf", func := "castellan/castellanlaw12.WaitNexts", spec := "waitNexts", unfollowed := true, recurses := true, named := ["castellan/mode.fits"], apart := false, laid := [("castellan/mode.fits", laid_castellan_mode_fits)], narrowed := true }
def WaitNextsUptoSaid : Prop := waitNextsUptoRow.holds Tryd.pinned (OpenSpec.upto waitNextsSpec)

/-- 'castellanlaw12.WaitGrants', WHERE WHAT IT READS IS OF BULK AT MOST 1048576: true; the input reads as it did. -/
def waitGrantsUptoRow : OpenClaim := { program := "yteblnjgghbclpaadoor", sum := "692c19aa9f0d72610cdd04306f2daf790118bb2e97d12ea3dd60fd0a27b6adaf", func := "castellan/castellanlaw12.WaitGrants", spec := "waitGrants", unfollowed := true, recurses := true, named := ["castellan/mode.fits"], apart := false, laid := [("castellan/mode.fits", laid_castellan_mode_fits)], narrowed := true }
def WaitGrantsUptoSaid : Prop := waitGrantsUptoRow.holds Tryd.pinned (OpenSpec.upto waitGrantsSpec)

/-- 'castellanlaw12.WaitAnyone', WHERE WHAT IT READS IS OF BULK AT MOST 1048576: true; the input reads as it did. -/
def waitAnyoneUptoRow : OpenClaim := { program := "yteblnjgghbclpaadoor", sum := "692c19aa9f0d72610cdd04306f2daf790118bb2e97d12ea3dd60fd0a27b6adaf", func := "castellan/castellanlaw12.WaitAnyone", spec := "waitAnyone", unfollowed := true, recurses := true, named := ["castellan/mode.fits"], apart := false, laid := [("castellan/mode.fits", laid_castellan_mode_fits)], narrowed := true }
def WaitAnyoneUptoSaid : Prop := waitAnyoneUptoRow.holds Tryd.pinned (OpenSpec.upto waitAnyoneSpec)

/-- 'castellanlaw12.WaitHolds', WHERE WHAT IT READS IS OF BULK AT MOST 1048576: true; the input reads as it did. -/
def waitHoldsUptoRow : OpenClaim := { program := "yteblnjgghbclpaadoor", sum := "692c19aa9f0d72610cdd04306f2daf790118bb2e97d12ea3dd60fd0a27b6adaf", func := "castellan/castellanlaw12.WaitHolds", spec := "waitHolds", unfollowed := true, recurses := true, named := ["castellan/mode.fits"], apart := false, laid := [("castellan/mode.fits", laid_castellan_mode_fits)], narrowed := true }
def WaitHoldsUptoSaid : Prop := waitHoldsUptoRow.holds Tryd.pinned (OpenSpec.upto waitHoldsSpec)

/-- 'castellanlaw13.HoldAdds', WHERE WHAT IT READS IS OF BULK AT MOST 1048576: true; the input reads as it did. -/
def holdAddsUptoRow : OpenClaim := { program := "yteblnjgghbclpaadoor", sum := "692c19aa9f0d72610cdd04306f2daf790118bb2e97d12ea3dd60fd0a27b6adaf", func := "castellan/castellanlaw13.HoldAdds", spec := "holdAdds", unfollowed := true, recurses := true, named := ["castellan/mode.fits"], apart := false, laid := [("castellan/mode.fits", laid_castellan_mode_fits)], narrowed := true }
def HoldAddsUptoSaid : Prop := holdAddsUptoRow.holds Tryd.pinned (OpenSpec.upto holdAddsSpec)

/-- 'castellanlaw13.HoldEnds', WHERE WHAT IT READS IS OF BULK AT MOST 1048576: true; the input reads as it did. -/
def holdEndsUptoRow : OpenClaim := { program := "yteblnjgghbclpaadoor", sum := "692c19aa9f0d72610cdd04306f2daf790118bb2e97d12ea3dd60fd0a27b6adaf", func := "castellan/castellanlaw13.HoldEnds", spec := "holdEnds", unfollowed := true, recurses := true, named := ["castellan/mode.fits"], apart := false, laid := [("castellan/mode.fits", laid_castellan_mode_fits)], narrowed := true }
def HoldEndsUptoSaid : Prop := holdEndsUptoRow.holds Tryd.pinned (OpenSpec.upto holdEndsSpec)

/-- 'castellanlaw13.HoldAsks', WHERE WHAT IT READS IS OF BULK AT MOST 1048576: true; the input reads as it did. -/
def holdAsksUptoRow : OpenClaim := { program := "yteblnjgghbclpaadoor", sum := "692c19aa9f0d72610cdd04306f2daf790118bb2e97d12ea3dd60fd0a27b6adaf", func := "castellan/castellanlaw13.HoldAsks", spec := "holdAsks", unfollowed := true, recurses := true, named := ["castellan/mode.fits"], apart := false, laid := [("castellan/mode.fits", laid_castellan_mode_fits)], narrowed := true }
def HoldAsksUptoSaid : Prop := holdAsksUptoRow.holds Tryd.pinned (OpenSpec.upto holdAsksSpec)

/-- 'castellanlaw13.HoldEach', WHERE WHAT IT READS IS OF BULK AT MOST 1048576: true; the input reads as it did. -/
def holdEachUptoRow : OpenClaim := { program := "yteblnjgghbclpaadoor", sum := "692c19aa9f0d72610cdd04306f2daf790118bb2e97d12ea3dd60fd0a27b6adaf", func := "castellan/castellanlaw13.HoldEach", spec := "holdEach", unfollowed := true, recurses := true, named := ["castellan/mode.fits"], apart := false, laid := [("castellan/mode.fits", laid_castellan_mode_fits)], narrowed := true }
def HoldEachUptoSaid : Prop := holdEachUptoRow.holds Tryd.pinned (OpenSpec.upto holdEachSpec)

/-- 'castellanlaw13.HoldHolds', WHERE WHAT IT READS IS OF BULK AT MOST 1048576: true; the input reads as it did. -/
def holdHoldsUptoRow : OpenClaim := { program := "yteblnjgghbclpaadoor", sum := "692c19aa9f0d72610cdd04306f2daf790118bb2e97d12ea3dd60fd0a27b6adaf", func := "castellan/castellanlaw13.HoldHolds", spec := "holdHolds", unfollowed := true, recurses := true, named := ["castellan/mode.fits"], apart := false, laid := [("castellan/mode.fits", laid_castellan_mode_fits)], narrowed := true }
def HoldHoldsUptoSaid : Prop := holdHoldsUptoRow.holds Tryd.pinned (OpenSpec.upto holdHoldsSpec)

end Rows
end Go.Proofs.YteblnjgghbclpaaDoor
