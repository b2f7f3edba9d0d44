/-
  No cell of these rows narrows 'for every input' (looked for: loops, veiled, ifaces, maps, wideKeys, modest, calm, conditions, laid).
  DERIVED. THE GIVEN ROWS OF THIS SEAT. 9 by the template 'for every input the law returns true; each argument reads behind the call as it read before'; 0 by the template 'total and deterministic' (their statements: YthenenacmiiphaaTotals.lean).
  GIVEN WITH THE SEED: the statements are not yours to turn. If you find one false, say at which input.
  Laid BY PROGRAM, IN A SANDBOX (cutbox-rows.mjs): the forced cells as the released guide's own fill.sh prints them over the translation f0bee36fb289d6c5… (all of the seat's roots in one cut). By AI agents, Wed Nov 11 2026. No macro, syntax, notation, axiom, sorry.
-/
import Derived.Test.YthenenacmiiphaaChecked
import GoSem.Claim
import GoSem.ClaimJoined
import GoSem.ClaimMapViews
import Derived.JoinedTies
import Derived.KernelRfl
namespace Go.Proofs.Ythenenacmiiphaa
/- THE CELL 'sum', in the pinned program and in every row, IS THE sha256 OF THE DUMP (.gsa) THAT YthenenacmiiphaaProg.lean LOADS. Nothing in Lean hashes anything: it is a label: what it is worth is what the hold of that sum in a sandbox is worth. -/
noncomputable def Try.pinned : Pinned := { name := "ythenenacmiiphaa", sum := "f0bee36fb289d6c58f77faf5be30a5b1875129ee836ca60ddac26af2c2992fa2", checked := Try.checked }
namespace Rows
def none {H : Type} : Left H := { results := [], args := [] }

/-- 'castellanlaw18.ReportAdds': WHATEVER THE INPUT: true; the input reads as it did. -/
def reportAddsSpec : ChangeSpec := { name := "reportAdds", fn := fun _ => fun
  | [d1, d2, d3] => { results := [.lit (.bool true)], args := [d1, d2, d3] }
  | _ => none }
def reportAddsRow : OpenClaim := { program := "ythenenacmiiphaa", sum := "f0bee36fb289d6c58f77faf5be30a5b1875129ee836ca60ddac26af2c2992fa2", func := "castellan/castellanlaw18.ReportAdds", spec := "reportAdds", unfollowed := true, recurses := true, apart := false }
def ReportAddsSaid : Prop := reportAddsRow.holds Try.pinned (OpenSpec.ofChange reportAddsSpec)

/-- ITS FALSE NEIGHBOUR: 'it returns false'. Refute it at one input. -/
def reportAddsWrong : ChangeSpec := { name := "reportAdds", fn := fun _ => fun
  | [d1, d2, d3] => { results := [.lit (.bool false)], args := [d1, d2, d3] }
  | _ => none }
def ReportAddsWrongFalsely : Prop := reportAddsRow.holds Try.pinned (OpenSpec.ofChange reportAddsWrong)

/-- 'castellanlaw18.ReportDecides': WHATEVER THE INPUT: true; the input reads as it did. -/
def reportDecidesSpec : ChangeSpec := { name := "reportDecides", fn := fun _ => fun
  | [d1, d2, d3] => { results := [.lit (.bool true)], args := [d1, d2, d3] }
  | _ => none }
def reportDecidesRow : OpenClaim := { program := "ythenenacmiiphaa", sum := "f0bee36fb289d6c58f77faf5be30a5b1875129ee836ca60ddac26af2c2992fa2", func := "castellan/castellanlaw18.ReportDecides", spec := "reportDecides", unfollowed := true, recurses := true, apart := false }
def ReportDecidesSaid : Prop := reportDecidesRow.holds Try.pinned (OpenSpec.ofChange reportDecidesSpec)

/-- ITS FALSE NEIGHBOUR: 'it returns false'. Refute it at one input. -/
def reportDecidesWrong : ChangeSpec := { name := "reportDecides", fn := fun _ => fun
  | [d1, d2, d3] => { results := [.lit (.bool false)], args := [d1, d2, d3] }
  | _ => none }
def ReportDecidesWrongFalsely : Prop := reportDecidesRow.holds Try.pinned (OpenSpec.ofChange reportDecidesWrong)

/-- 'castellanlaw18.ReportMissing': WHATEVER THE INPUT: true; the input reads as it did. -/
def reportMissingSpec : ChangeSpec := { name := "reportMissing", fn := fun _ => fun
  | [d1, d2, d3] => { results := [.lit (.bool true)], args := [d1, d2, d3] }
  | _ => none }
def reportMissingRow : OpenClaim := { program := "ythenenacmiiphaa", sum := "f0bee36fb289d6c58f77faf5be30a5b1875129ee836ca60ddac26af2c2992fa2", func := "castellan/castellanlaw18.ReportMissing", spec := "reportMissing", unfollowed := true, recurses := true, apart := false }
def ReportMissingSaid : Prop := reportMissingRow.holds Try.pinned (OpenSpec.ofChange reportMissingSpec)

/-- ITS FALSE NEIGHBOUR: 'it returns false'. Refute it at one input. -/
def reportMissingWrong : ChangeSpec := { name := "reportMissing", fn := fun _ => fun
  | [d1, d2, d3] => { results := [.lit (.bool false)], args := [d1, d2, d3] }
  | _ => none }
def ReportMissingWrongFalsely : Prop := reportMissingRow.holds Try.pinned (OpenSpec.ofChange reportMissingWrong)

/-- 'castellanlaw18.ReportHolds': WHATEVER THE INPUT: true; the input reads as it did. -/
def reportHoldsSpec : ChangeSpec := { name := "reportHolds", fn := fun _ => fun
  | [d1, d2, d3] => { results := [.lit (.bool true)], args := [d1, d2, d3] }
  | _ => none }
def reportHoldsRow : OpenClaim := { program := "ythenenacmiiphaa", sum := "f0bee36fb289d6c58f77faf5be30a5b1875129ee836ca60ddac26af2c2992fa2", func := "castellan/castellanlaw18.ReportHolds", spec := "reportHolds", unfollowed := true, recurses := true, apart := false }
def ReportHoldsSaid : Prop := reportHoldsRow.holds Try.pinned (OpenSpec.ofChange reportHoldsSpec)

/-- ITS FALSE NEIGHBOUR: 'it returns false'. Refute it at one input. -/
def reportHoldsWrong : ChangeSpec := { name := "reportHolds", fn := fun _ => fun
  | [d1, d2, d3] => { results := [.lit (.bool false)], args := [d1, d2, d3] }
  | _ => none }
def ReportHoldsWrongFalsely : Prop := reportHoldsRow.holds Try.pinned (OpenSpec.ofChange reportHoldsWrong)

/-- 'castellanlaw19.CallBytes': WHATEVER THE INPUT: true; the input reads as it did. -/
def callBytesSpec : ChangeSpec := { name := "callBytes", fn := fun _ => fun
  | [d1, d2, d3] => { results := [.lit (.bool true)], args := [d1, d2, d3] }
  | _ => none }
def callBytesRow : OpenClaim := { program := "ythenenacmiiphaa", sum := "f0bee36fb289d6c58f77faf5be30a5b1875129ee836ca60ddac26af2c2992fa2", func := "castellan/castellanlaw19.CallBytes", spec := "callBytes", unfollowed := true, recurses := true, apart := false }
def CallBytesSaid : Prop := callBytesRow.holds Try.pinned (OpenSpec.ofChange callBytesSpec)

/-- ITS FALSE NEIGHBOUR: 'it returns false'. Refute it at one input. -/
def callBytesWrong : ChangeSpec := { name := "callBytes", fn := fun _ => fun
  | [d1, d2, d3] => { results := [.lit (.bool false)], args := [d1, d2, d3] }
  | _ => none }
def CallBytesWrongFalsely : Prop := callBytesRow.holds Try.pinned (OpenSpec.ofChange callBytesWrong)

/-- 'castellanlaw19.CallReads': WHATEVER THE INPUT: true; the input reads as it did. -/
def callReadsSpec : ChangeSpec := { name := "callReads", fn := fun _ => fun
  | [d1, d2] => { results := [.lit (.bool true)], args := [d1, d2] }
  | _ => none }
def callReadsRow : OpenClaim := { program := "ythenenacmiiphaa", sum := "f0bee36fb289d6c58f77faf5be30a5b1875129ee836ca60ddac26af2c2992fa2", func := "castellan/castellanlaw19.CallReads", spec := "callReads", unfollowed := true, recurses := true, apart := false }
def CallReadsSaid : Prop := callReadsRow.holds Try.pinned (OpenSpec.ofChange callReadsSpec)

/-- ITS FALSE NEIGHBOUR: 'it returns false'. Refute it at one input. -/
def callReadsWrong : ChangeSpec := { name := "callReads", fn := fun _ => fun
  | [d1, d2] => { results := [.lit (.bool false)], args := [d1, d2] }
  | _ => none }
def CallReadsWrongFalsely : Prop := callReadsRow.holds Try.pinned (OpenSpec.ofChange callReadsWrong)

/-- 'castellanlaw19.CallAnswers': WHATEVER THE INPUT: true; the input reads as it did. -/
def callAnswersSpec : ChangeSpec := { name := "callAnswers", fn := fun _ => fun
  | [d1, d2, d3] => { results := [.lit (.bool true)], args := [d1, d2, d3] }
  | _ => none }
def callAnswersRow : OpenClaim := { program := "ythenenacmiiphaa", sum := "f0bee36fb289d6c58f77faf5be30a5b1875129ee836ca60ddac26af2c2992fa2", func := "castellan/castellanlaw19.CallAnswers", spec := "callAnswers", unfollowed := true, recurses := true, apart := false }
def CallAnswersSaid : Prop := callAnswersRow.holds Try.pinned (OpenSpec.ofChange callAnswersSpec)

/-- ITS FALSE NEIGHBOUR: 'it returns false'. Refute it at one input. -/
def callAnswersWrong : ChangeSpec := { name := "callAnswers", fn := fun _ => fun
  | [d1, d2, d3] => { results := [.lit (.bool false)], args := [d1, d2, d3] }
  | _ => none }
def CallAnswersWrongFalsely : Prop := callAnswersRow.holds Try.pinned (OpenSpec.ofChange callAnswersWrong)

/-- 'castellanlaw19.CallEach': WHATEVER THE INPUT: true; the input reads as it did. -/
def callEachSpec : ChangeSpec := { name := "callEach", fn := fun _ => fun
  | [d1, d2, d3] => { results := [.lit (.bool true)], args := [d1, d2, d3] }
  | _ => none }
def callEachRow : OpenClaim := { program := "ythenenacmiiphaa", sum := "f0bee36fb289d6c58f77faf5be30a5b1875129ee836ca60ddac26af2c2992fa2", func := "castellan/castellanlaw19.CallEach", spec := "callEach", unfollowed := true, recurses := true, apart := false }
def CallEachSaid : Prop := callEachRow.holds Try.pinned (OpenSpec.ofChange callEachSpec)

/-- ITS FALSE NEIGHBOUR: 'it returns false'. Refute it at one input. -/
def callEachWrong : ChangeSpec := { name := "callEach", fn := fun _ => fun
  | [d1, d2, d3] => { results := [.lit (.bool false)], args := [d1, d2, d3] }
  | _ => none }
def CallEachWrongFalsely : Prop := callEachRow.holds Try.pinned (OpenSpec.ofChange callEachWrong)

/-- 'castellanlaw19.CallHolds': WHATEVER THE INPUT: true; the input reads as it did. -/
def callHoldsSpec : ChangeSpec := { name := "callHolds", fn := fun _ => fun
  | [d1, d2, d3] => { results := [.lit (.bool true)], args := [d1, d2, d3] }
  | _ => none }
def callHoldsRow : OpenClaim := { program := "ythenenacmiiphaa", sum := "f0bee36fb289d6c58f77faf5be30a5b1875129ee836ca60ddac26af2c2992fa2", func := "castellan/castellanlaw19.CallHolds", spec := "callHolds", unfollowed := true, recurses := true, apart := false }
def CallHoldsSaid : Prop := callHoldsRow.holds Try.pinned (OpenSpec.ofChange callHoldsSpec)

/-- ITS FALSE NEIGHBOUR: 'it returns false'. Refute it at one input. -/
def callHoldsWrong : ChangeSpec := { name := "callHolds", fn := fun _ => fun
  | [d1, d2, d3] => { results := [.lit (.bool false)], args := [d1, d2, d3] }
  | _ => none }
def CallHoldsWrongFalsely : Prop := callHoldsRow.holds Try.pinned (OpenSpec.ofChange callHoldsWrong)

/- THE SECOND FORM. 'bulk': how many values and letters a reading holds, each counted each time it is reached (what is shared counts as often as it is met; a slice's spare places count too). A statement '..UptoSaid' is the law's where the arguments, and the package variables that the reading takes, are together of bulk at most 1048576: NARROWER than '..Said'. Prove '..Said' where nothing that the law and all that it calls make is longer than what came in: it says more and counts as full. Else prove '..UptoSaid'. A law counts once. -/
mutual
def uptoBulk {H : Type} : DataW H → Nat
  | .lit (.string bytes) => bytes.length + 1
  | .lit _ => 1
  | .nil => 1
  | .ptr d => uptoBulk d + 1
  | .slice elems spare => uptoBulkAll elems + uptoBulkAll spare + 1
  | .agg parts => uptoBulkAll parts + 1
  | .iface _ d => uptoBulk d + 1
  | .map entries => uptoBulkEntries entries + 1
  | .held _ => 1
def uptoBulkAll {H : Type} : List (DataW H) → Nat
  | [] => 0
  | d :: r => uptoBulk d + uptoBulkAll r
def uptoBulkEntries {H : Type} : List (Lit × DataW H) → Nat
  | [] => 0
  | x :: r => uptoBulkEntry x + uptoBulkEntries r
def uptoBulkEntry {H : Type} : Lit × DataW H → Nat
  | (.string bytes, d) => bytes.length + uptoBulk d + 1
  | (_, d) => uptoBulk d + 1
 end
def uptoSmall : (H : Type) → List (DataW H) → Bool := fun _ ds => decide (uptoBulkAll ds ≤ 1048576)
def OpenSpec.upto (s : _root_.Go.ChangeSpec) : _root_.Go.OpenSpec := { _root_.Go.OpenSpec.ofChange s with cond := some uptoSmall }

/-- 'castellanlaw18.ReportAdds', WHERE WHAT IT READS IS OF BULK AT MOST 1048576: true; the input reads as it did. -/
def reportAddsUptoRow : OpenClaim := { program := "ythenenacmiiphaa", sum := "f0bee36fb289d6c58f77faf5be30a5b1875129ee836ca60ddac26af2c2992fa2", func := "castellan/castellanlaw18.ReportAdds", spec := "reportAdds", unfollowed := true, recurses := true, apart := false, narrowed := true }
def ReportAddsUptoSaid : Prop := reportAddsUptoRow.holds Try.pinned (OpenSpec.upto reportAddsSpec)

/-- 'castellanlaw18.ReportDecides', WHERE WHAT IT READS IS OF BULK AT MOST 1048576: true; the input reads as it did. -/
def reportDecidesUptoRow : OpenClaim := { program := "ythenenacmiiphaa", sum := "f0bee36fb289d6c58f77faf5be30a5b1875129ee836ca60ddac26af2c2992fa2", func := "castellan/castellanlaw18.ReportDecides", spec := "reportDecides", unfollowed := true, recurses := true, apart := false, narrowed := true }
def ReportDecidesUptoSaid : Prop := reportDecidesUptoRow.holds Try.pinned (OpenSpec.upto reportDecidesSpec)

/-- 'castellanlaw18.ReportMissing', WHERE WHAT IT READS IS OF BULK AT MOST 1048576: true; the input reads as it did. -/
def reportMissingUptoRow : OpenClaim := { program := "ythenenacmiiphaa", sum := "f0bee36fb289d6c58f77faf5be30a5b1875129ee836ca60ddac26af2c2992fa2", func := "castellan/castellanlaw18.ReportMissing", spec := "reportMissing", unfollowed := true, recurses := true, apart := false, narrowed := true }
def ReportMissingUptoSaid : Prop := reportMissingUptoRow.holds Try.pinned (OpenSpec.upto reportMissingSpec)

/-- 'castellanlaw18.ReportHolds', WHERE WHAT IT READS IS OF BULK AT MOST 1048576: true; the input reads as it did. -/
def reportHoldsUptoRow : OpenClaim := { program := "ythenenacmiiphaa", sum := "f0bee36fb289d6c58f77faf5be30a5b1875129ee836ca60ddac26af2c2992fa2", func := "castellan/castellanlaw18.ReportHolds", spec := "reportHolds", unfollowed := true, recurses := true, apart := false, narrowed := true }
def ReportHoldsUptoSaid : Prop := reportHoldsUptoRow.holds Try.pinned (OpenSpec.upto reportHoldsSpec)

/-- 'castellanlaw19.CallBytes', WHERE WHAT IT READS IS OF BULK AT MOST 1048576: true; the input reads as it did. -/
def callBytesUptoRow : OpenClaim := { program := "ythenenacmiiphaa", sum := "f0bee36fb289d6c58f77faf5be30a5b1875129ee836ca60ddac26af2c2992fa2", func := "castellan/castellanlaw19.CallBytes", spec := "callBytes", unfollowed := true, recurses := true, apart := false, narrowed := true }
def CallBytesUptoSaid : Prop := callBytesUptoRow.holds Try.pinned (OpenSpec.upto callBytesSpec)

/-- 'castellanlaw19.CallReads', WHERE WHAT IT READS IS OF BULK AT MOST 1048576: true; the input reads as it did. -/
def callReadsUptoRow : OpenClaim := { program := "ythenenacmiiphaa", sum := "f0bee36fb289d6c58f77faf5be30a5b1875129ee836ca60ddac26af2c2992fa2", func := "castellan/castellanlaw19.CallReads", spec := "callReads", unfollowed := true, recurses := true, apart := false, narrowed := true }
def CallReadsUptoSaid : Prop := callReadsUptoRow.holds Try.pinned (OpenSpec.upto callReadsSpec)

/-- 'castellanlaw19.CallAnswers', WHERE WHAT IT READS IS OF BULK AT MOST 1048576: true; the input reads as it did. -/
def callAnswersUptoRow : OpenClaim := { program := "ythenenacmiiphaa", sum := "f0bee36fb289d6c58f77faf5be30a5b1875129ee836ca60ddac26af2c2992fa2", func := "castellan/castellanlaw19.CallAnswers", spec := "callAnswers", unfollowed := true, recurses := true, apart := false, narrowed := true }
def CallAnswersUptoSaid : Prop := callAnswersUptoRow.holds Try.pinned (OpenSpec.upto callAnswersSpec)

/-- 'castellanlaw19.CallEach', WHERE WHAT IT READS IS OF BULK AT MOST 1048576: true; the input reads as it did. -/
def callEachUptoRow : OpenClaim := { program := "ythenenacmiiphaa", sum := "f0bee36fb289d6c58f77faf5be30a5b1875129ee836ca60ddac26af2c2992fa2", func := "castellan/castellanlaw19.CallEach", spec := "callEach", unfollowed := true, recurses := true, apart := false, narrowed := true }
def CallEachUptoSaid : Prop := callEachUptoRow.holds Try.pinned (OpenSpec.upto callEachSpec)

/-- 'castellanlaw19.CallHolds', WHERE WHAT IT READS IS OF BULK AT MOST 1048576: true; the input reads as it did. -/
def callHoldsUptoRow : OpenClaim := { program := "ythenenacmiiphaa", sum := "f0bee36fb289d6c58f77faf5be30a5b1875129ee836ca60ddac26af2c2992fa2", func := "castellan/castellanlaw19.CallHolds", spec := "callHolds", unfollowed := true, recurses := true, apart := false, narrowed := true }
def CallHoldsUptoSaid : Prop := callHoldsUptoRow.holds Try.pinned (OpenSpec.upto callHoldsSpec)

end Rows
end Go.Proofs.Ythenenacmiiphaa
