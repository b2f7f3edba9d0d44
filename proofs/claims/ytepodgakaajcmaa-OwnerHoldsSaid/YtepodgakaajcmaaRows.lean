/-
  No cell of these rows narrows 'for every input' (looked for: loops, veiled, ifaces, maps, wideKeys, modest, calm, conditions, laid).
  DERIVED. THE GIVEN ROWS OF THIS SEAT. 10 by the template 'for every input the law returns true; each argument reads behind the call as it read before'; 0 by the template 'total and deterministic' (their statements: YtepodgakaajcmaaTotals.lean).
  GIVEN WITH THE SEED: the statements are not yours to turn. If you find one false, say at which input.
  Laid BY PROGRAM, IN A SANDBOX (cutbox-rows.mjs): the forced cells as the released guide's own fill.sh prints them over the translation 820d696573aafc8d… (all of the seat's roots in one cut). By AI agents, Wed Nov 11 2026. No macro, syntax, notation, axiom, sorry.
-/
import Derived.Test.YtepodgakaajcmaaChecked
import GoSem.Claim
import GoSem.ClaimJoined
import GoSem.ClaimMapViews
import Derived.JoinedTies
import Derived.KernelRfl
namespace Go.Proofs.Ytepodgakaajcmaa
/- THE CELL 'sum', in the pinned program and in every row, IS THE sha256 OF THE DUMP (.gsa) THAT YtepodgakaajcmaaProg.lean LOADS. Nothing in Lean hashes anything: it is a label: what it is worth is what the hold of that sum in a sandbox is worth. -/
noncomputable def Try.pinned : Pinned := { name := "ytepodgakaajcmaa", sum := "820d696573aafc8dea58997c19361d74f4694b6414c8f17e1a0a082c9f5d390f", checked := Try.checked }
namespace Rows
def none {H : Type} : Left H := { results := [], args := [] }

/-- 'castellanlaw16.OwnerGuesses': WHATEVER THE INPUT: true; the input reads as it did. -/
def ownerGuessesSpec : ChangeSpec := { name := "ownerGuesses", fn := fun _ => fun
  | [d1, d2, d3] => { results := [.lit (.bool true)], args := [d1, d2, d3] }
  | _ => none }
def ownerGuessesRow : OpenClaim := { program := "ytepodgakaajcmaa", sum := "820d696573aafc8dea58997c19361d74f4694b6414c8f17e1a0a082c9f5d390f", func := "castellan/castellanlaw16.OwnerGuesses", spec := "ownerGuesses", unfollowed := true, recurses := true, apart := false }
def OwnerGuessesSaid : Prop := ownerGuessesRow.holds Try.pinned (OpenSpec.ofChange ownerGuessesSpec)

/-- ITS FALSE NEIGHBOUR: 'it returns false'. Refute it at one input. -/
def ownerGuessesWrong : ChangeSpec := { name := "ownerGuesses", fn := fun _ => fun
  | [d1, d2, d3] => { results := [.lit (.bool false)], args := [d1, d2, d3] }
  | _ => none }
def OwnerGuessesWrongFalsely : Prop := ownerGuessesRow.holds Try.pinned (OpenSpec.ofChange ownerGuessesWrong)

/-- 'castellanlaw16.OwnerOn': WHATEVER THE INPUT: true; the input reads as it did. -/
def ownerOnSpec : ChangeSpec := { name := "ownerOn", fn := fun _ => fun
  | [d1, d2, d3] => { results := [.lit (.bool true)], args := [d1, d2, d3] }
  | _ => none }
def ownerOnRow : OpenClaim := { program := "ytepodgakaajcmaa", sum := "820d696573aafc8dea58997c19361d74f4694b6414c8f17e1a0a082c9f5d390f", func := "castellan/castellanlaw16.OwnerOn", spec := "ownerOn", unfollowed := true, recurses := true, apart := false }
def OwnerOnSaid : Prop := ownerOnRow.holds Try.pinned (OpenSpec.ofChange ownerOnSpec)

/-- ITS FALSE NEIGHBOUR: 'it returns false'. Refute it at one input. -/
def ownerOnWrong : ChangeSpec := { name := "ownerOn", fn := fun _ => fun
  | [d1, d2, d3] => { results := [.lit (.bool false)], args := [d1, d2, d3] }
  | _ => none }
def OwnerOnWrongFalsely : Prop := ownerOnRow.holds Try.pinned (OpenSpec.ofChange ownerOnWrong)

/-- 'castellanlaw16.OwnerFirst': WHATEVER THE INPUT: true; the input reads as it did. -/
def ownerFirstSpec : ChangeSpec := { name := "ownerFirst", fn := fun _ => fun
  | [d1, d2, d3] => { results := [.lit (.bool true)], args := [d1, d2, d3] }
  | _ => none }
def ownerFirstRow : OpenClaim := { program := "ytepodgakaajcmaa", sum := "820d696573aafc8dea58997c19361d74f4694b6414c8f17e1a0a082c9f5d390f", func := "castellan/castellanlaw16.OwnerFirst", spec := "ownerFirst", unfollowed := true, recurses := true, apart := false }
def OwnerFirstSaid : Prop := ownerFirstRow.holds Try.pinned (OpenSpec.ofChange ownerFirstSpec)

/-- ITS FALSE NEIGHBOUR: 'it returns false'. Refute it at one input. -/
def ownerFirstWrong : ChangeSpec := { name := "ownerFirst", fn := fun _ => fun
  | [d1, d2, d3] => { results := [.lit (.bool false)], args := [d1, d2, d3] }
  | _ => none }
def OwnerFirstWrongFalsely : Prop := ownerFirstRow.holds Try.pinned (OpenSpec.ofChange ownerFirstWrong)

/-- 'castellanlaw16.OwnerWays': WHATEVER THE INPUT: true; the input reads as it did. -/
def ownerWaysSpec : ChangeSpec := { name := "ownerWays", fn := fun _ => fun
  | [d1, d2, d3] => { results := [.lit (.bool true)], args := [d1, d2, d3] }
  | _ => none }
def ownerWaysRow : OpenClaim := { program := "ytepodgakaajcmaa", sum := "820d696573aafc8dea58997c19361d74f4694b6414c8f17e1a0a082c9f5d390f", func := "castellan/castellanlaw16.OwnerWays", spec := "ownerWays", unfollowed := true, recurses := true, apart := false }
def OwnerWaysSaid : Prop := ownerWaysRow.holds Try.pinned (OpenSpec.ofChange ownerWaysSpec)

/-- ITS FALSE NEIGHBOUR: 'it returns false'. Refute it at one input. -/
def ownerWaysWrong : ChangeSpec := { name := "ownerWays", fn := fun _ => fun
  | [d1, d2, d3] => { results := [.lit (.bool false)], args := [d1, d2, d3] }
  | _ => none }
def OwnerWaysWrongFalsely : Prop := ownerWaysRow.holds Try.pinned (OpenSpec.ofChange ownerWaysWrong)

/-- 'castellanlaw16.OwnerRises': WHATEVER THE INPUT: true; the input reads as it did. -/
def ownerRisesSpec : ChangeSpec := { name := "ownerRises", fn := fun _ => fun
  | [d1, d2, d3] => { results := [.lit (.bool true)], args := [d1, d2, d3] }
  | _ => none }
def ownerRisesRow : OpenClaim := { program := "ytepodgakaajcmaa", sum := "820d696573aafc8dea58997c19361d74f4694b6414c8f17e1a0a082c9f5d390f", func := "castellan/castellanlaw16.OwnerRises", spec := "ownerRises", unfollowed := true, recurses := true, apart := false }
def OwnerRisesSaid : Prop := ownerRisesRow.holds Try.pinned (OpenSpec.ofChange ownerRisesSpec)

/-- ITS FALSE NEIGHBOUR: 'it returns false'. Refute it at one input. -/
def ownerRisesWrong : ChangeSpec := { name := "ownerRises", fn := fun _ => fun
  | [d1, d2, d3] => { results := [.lit (.bool false)], args := [d1, d2, d3] }
  | _ => none }
def OwnerRisesWrongFalsely : Prop := ownerRisesRow.holds Try.pinned (OpenSpec.ofChange ownerRisesWrong)

/-- 'castellanlaw16.OwnerHolds': WHATEVER THE INPUT: true; the input reads as it did. -/
def ownerHoldsSpec : ChangeSpec := { name := "ownerHolds", fn := fun _ => fun
  | [d1, d2, d3] => { results := [.lit (.bool true)], args := [d1, d2, d3] }
  | _ => none }
def ownerHoldsRow : OpenClaim := { program := "ytepodgakaajcmaa", sum := "820d696573aafc8dea58997c19361d74f4694b6414c8f17e1a0a082c9f5d390f", func := "castellan/castellanlaw16.OwnerHolds", spec := "ownerHolds", unfollowed := true, recurses := true, apart := false }
def OwnerHoldsSaid : Prop := ownerHoldsRow.holds Try.pinned (OpenSpec.ofChange ownerHoldsSpec)

/-- ITS FALSE NEIGHBOUR: 'it returns false'. Refute it at one input. -/
def ownerHoldsWrong : ChangeSpec := { name := "ownerHolds", fn := fun _ => fun
  | [d1, d2, d3] => { results := [.lit (.bool false)], args := [d1, d2, d3] }
  | _ => none }
def OwnerHoldsWrongFalsely : Prop := ownerHoldsRow.holds Try.pinned (OpenSpec.ofChange ownerHoldsWrong)

/-- 'castellanlaw18.ReportAdds': WHATEVER THE INPUT: true; the input reads as it did. -/
def reportAddsSpec : ChangeSpec := { name := "reportAdds", fn := fun _ => fun
  | [d1, d2, d3] => { results := [.lit (.bool true)], args := [d1, d2, d3] }
  | _ => none }
def reportAddsRow : OpenClaim := { program := "ytepodgakaajcmaa", sum := "820d696573aafc8dea58997c19361d74f4694b6414c8f17e1a0a082c9f5d390f", func := "castellan/castellanlaw18.ReportAdds", spec := "reportAdds", unfollowed := true, recurses := true, apart := false }
def ReportAddsSaid : Prop := reportAddsRow.holds Try.pinned (OpenSpec.ofChange reportAddsSpec)

/-- ITS FALSE NEIGHBOUR: 'it returns false'. Refute it at one input. -/
def reportAddsWrong : ChangeSpec := { name := "reportAdds", fn := fun _ => fun
  | [d1, d2, d3] => { results := [.lit (.bool false)], args := [d1, d2, d3] }
  | _ => none }
def ReportAddsWrongFalsely : Prop := reportAddsRow.holds Try.pinned (OpenSpec.ofChange reportAddsWrong)

/-- 'castellanlaw18.ReportDecides': WHATEVER THE INPUT: true; the input reads as it did. -/
def reportDecidesSpec : ChangeSpec := { name := "reportDecides", fn := fun _ => fun
  | [d1, d2, d3] => { results := [.lit (.bool true)], args := [d1, d2, d3] }
  | _ => none }
def reportDecidesRow : OpenClaim := { program := "ytepodgakaajcmaa", sum := "820d696573aafc8dea58997c19361d74f4694b6414c8f17e1a0a082c9f5d390f", func := "castellan/castellanlaw18.ReportDecides", spec := "reportDecides", unfollowed := true, recurses := true, apart := false }
def ReportDecidesSaid : Prop := reportDecidesRow.holds Try.pinned (OpenSpec.ofChange reportDecidesSpec)

/-- ITS FALSE NEIGHBOUR: 'it returns false'. Refute it at one input. -/
def reportDecidesWrong : ChangeSpec := { name := "reportDecides", fn := fun _ => fun
  | [d1, d2, d3] => { results := [.lit (.bool false)], args := [d1, d2, d3] }
  | _ => none }
def ReportDecidesWrongFalsely : Prop := reportDecidesRow.holds Try.pinned (OpenSpec.ofChange reportDecidesWrong)

/-- 'castellanlaw18.ReportMissing': WHATEVER THE INPUT: true; the input reads as it did. -/
def reportMissingSpec : ChangeSpec := { name := "reportMissing", fn := fun _ => fun
  | [d1, d2, d3] => { results := [.lit (.bool true)], args := [d1, d2, d3] }
  | _ => none }
def reportMissingRow : OpenClaim := { program := "ytepodgakaajcmaa", sum := "820d696573aafc8dea58997c19361d74f4694b6414c8f17e1a0a082c9f5d390f", func := "castellan/castellanlaw18.ReportMissing", spec := "reportMissing", unfollowed := true, recurses := true, apart := false }
def ReportMissingSaid : Prop := reportMissingRow.holds Try.pinned (OpenSpec.ofChange reportMissingSpec)

/-- ITS FALSE NEIGHBOUR: 'it returns false'. Refute it at one input. -/
def reportMissingWrong : ChangeSpec := { name := "reportMissing", fn := fun _ => fun
  | [d1, d2, d3] => { results := [.lit (.bool false)], args := [d1, d2, d3] }
  | _ => none }
def ReportMissingWrongFalsely : Prop := reportMissingRow.holds Try.pinned (OpenSpec.ofChange reportMissingWrong)

/-- 'castellanlaw18.ReportHolds': WHATEVER THE INPUT: true; the input reads as it did. -/
def reportHoldsSpec : ChangeSpec := { name := "reportHolds", fn := fun _ => fun
  | [d1, d2, d3] => { results := [.lit (.bool true)], args := [d1, d2, d3] }
  | _ => none }
def reportHoldsRow : OpenClaim := { program := "ytepodgakaajcmaa", sum := "820d696573aafc8dea58997c19361d74f4694b6414c8f17e1a0a082c9f5d390f", func := "castellan/castellanlaw18.ReportHolds", spec := "reportHolds", unfollowed := true, recurses := true, apart := false }
def ReportHoldsSaid : Prop := reportHoldsRow.holds Try.pinned (OpenSpec.ofChange reportHoldsSpec)

/-- ITS FALSE NEIGHBOUR: 'it returns false'. Refute it at one input. -/
def reportHoldsWrong : ChangeSpec := { name := "reportHolds", fn := fun _ => fun
  | [d1, d2, d3] => { results := [.lit (.bool false)], args := [d1, d2, d3] }
  | _ => none }
def ReportHoldsWrongFalsely : Prop := reportHoldsRow.holds Try.pinned (OpenSpec.ofChange reportHoldsWrong)

/- THE SECOND FORM. 'bulk': how many values and letters a reading holds, each counted each time it is reached (what is shared counts as often as it is met; a slice's spare places count too). A statement '..UptoSaid' is the law's where the arguments, and the package variables that the reading takes, are together of bulk at most 1048576: NARROWER than '..Said'. Prove '..Said' where nothing that the law and all that it calls make is longer than what came in: it says more and counts as full. Else prove '..UptoSaid'. A law counts once. -/
mutual
def uptoBulk {H : Type} : DataW H → Nat
  | .lit (.string bytes) => bytes.length + 1
  | .lit _ => 1
  | .nil => 1
  | .ptr d => uptoBulk d + 1
  | .slice elems spare => uptoBulkAll elems + uptoBulkAll spare + 1
  | .agg parts => uptoBulkAll parts + 1
  | .iface _ d => uptoBulk d + 1
  | .map entries => uptoBulkEntries entries + 1
  | .held _ => 1
def uptoBulkAll {H : Type} : List (DataW H) → Nat
  | [] => 0
  | d :: r => uptoBulk d + uptoBulkAll r
def uptoBulkEntries {H : Type} : List (Lit × DataW H) → Nat
  | [] => 0
  | x :: r => uptoBulkEntry x + uptoBulkEntries r
def uptoBulkEntry {H : Type} : Lit × DataW H → Nat
  | (.string bytes, d) => bytes.length + uptoBulk d + 1
  | (_, d) => uptoBulk d + 1
 end
def uptoSmall : (H : Type) → List (DataW H) → Bool := fun _ ds => decide (uptoBulkAll ds ≤ 1048576)
def OpenSpec.upto (s : _root_.Go.ChangeSpec) : _root_.Go.OpenSpec := { _root_.Go.OpenSpec.ofChange s with cond := some uptoSmall }

/-- 'castellanlaw16.OwnerGuesses', WHERE WHAT IT READS IS OF BULK AT MOST 1048576: true; the input reads as it did. -/
def ownerGuessesUptoRow : OpenClaim := { program := "ytepodgakaajcmaa", sum := "820d696573aafc8dea58997c19361d74f4694b6414c8f17e1a0a082c9f5d390f", func := "castellan/castellanlaw16.OwnerGuesses", spec := "ownerGuesses", unfollowed := true, recurses := true, apart := false, narrowed := true }
def OwnerGuessesUptoSaid : Prop := ownerGuessesUptoRow.holds Try.pinned (OpenSpec.upto ownerGuessesSpec)

/-- 'castellanlaw16.OwnerOn', WHERE WHAT IT READS IS OF BULK AT MOST 1048576: true; the input reads as it did. -/
def ownerOnUptoRow : OpenClaim := { program := "ytepodgakaajcmaa", sum := "820d696573aafc8dea58997c19361d74f4694b6414c8f17e1a0a082c9f5d390f", func := "castellan/castellanlaw16.OwnerOn", spec := "ownerOn", unfollowed := true, recurses := true, apart := false, narrowed := true }
def OwnerOnUptoSaid : Prop := ownerOnUptoRow.holds Try.pinned (OpenSpec.upto ownerOnSpec)

/-- 'castellanlaw16.OwnerFirst', WHERE WHAT IT READS IS OF BULK AT MOST 1048576: true; the input reads as it did. -/
def ownerFirstUptoRow : OpenClaim := { program := "ytepodgakaajcmaa", sum := "820d696573aafc8dea58997c19361d74f4694b6414c8f17e1a0a082c9f5d390f", func := "castellan/castellanlaw16.OwnerFirst", spec := "ownerFirst", unfollowed := true, recurses := true, apart := false, narrowed := true }
def OwnerFirstUptoSaid : Prop := ownerFirstUptoRow.holds Try.pinned (OpenSpec.upto ownerFirstSpec)

/-- 'castellanlaw16.OwnerWays', WHERE WHAT IT READS IS OF BULK AT MOST 1048576: true; the input reads as it did. -/
def ownerWaysUptoRow : OpenClaim := { program := "ytepodgakaajcmaa", sum := "820d696573aafc8dea58997c19361d74f4694b6414c8f17e1a0a082c9f5d390f", func := "castellan/castellanlaw16.OwnerWays", spec := "ownerWays", unfollowed := true, recurses := true, apart := false, narrowed := true }
def OwnerWaysUptoSaid : Prop := ownerWaysUptoRow.holds Try.pinned (OpenSpec.upto ownerWaysSpec)

/-- 'castellanlaw16.OwnerRises', WHERE WHAT IT READS IS OF BULK AT MOST 1048576: true; the input reads as it did. -/
def ownerRisesUptoRow : OpenClaim := { program := "ytepodgakaajcmaa", sum := "820d696573aafc8dea58997c19361d74f4694b6414c8f17e1a0a082c9f5d390f", func := "castellan/castellanlaw16.OwnerRises", spec := "ownerRises", unfollowed := true, recurses := true, apart := false, narrowed := true }
def OwnerRisesUptoSaid : Prop := ownerRisesUptoRow.holds Try.pinned (OpenSpec.upto ownerRisesSpec)

/-- 'castellanlaw16.OwnerHolds', WHERE WHAT IT READS IS OF BULK AT MOST 1048576: true; the input reads as it did. -/
def ownerHoldsUptoRow : OpenClaim := { program := "ytepodgakaajcmaa", sum := "820d696573aafc8dea58997c19361d74f4694b6414c8f17e1a0a082c9f5d390f", func := "castellan/castellanlaw16.OwnerHolds", spec := "ownerHolds", unfollowed := true, recurses := true, apart := false, narrowed := true }
def OwnerHoldsUptoSaid : Prop := ownerHoldsUptoRow.holds Try.pinned (OpenSpec.upto ownerHoldsSpec)

/-- 'castellanlaw18.ReportAdds', WHERE WHAT IT READS IS OF BULK AT MOST 1048576: true; the input reads as it did. -/
def reportAddsUptoRow : OpenClaim := { program := "ytepodgakaajcmaa", sum := "820d696573aafc8dea58997c19361d74f4694b6414c8f17e1a0a082c9f5d390f", func := "castellan/castellanlaw18.ReportAdds", spec := "reportAdds", unfollowed := true, recurses := true, apart := false, narrowed := true }
def ReportAddsUptoSaid : Prop := reportAddsUptoRow.holds Try.pinned (OpenSpec.upto reportAddsSpec)

/-- 'castellanlaw18.ReportDecides', WHERE WHAT IT READS IS OF BULK AT MOST 1048576: true; the input reads as it did. -/
def reportDecidesUptoRow : OpenClaim := { program := "ytepodgakaajcmaa", sum := "820d696573aafc8dea58997c19361d74f4694b6414c8f17e1a0a082c9f5d390f", func := "castellan/castellanlaw18.ReportDecides", spec := "reportDecides", unfollowed := true, recurses := true, apart := false, narrowed := true }
def ReportDecidesUptoSaid : Prop := reportDecidesUptoRow.holds Try.pinned (OpenSpec.upto reportDecidesSpec)

/-- 'castellanlaw18.ReportMissing', WHERE WHAT IT READS IS OF BULK AT MOST 1048576: true; the input reads as it did. -/
def reportMissingUptoRow : OpenClaim := { program := "ytepodgakaajcmaa", sum := "820d696573aafc8dea58997c19361d74f4694b6414c8f17e1a0a082c9f5d390f", func := "castellan/castellanlaw18.ReportMissing", spec := "reportMissing", unfollowed := true, recurses := true, apart := false, narrowed := true }
def ReportMissingUptoSaid : Prop := reportMissingUptoRow.holds Try.pinned (OpenSpec.upto reportMissingSpec)

/-- 'castellanlaw18.ReportHolds', WHERE WHAT IT READS IS OF BULK AT MOST 1048576: true; the input reads as it did. -/
def reportHoldsUptoRow : OpenClaim := { program := "ytepodgakaajcmaa", sum := "820d696573aafc8dea58997c19361d74f4694b6414c8f17e1a0a082c9f5d390f", func := "castellan/castellanlaw18.ReportHolds", spec := "reportHolds", unfollowed := true, recurses := true, apart := false, narrowed := true }
def ReportHoldsUptoSaid : Prop := reportHoldsUptoRow.holds Try.pinned (OpenSpec.upto reportHoldsSpec)

end Rows
end Go.Proofs.Ytepodgakaajcmaa
