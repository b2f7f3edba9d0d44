/-
  No cell of these rows narrows 'for every input' (looked for: loops, veiled, ifaces, maps, wideKeys, modest, calm, conditions, laid).
  DERIVED. THE GIVEN ROWS OF THIS SEAT. 6 by the template 'for every input the law returns true; each argument reads behind the call as it read before'; 0 by the template 'total and deterministic' (their statements: YtgiobnmlapijjaaTotals.lean).
  GIVEN WITH THE SEED: the statements are not yours to turn. If you find one false, say at which input.
  Laid BY PROGRAM, IN A SANDBOX (cutbox-rows.mjs): the forced cells as the released guide's own fill.sh prints them over the translation 7c67c817a54ef291… (all of the seat's roots in one cut). By AI agents, Wed Nov 11 2026. No macro, syntax, notation, axiom, sorry.
-/
import Derived.Test.YtgiobnmlapijjaaChecked
import GoSem.Claim
import GoSem.ClaimJoined
import GoSem.ClaimMapViews
import Derived.JoinedTies
import Derived.KernelRfl
namespace Go.Proofs.Ytgiobnmlapijjaa
/- THE CELL 'sum', in the pinned program and in every row, IS THE sha256 OF THE DUMP (.gsa) THAT YtgiobnmlapijjaaProg.lean LOADS. Nothing in Lean hashes anything: it is a label: what it is worth is what the hold of that sum in a sandbox is worth. -/
noncomputable def Try.pinned : Pinned := { name := "ytgiobnmlapijjaa", sum := "7c67c817a54ef2916d0abe909ca0400716c889d66b25db7ac7e3e4ce5333bb7e", checked := Try.checked }
namespace Rows
def none {H : Type} : Left H := { results := [], args := [] }

/-- 'castellanlaw16.OwnerGuesses': WHATEVER THE INPUT: true; the input reads as it did. -/
def ownerGuessesSpec : ChangeSpec := { name := "ownerGuesses", fn := fun _ => fun
  | [d1, d2, d3] => { results := [.lit (.bool true)], args := [d1, d2, d3] }
  | _ => none }
def ownerGuessesRow : OpenClaim := { program := "ytgiobnmlapijjaa", sum := "7c67c817a54ef2916d0abe909ca0400716c889d66b25db7ac7e3e4ce5333bb7e", func := "castellan/castellanlaw16.OwnerGuesses", spec := "ownerGuesses", unfollowed := true, recurses := true, apart := false }
def OwnerGuessesSaid : Prop := ownerGuessesRow.holds Try.pinned (OpenSpec.ofChange ownerGuessesSpec)

/-- ITS FALSE NEIGHBOUR: 'it returns false'. Refute it at one input. -/
def ownerGuessesWrong : ChangeSpec := { name := "ownerGuesses", fn := fun _ => fun
  | [d1, d2, d3] => { results := [.lit (.bool false)], args := [d1, d2, d3] }
  | _ => none }
def OwnerGuessesWrongFalsely : Prop := ownerGuessesRow.holds Try.pinned (OpenSpec.ofChange ownerGuessesWrong)

/-- 'castellanlaw16.OwnerOn': WHATEVER THE INPUT: true; the input reads as it did. -/
def ownerOnSpec : ChangeSpec := { name := "ownerOn", fn := fun _ => fun
  | [d1, d2, d3] => { results := [.lit (.bool true)], args := [d1, d2, d3] }
  | _ => none }
def ownerOnRow : OpenClaim := { program := "ytgiobnmlapijjaa", sum := "7c67c817a54ef2916d0abe909ca0400716c889d66b25db7ac7e3e4ce5333bb7e", func := "castellan/castellanlaw16.OwnerOn", spec := "ownerOn", unfollowed := true, recurses := true, apart := false }
def OwnerOnSaid : Prop := ownerOnRow.holds Try.pinned (OpenSpec.ofChange ownerOnSpec)

/-- ITS FALSE NEIGHBOUR: 'it returns false'. Refute it at one input. -/
def ownerOnWrong : ChangeSpec := { name := "ownerOn", fn := fun _ => fun
  | [d1, d2, d3] => { results := [.lit (.bool false)], args := [d1, d2, d3] }
  | _ => none }
def OwnerOnWrongFalsely : Prop := ownerOnRow.holds Try.pinned (OpenSpec.ofChange ownerOnWrong)

/-- 'castellanlaw16.OwnerFirst': WHATEVER THE INPUT: true; the input reads as it did. -/
def ownerFirstSpec : ChangeSpec := { name := "ownerFirst", fn := fun _ => fun
  | [d1, d2, d3] => { results := [.lit (.bool true)], args := [d1, d2, d3] }
  | _ => none }
def ownerFirstRow : OpenClaim := { program := "ytgiobnmlapijjaa", sum := "7c67c817a54ef2916d0abe909ca0400716c889d66b25db7ac7e3e4ce5333bb7e", func := "castellan/castellanlaw16.OwnerFirst", spec := "ownerFirst", unfollowed := true, recurses := true, apart := false }
def OwnerFirstSaid : Prop := ownerFirstRow.holds Try.pinned (OpenSpec.ofChange ownerFirstSpec)

/-- ITS FALSE NEIGHBOUR: 'it returns false'. Refute it at one input. -/
def ownerFirstWrong : ChangeSpec := { name := "ownerFirst", fn := fun _ => fun
  | [d1, d2, d3] => { results := [.lit (.bool false)], args := [d1, d2, d3] }
  | _ => none }
def OwnerFirstWrongFalsely : Prop := ownerFirstRow.holds Try.pinned (OpenSpec.ofChange ownerFirstWrong)

/-- 'castellanlaw16.OwnerWays': WHATEVER THE INPUT: true; the input reads as it did. -/
def ownerWaysSpec : ChangeSpec := { name := "ownerWays", fn := fun _ => fun
  | [d1, d2, d3] => { results := [.lit (.bool true)], args := [d1, d2, d3] }
  | _ => none }
def ownerWaysRow : OpenClaim := { program := "ytgiobnmlapijjaa", sum := "7c67c817a54ef2916d0abe909ca0400716c889d66b25db7ac7e3e4ce5333bb7e", func := "castellan/castellanlaw16.OwnerWays", spec := "ownerWays", unfollowed := true, recurses := true, apart := false }
def OwnerWaysSaid : Prop := ownerWaysRow.holds Try.pinned (OpenSpec.ofChange ownerWaysSpec)

/-- ITS FALSE NEIGHBOUR: 'it returns false'. Refute it at one input. -/
def ownerWaysWrong : ChangeSpec := { name := "ownerWays", fn := fun _ => fun
  | [d1, d2, d3] => { results := [.lit (.bool false)], args := [d1, d2, d3] }
  | _ => none }
def OwnerWaysWrongFalsely : Prop := ownerWaysRow.holds Try.pinned (OpenSpec.ofChange ownerWaysWrong)

/-- 'castellanlaw16.OwnerRises': WHATEVER THE INPUT: true; the input reads as it did. -/
def ownerRisesSpec : ChangeSpec := { name := "ownerRises", fn := fun _ => fun
  | [d1, d2, d3] => { results := [.lit (.bool true)], args := [d1, d2, d3] }
  | _ => none }
def ownerRisesRow : OpenClaim := { program := "ytgiobnmlapijjaa", sum := "7c67c817a54ef2916d0abe909ca0400716c889d66b25db7ac7e3e4ce5333bb7e", func := "castellan/castellanlaw16.OwnerRises", spec := "ownerRises", unfollowed := true, recurses := true, apart := false }
def OwnerRisesSaid : Prop := ownerRisesRow.holds Try.pinned (OpenSpec.ofChange ownerRisesSpec)

/-- ITS FALSE NEIGHBOUR: 'it returns false'. Refute it at one input. -/
def ownerRisesWrong : ChangeSpec := { name := "ownerRises", fn := fun _ => fun
  | [d1, d2, d3] => { results := [.lit (.bool false)], args := [d1, d2, d3] }
  | _ => none }
def OwnerRisesWrongFalsely : Prop := ownerRisesRow.holds Try.pinned (OpenSpec.ofChange ownerRisesWrong)

/-- 'castellanlaw16.OwnerHolds': WHATEVER THE INPUT: true; the input reads as it did. -/
def ownerHoldsSpec : ChangeSpec := { name := "ownerHolds", fn := fun _ => fun
  | [d1, d2, d3] => { results := [.lit (.bool true)], args := [d1, d2, d3] }
  | _ => none }
def ownerHoldsRow : OpenClaim := { program := "ytgiobnmlapijjaa", sum := "7c67c817a54ef2916d0abe909ca0400716c889d66b25db7ac7e3e4ce5333bb7e", func := "castellan/castellanlaw16.OwnerHolds", spec := "ownerHolds", unfollowed := true, recurses := true, apart := false }
def OwnerHoldsSaid : Prop := ownerHoldsRow.holds Try.pinned (OpenSpec.ofChange ownerHoldsSpec)

/-- ITS FALSE NEIGHBOUR: 'it returns false'. Refute it at one input. -/
def ownerHoldsWrong : ChangeSpec := { name := "ownerHolds", fn := fun _ => fun
  | [d1, d2, d3] => { results := [.lit (.bool false)], args := [d1, d2, d3] }
  | _ => none }
def OwnerHoldsWrongFalsely : Prop := ownerHoldsRow.holds Try.pinned (OpenSpec.ofChange ownerHoldsWrong)

/- THE SECOND FORM. 'bulk': how many values and letters a reading holds, each counted each time it is reached (what is shared counts as often as it is met; a slice's spare places count too). A statement '..UptoSaid' is the law's where the arguments, and the package variables that the reading takes, are together of bulk at most 1048576: NARROWER than '..Said'. Prove '..Said' where nothing that the law and all that it calls make is longer than what came in: it says more and counts as full. Else prove '..UptoSaid'. A law counts once. -/
mutual
def uptoBulk {H : Type} : DataW H → Nat
  | .lit (.string bytes) => bytes.length + 1
  | .lit _ => 1
  | .nil => 1
  | .ptr d => uptoBulk d + 1
  | .slice elems spare => uptoBulkAll elems + uptoBulkAll spare + 1
  | .agg parts => uptoBulkAll parts + 1
  | .iface _ d => uptoBulk d + 1
  | .map entries => uptoBulkEntries entries + 1
  | .held _ => 1
def uptoBulkAll {H : Type} : List (DataW H) → Nat
  | [] => 0
  | d :: r => uptoBulk d + uptoBulkAll r
def uptoBulkEntries {H : Type} : List (Lit × DataW H) → Nat
  | [] => 0
  | x :: r => uptoBulkEntry x + uptoBulkEntries r
def uptoBulkEntry {H : Type} : Lit × DataW H → Nat
  | (.string bytes, d) => bytes.length + uptoBulk d + 1
  | (_, d) => uptoBulk d + 1
 end
def uptoSmall : (H : Type) → List (DataW H) → Bool := fun _ ds => decide (uptoBulkAll ds ≤ 1048576)
def OpenSpec.upto (s : _root_.Go.ChangeSpec) : _root_.Go.OpenSpec := { _root_.Go.OpenSpec.ofChange s with cond := some uptoSmall }

/-- 'castellanlaw16.OwnerGuesses', WHERE WHAT IT READS IS OF BULK AT MOST 1048576: true; the input reads as it did. -/
def ownerGuessesUptoRow : OpenClaim := { program := "ytgiobnmlapijjaa", sum := "7c67c817a54ef2916d0abe909ca0400716c889d66b25db7ac7e3e4ce5333bb7e", func := "castellan/castellanlaw16.OwnerGuesses", spec := "ownerGuesses", unfollowed := true, recurses := true, apart := false, narrowed := true }
def OwnerGuessesUptoSaid : Prop := ownerGuessesUptoRow.holds Try.pinned (OpenSpec.upto ownerGuessesSpec)

/-- 'castellanlaw16.OwnerOn', WHERE WHAT IT READS IS OF BULK AT MOST 1048576: true; the input reads as it did. -/
def ownerOnUptoRow : OpenClaim := { program := "ytgiobnmlapijjaa", sum := "7c67c817a54ef2916d0abe909ca0400716c889d66b25db7ac7e3e4ce5333bb7e", func := "castellan/castellanlaw16.OwnerOn", spec := "ownerOn", unfollowed := true, recurses := true, apart := false, narrowed := true }
def OwnerOnUptoSaid : Prop := ownerOnUptoRow.holds Try.pinned (OpenSpec.upto ownerOnSpec)

/-- 'castellanlaw16.OwnerFirst', WHERE WHAT IT READS IS OF BULK AT MOST 1048576: true; the input reads as it did. -/
def ownerFirstUptoRow : OpenClaim := { program := "ytgiobnmlapijjaa", sum := "7c67c817a54ef2916d0abe909ca0400716c889d66b25db7ac7e3e4ce5333bb7e", func := "castellan/castellanlaw16.OwnerFirst", spec := "ownerFirst", unfollowed := true, recurses := true, apart := false, narrowed := true }
def OwnerFirstUptoSaid : Prop := ownerFirstUptoRow.holds Try.pinned (OpenSpec.upto ownerFirstSpec)

/-- 'castellanlaw16.OwnerWays', WHERE WHAT IT READS IS OF BULK AT MOST 1048576: true; the input reads as it did. -/
def ownerWaysUptoRow : OpenClaim := { program := "ytgiobnmlapijjaa", sum := "7c67c817a54ef2916d0abe909ca0400716c889d66b25db7ac7e3e4ce5333bb7e", func := "castellan/castellanlaw16.OwnerWays", spec := "ownerWays", unfollowed := true, recurses := true, apart := false, narrowed := true }
def OwnerWaysUptoSaid : Prop := ownerWaysUptoRow.holds Try.pinned (OpenSpec.upto ownerWaysSpec)

/-- 'castellanlaw16.OwnerRises', WHERE WHAT IT READS IS OF BULK AT MOST 1048576: true; the input reads as it did. -/
def ownerRisesUptoRow : OpenClaim := { program := "ytgiobnmlapijjaa", sum := "7c67c817a54ef2916d0abe909ca0400716c889d66b25db7ac7e3e4ce5333bb7e", func := "castellan/castellanlaw16.OwnerRises", spec := "ownerRises", unfollowed := true, recurses := true, apart := false, narrowed := true }
def OwnerRisesUptoSaid : Prop := ownerRisesUptoRow.holds Try.pinned (OpenSpec.upto ownerRisesSpec)

/-- 'castellanlaw16.OwnerHolds', WHERE WHAT IT READS IS OF BULK AT MOST 1048576: true; the input reads as it did. -/
def ownerHoldsUptoRow : OpenClaim := { program := "ytgiobnmlapijjaa", sum := "7c67c817a54ef2916d0abe909ca0400716c889d66b25db7ac7e3e4ce5333bb7e", func := "castellan/castellanlaw16.OwnerHolds", spec := "ownerHolds", unfollowed := true, recurses := true, apart := false, narrowed := true }
def OwnerHoldsUptoSaid : Prop := ownerHoldsUptoRow.holds Try.pinned (OpenSpec.upto ownerHoldsSpec)

end Rows
end Go.Proofs.Ytgiobnmlapijjaa
