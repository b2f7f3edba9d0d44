/-
  No cell of these rows narrows 'for every input' (looked for: loops, veiled, ifaces, maps, wideKeys, modest, calm, conditions, laid).
  DERIVED. THE GIVEN ROWS OF THIS SEAT. 9 by the template 'for every input the law returns true; each argument reads behind the call as it read before'; 0 by the template 'total and deterministic' (their statements: YtjgkaimgocnkmabTotals.lean).
  GIVEN WITH THE SEED: the statements are not yours to turn. If you find one false, say at which input.
  Laid BY PROGRAM, IN A SANDBOX (cutbox-rows.mjs): the forced cells as the released guide's own fill.sh prints them over the translation fa8bf935e6829a83… (all of the seat's roots in one cut). By AI agents, Wed Nov 11 2026. No macro, syntax, notation, axiom, sorry.
-/
import Derived.Test.YtjgkaimgocnkmabChecked
import GoSem.Claim
import GoSem.ClaimJoined
import GoSem.ClaimMapViews
import Derived.JoinedTies
import Derived.KernelRfl
namespace Go.Proofs.Ytjgkaimgocnkmab
/- THE CELL 'sum', in the pinned program and in every row, IS THE sha256 OF THE DUMP (.gsa) THAT YtjgkaimgocnkmabProg.lean LOADS. Nothing in Lean hashes anything: it is a label: what it is worth is what the hold of that sum in a sandbox is worth. -/
noncomputable def Try.pinned : Pinned := { name := "ytjgkaimgocnkmab", sum := "fa8bf935e6829a83c9c3f5342b979d3e720280b1a2a86fd61f883fb5ccd3f532", checked := Try.checked }
namespace Rows
def none {H : Type} : Left H := { results := [], args := [] }

/-- 'castellanlaw14.StatMakes': WHATEVER THE INPUT: true; the input reads as it did. -/
def statMakesSpec : ChangeSpec := { name := "statMakes", fn := fun _ => fun
  | [d1, d2, d3] => { results := [.lit (.bool true)], args := [d1, d2, d3] }
  | _ => none }
def statMakesRow : OpenClaim := { program := "ytjgkaimgocnkmab", sum := "fa8bf935e6829a83c9c3f5342b979d3e720280b1a2a86fd61f883fb5ccd3f532", func := "castellan/castellanlaw14.StatMakes", spec := "statMakes", unfollowed := true, recurses := true, apart := false }
def StatMakesSaid : Prop := statMakesRow.holds Try.pinned (OpenSpec.ofChange statMakesSpec)

/-- ITS FALSE NEIGHBOUR: 'it returns false'. Refute it at one input. -/
def statMakesWrong : ChangeSpec := { name := "statMakes", fn := fun _ => fun
  | [d1, d2, d3] => { results := [.lit (.bool false)], args := [d1, d2, d3] }
  | _ => none }
def StatMakesWrongFalsely : Prop := statMakesRow.holds Try.pinned (OpenSpec.ofChange statMakesWrong)

/-- 'castellanlaw14.StatLearns': WHATEVER THE INPUT: true; the input reads as it did. -/
def statLearnsSpec : ChangeSpec := { name := "statLearns", fn := fun _ => fun
  | [d1, d2, d3] => { results := [.lit (.bool true)], args := [d1, d2, d3] }
  | _ => none }
def statLearnsRow : OpenClaim := { program := "ytjgkaimgocnkmab", sum := "fa8bf935e6829a83c9c3f5342b979d3e720280b1a2a86fd61f883fb5ccd3f532", func := "castellan/castellanlaw14.StatLearns", spec := "statLearns", unfollowed := true, recurses := true, apart := false }
def StatLearnsSaid : Prop := statLearnsRow.holds Try.pinned (OpenSpec.ofChange statLearnsSpec)

/-- ITS FALSE NEIGHBOUR: 'it returns false'. Refute it at one input. -/
def statLearnsWrong : ChangeSpec := { name := "statLearns", fn := fun _ => fun
  | [d1, d2, d3] => { results := [.lit (.bool false)], args := [d1, d2, d3] }
  | _ => none }
def StatLearnsWrongFalsely : Prop := statLearnsRow.holds Try.pinned (OpenSpec.ofChange statLearnsWrong)

/-- 'castellanlaw14.StatJoins': WHATEVER THE INPUT: true; the input reads as it did. -/
def statJoinsSpec : ChangeSpec := { name := "statJoins", fn := fun _ => fun
  | [d1, d2] => { results := [.lit (.bool true)], args := [d1, d2] }
  | _ => none }
def statJoinsRow : OpenClaim := { program := "ytjgkaimgocnkmab", sum := "fa8bf935e6829a83c9c3f5342b979d3e720280b1a2a86fd61f883fb5ccd3f532", func := "castellan/castellanlaw14.StatJoins", spec := "statJoins", unfollowed := true, recurses := true, apart := false }
def StatJoinsSaid : Prop := statJoinsRow.holds Try.pinned (OpenSpec.ofChange statJoinsSpec)

/-- ITS FALSE NEIGHBOUR: 'it returns false'. Refute it at one input. -/
def statJoinsWrong : ChangeSpec := { name := "statJoins", fn := fun _ => fun
  | [d1, d2] => { results := [.lit (.bool false)], args := [d1, d2] }
  | _ => none }
def StatJoinsWrongFalsely : Prop := statJoinsRow.holds Try.pinned (OpenSpec.ofChange statJoinsWrong)

/-- 'castellanlaw14.StatPending': WHATEVER THE INPUT: true; the input reads as it did. -/
def statPendingSpec : ChangeSpec := { name := "statPending", fn := fun _ => fun
  | [d1, d2] => { results := [.lit (.bool true)], args := [d1, d2] }
  | _ => none }
def statPendingRow : OpenClaim := { program := "ytjgkaimgocnkmab", sum := "fa8bf935e6829a83c9c3f5342b979d3e720280b1a2a86fd61f883fb5ccd3f532", func := "castellan/castellanlaw14.StatPending", spec := "statPending", unfollowed := true, recurses := true, apart := false }
def StatPendingSaid : Prop := statPendingRow.holds Try.pinned (OpenSpec.ofChange statPendingSpec)

/-- ITS FALSE NEIGHBOUR: 'it returns false'. Refute it at one input. -/
def statPendingWrong : ChangeSpec := { name := "statPending", fn := fun _ => fun
  | [d1, d2] => { results := [.lit (.bool false)], args := [d1, d2] }
  | _ => none }
def StatPendingWrongFalsely : Prop := statPendingRow.holds Try.pinned (OpenSpec.ofChange statPendingWrong)

/-- 'castellanlaw14.StatHolds': WHATEVER THE INPUT: true; the input reads as it did. -/
def statHoldsSpec : ChangeSpec := { name := "statHolds", fn := fun _ => fun
  | [d1, d2, d3] => { results := [.lit (.bool true)], args := [d1, d2, d3] }
  | _ => none }
def statHoldsRow : OpenClaim := { program := "ytjgkaimgocnkmab", sum := "fa8bf935e6829a83c9c3f5342b979d3e720280b1a2a86fd61f883fb5ccd3f532", func := "castellan/castellanlaw14.StatHolds", spec := "statHolds", unfollowed := true, recurses := true, apart := false }
def StatHoldsSaid : Prop := statHoldsRow.holds Try.pinned (OpenSpec.ofChange statHoldsSpec)

/-- ITS FALSE NEIGHBOUR: 'it returns false'. Refute it at one input. -/
def statHoldsWrong : ChangeSpec := { name := "statHolds", fn := fun _ => fun
  | [d1, d2, d3] => { results := [.lit (.bool false)], args := [d1, d2, d3] }
  | _ => none }
def StatHoldsWrongFalsely : Prop := statHoldsRow.holds Try.pinned (OpenSpec.ofChange statHoldsWrong)

/-- 'castellanlaw17.EpochOrders': WHATEVER THE INPUT: true; the input reads as it did. -/
def epochOrdersSpec : ChangeSpec := { name := "epochOrders", fn := fun _ => fun
  | [d1, d2, d3] => { results := [.lit (.bool true)], args := [d1, d2, d3] }
  | _ => none }
def epochOrdersRow : OpenClaim := { program := "ytjgkaimgocnkmab", sum := "fa8bf935e6829a83c9c3f5342b979d3e720280b1a2a86fd61f883fb5ccd3f532", func := "castellan/castellanlaw17.EpochOrders", spec := "epochOrders", unfollowed := true, recurses := true, apart := false }
def EpochOrdersSaid : Prop := epochOrdersRow.holds Try.pinned (OpenSpec.ofChange epochOrdersSpec)

/-- ITS FALSE NEIGHBOUR: 'it returns false'. Refute it at one input. -/
def epochOrdersWrong : ChangeSpec := { name := "epochOrders", fn := fun _ => fun
  | [d1, d2, d3] => { results := [.lit (.bool false)], args := [d1, d2, d3] }
  | _ => none }
def EpochOrdersWrongFalsely : Prop := epochOrdersRow.holds Try.pinned (OpenSpec.ofChange epochOrdersWrong)

/-- 'castellanlaw17.EpochPromises': WHATEVER THE INPUT: true; the input reads as it did. -/
def epochPromisesSpec : ChangeSpec := { name := "epochPromises", fn := fun _ => fun
  | [d1, d2, d3] => { results := [.lit (.bool true)], args := [d1, d2, d3] }
  | _ => none }
def epochPromisesRow : OpenClaim := { program := "ytjgkaimgocnkmab", sum := "fa8bf935e6829a83c9c3f5342b979d3e720280b1a2a86fd61f883fb5ccd3f532", func := "castellan/castellanlaw17.EpochPromises", spec := "epochPromises", unfollowed := true, recurses := true, apart := false }
def EpochPromisesSaid : Prop := epochPromisesRow.holds Try.pinned (OpenSpec.ofChange epochPromisesSpec)

/-- ITS FALSE NEIGHBOUR: 'it returns false'. Refute it at one input. -/
def epochPromisesWrong : ChangeSpec := { name := "epochPromises", fn := fun _ => fun
  | [d1, d2, d3] => { results := [.lit (.bool false)], args := [d1, d2, d3] }
  | _ => none }
def EpochPromisesWrongFalsely : Prop := epochPromisesRow.holds Try.pinned (OpenSpec.ofChange epochPromisesWrong)

/-- 'castellanlaw17.EpochRising': WHATEVER THE INPUT: true; the input reads as it did. -/
def epochRisingSpec : ChangeSpec := { name := "epochRising", fn := fun _ => fun
  | [d1, d2] => { results := [.lit (.bool true)], args := [d1, d2] }
  | _ => none }
def epochRisingRow : OpenClaim := { program := "ytjgkaimgocnkmab", sum := "fa8bf935e6829a83c9c3f5342b979d3e720280b1a2a86fd61f883fb5ccd3f532", func := "castellan/castellanlaw17.EpochRising", spec := "epochRising", unfollowed := true, recurses := true, apart := false }
def EpochRisingSaid : Prop := epochRisingRow.holds Try.pinned (OpenSpec.ofChange epochRisingSpec)

/-- ITS FALSE NEIGHBOUR: 'it returns false'. Refute it at one input. -/
def epochRisingWrong : ChangeSpec := { name := "epochRising", fn := fun _ => fun
  | [d1, d2] => { results := [.lit (.bool false)], args := [d1, d2] }
  | _ => none }
def EpochRisingWrongFalsely : Prop := epochRisingRow.holds Try.pinned (OpenSpec.ofChange epochRisingWrong)

/-- 'castellanlaw17.EpochHolds': WHATEVER THE INPUT: true; the input reads as it did. -/
def epochHoldsSpec : ChangeSpec := { name := "epochHolds", fn := fun _ => fun
  | [d1, d2, d3] => { results := [.lit (.bool true)], args := [d1, d2, d3] }
  | _ => none }
def epochHoldsRow : OpenClaim := { program := "ytjgkaimgocnkmab", sum := "fa8bf935e6829a83c9c3f5342b979d3e720280b1a2a86fd61f883fb5ccd3f532", func := "castellan/castellanlaw17.EpochHolds", spec := "epochHolds", unfollowed := true, recurses := true, apart := false }
def EpochHoldsSaid : Prop := epochHoldsRow.holds Try.pinned (OpenSpec.ofChange epochHoldsSpec)

/-- ITS FALSE NEIGHBOUR: 'it returns false'. Refute it at one input. -/
def epochHoldsWrong : ChangeSpec := { name := "epochHolds", fn := fun _ => fun
  | [d1, d2, d3] => { results := [.lit (.bool false)], args := [d1, d2, d3] }
  | _ => none }
def EpochHoldsWrongFalsely : Prop := epochHoldsRow.holds Try.pinned (OpenSpec.ofChange epochHoldsWrong)

/- THE SECOND FORM. 'bulk': how many values and letters a reading holds, each counted each time it is reached (what is shared counts as often as it is met; a slice's spare places count too). A statement '..UptoSaid' is the law's where the arguments, and the package variables that the reading takes, are together of bulk at most 1048576: NARROWER than '..Said'. Prove '..Said' where nothing that the law and all that it calls make is longer than what came in: it says more and counts as full. Else prove '..UptoSaid'. A law counts once. -/
mutual
def uptoBulk {H : Type} : DataW H → Nat
  | .lit (.string bytes) => bytes.length + 1
  | .lit _ => 1
  | .nil => 1
  | .ptr d => uptoBulk d + 1
  | .slice elems spare => uptoBulkAll elems + uptoBulkAll spare + 1
  | .agg parts => uptoBulkAll parts + 1
  | .iface _ d => uptoBulk d + 1
  | .map entries => uptoBulkEntries entries + 1
  | .held _ => 1
def uptoBulkAll {H : Type} : List (DataW H) → Nat
  | [] => 0
  | d :: r => uptoBulk d + uptoBulkAll r
def uptoBulkEntries {H : Type} : List (Lit × DataW H) → Nat
  | [] => 0
  | x :: r => uptoBulkEntry x + uptoBulkEntries r
def uptoBulkEntry {H : Type} : Lit × DataW H → Nat
  | (.string bytes, d) => bytes.length + uptoBulk d + 1
  | (_, d) => uptoBulk d + 1
 end
def uptoSmall : (H : Type) → List (DataW H) → Bool := fun _ ds => decide (uptoBulkAll ds ≤ 1048576)
def OpenSpec.upto (s : _root_.Go.ChangeSpec) : _root_.Go.OpenSpec := { _root_.Go.OpenSpec.ofChange s with cond := some uptoSmall }

/-- 'castellanlaw14.StatMakes', WHERE WHAT IT READS IS OF BULK AT MOST 1048576: true; the input reads as it did. -/
def statMakesUptoRow : OpenClaim := { program := "ytjgkaimgocnkmab", sum := "fa8bf935e6829a83c9c3f5342b979d3e720280b1a2a86fd61f883fb5ccd3f532", func := "castellan/castellanlaw14.StatMakes", spec := "statMakes", unfollowed := true, recurses := true, apart := false, narrowed := true }
def StatMakesUptoSaid : Prop := statMakesUptoRow.holds Try.pinned (OpenSpec.upto statMakesSpec)

/-- 'castellanlaw14.StatLearns', WHERE WHAT IT READS IS OF BULK AT MOST 1048576: true; the input reads as it did. -/
def statLearnsUptoRow : OpenClaim := { program := "ytjgkaimgocnkmab", sum := "fa8bf935e6829a83c9c3f5342b979d3e720280b1a2a86fd61f883fb5ccd3f532", func := "castellan/castellanlaw14.StatLearns", spec := "statLearns", unfollowed := true, recurses := true, apart := false, narrowed := true }
def StatLearnsUptoSaid : Prop := statLearnsUptoRow.holds Try.pinned (OpenSpec.upto statLearnsSpec)

/-- 'castellanlaw14.StatJoins', WHERE WHAT IT READS IS OF BULK AT MOST 1048576: true; the input reads as it did. -/
def statJoinsUptoRow : OpenClaim := { program := "ytjgkaimgocnkmab", sum := "fa8bf935e6829a83c9c3f5342b979d3e720280b1a2a86fd61f883fb5ccd3f532", func := "castellan/castellanlaw14.StatJoins", spec := "statJoins", unfollowed := true, recurses := true, apart := false, narrowed := true }
def StatJoinsUptoSaid : Prop := statJoinsUptoRow.holds Try.pinned (OpenSpec.upto statJoinsSpec)

/-- 'castellanlaw14.StatPending', WHERE WHAT IT READS IS OF BULK AT MOST 1048576: true; the input reads as it did. -/
def statPendingUptoRow : OpenClaim := { program := "ytjgkaimgocnkmab", sum := "fa8bf935e6829a83c9c3f5342b979d3e720280b1a2a86fd61f883fb5ccd3f532", func := "castellan/castellanlaw14.StatPending", spec := "statPending", unfollowed := true, recurses := true, apart := false, narrowed := true }
def StatPendingUptoSaid : Prop := statPendingUptoRow.holds Try.pinned (OpenSpec.upto statPendingSpec)

/-- 'castellanlaw14.StatHolds', WHERE WHAT IT READS IS OF BULK AT MOST 1048576: true; the input reads as it did. -/
def statHoldsUptoRow : OpenClaim := { program := "ytjgkaimgocnkmab", sum := "fa8bf935e6829a83c9c3f5342b979d3e720280b1a2a86fd61f883fb5ccd3f532", func := "castellan/castellanlaw14.StatHolds", spec := "statHolds", unfollowed := true, recurses := true, apart := false, narrowed := true }
def StatHoldsUptoSaid : Prop := statHoldsUptoRow.holds Try.pinned (OpenSpec.upto statHoldsSpec)

/-- 'castellanlaw17.EpochOrders', WHERE WHAT IT READS IS OF BULK AT MOST 1048576: true; the input reads as it did. -/
def epochOrdersUptoRow : OpenClaim := { program := "ytjgkaimgocnkmab", sum := "fa8bf935e6829a83c9c3f5342b979d3e720280b1a2a86fd61f883fb5ccd3f532", func := "castellan/castellanlaw17.EpochOrders", spec := "epochOrders", unfollowed := true, recurses := true, apart := false, narrowed := true }
def EpochOrdersUptoSaid : Prop := epochOrdersUptoRow.holds Try.pinned (OpenSpec.upto epochOrdersSpec)

/-- 'castellanlaw17.EpochPromises', WHERE WHAT IT READS IS OF BULK AT MOST 1048576: true; the input reads as it did. -/
def epochPromisesUptoRow : OpenClaim := { program := "ytjgkaimgocnkmab", sum := "fa8bf935e6829a83c9c3f5342b979d3e720280b1a2a86fd61f883fb5ccd3f532", func := "castellan/castellanlaw17.EpochPromises", spec := "epochPromises", unfollowed := true, recurses := true, apart := false, narrowed := true }
def EpochPromisesUptoSaid : Prop := epochPromisesUptoRow.holds Try.pinned (OpenSpec.upto epochPromisesSpec)

/-- 'castellanlaw17.EpochRising', WHERE WHAT IT READS IS OF BULK AT MOST 1048576: true; the input reads as it did. -/
def epochRisingUptoRow : OpenClaim := { program := "ytjgkaimgocnkmab", sum := "fa8bf935e6829a83c9c3f5342b979d3e720280b1a2a86fd61f883fb5ccd3f532", func := "castellan/castellanlaw17.EpochRising", spec := "epochRising", unfollowed := true, recurses := true, apart := false, narrowed := true }
def EpochRisingUptoSaid : Prop := epochRisingUptoRow.holds Try.pinned (OpenSpec.upto epochRisingSpec)

/-- 'castellanlaw17.EpochHolds', WHERE WHAT IT READS IS OF BULK AT MOST 1048576: true; the input reads as it did. -/
def epochHoldsUptoRow : OpenClaim := { program := "ytjgkaimgocnkmab", sum := "fa8bf935e6829a83c9c3f5342b979d3e720280b1a2a86fd61f883fb5ccd3f532", func := "castellan/castellanlaw17.EpochHolds", spec := "epochHolds", unfollowed := true, recurses := true, apart := false, narrowed := true }
def EpochHoldsUptoSaid : Prop := epochHoldsUptoRow.holds Try.pinned (OpenSpec.upto epochHoldsSpec)

end Rows
end Go.Proofs.Ytjgkaimgocnkmab
