/-
  No cell of these rows narrows 'for every input' (looked for: loops, veiled, ifaces, maps, wideKeys, modest, calm, conditions, laid).
  DERIVED. THE GIVEN ROWS OF THIS SEAT. 12 by the template 'for every input the law returns true; each argument reads behind the call as it read before'; 0 by the template 'total and deterministic' (their statements: YtjgkaimgocnkmaaTotals.lean).
  GIVEN WITH THE SEED: the statements are not yours to turn. If you find one false, say at which input.
  Laid BY PROGRAM, IN A SANDBOX (cutbox-rows.mjs): the forced cells as the released guide's own fill.sh prints them over the translation d09b6be0b34f0eda… (all of the seat's roots in one cut). By AI agents, Wed Nov 11 2026. No macro, syntax, notation, axiom, sorry.
-/
import Derived.Test.YtjgkaimgocnkmaaChecked
import GoSem.Claim
import GoSem.ClaimJoined
import GoSem.ClaimMapViews
import Derived.JoinedTies
import Derived.KernelRfl
namespace Go.Proofs.Ytjgkaimgocnkmaa
/- THE CELL 'sum', in the pinned program and in every row, IS THE sha256 OF THE DUMP (.gsa) THAT YtjgkaimgocnkmaaProg.lean LOADS. Nothing in Lean hashes anything: it is a label: what it is worth is what the hold of that sum in a sandbox is worth. -/
noncomputable def Try.pinned : Pinned := { name := "ytjgkaimgocnkmaa", sum := "d09b6be0b34f0edadfab084bbe33bf3ce0286c50c864ad69caca79c6294ceeeb", checked := Try.checked }
namespace Rows
def none {H : Type} : Left H := { results := [], args := [] }

/-- 'castellanlaw01.OctetNumbers': WHATEVER THE INPUT: true; the input reads as it did. -/
def octetNumbersSpec : ChangeSpec := { name := "octetNumbers", fn := fun _ => fun
  | [d1, d2, d3] => { results := [.lit (.bool true)], args := [d1, d2, d3] }
  | _ => none }
def octetNumbersRow : OpenClaim := { program := "ytjgkaimgocnkmaa", sum := "d09b6be0b34f0edadfab084bbe33bf3ce0286c50c864ad69caca79c6294ceeeb", func := "castellan/castellanlaw01.OctetNumbers", spec := "octetNumbers", unfollowed := true, recurses := true, apart := false }
def OctetNumbersSaid : Prop := octetNumbersRow.holds Try.pinned (OpenSpec.ofChange octetNumbersSpec)

/-- ITS FALSE NEIGHBOUR: 'it returns false'. Refute it at one input. -/
def octetNumbersWrong : ChangeSpec := { name := "octetNumbers", fn := fun _ => fun
  | [d1, d2, d3] => { results := [.lit (.bool false)], args := [d1, d2, d3] }
  | _ => none }
def OctetNumbersWrongFalsely : Prop := octetNumbersRow.holds Try.pinned (OpenSpec.ofChange octetNumbersWrong)

/-- 'castellanlaw01.OctetReads': WHATEVER THE INPUT: true; the input reads as it did. -/
def octetReadsSpec : ChangeSpec := { name := "octetReads", fn := fun _ => fun
  | [d] => { results := [.lit (.bool true)], args := [d] }
  | _ => none }
def octetReadsRow : OpenClaim := { program := "ytjgkaimgocnkmaa", sum := "d09b6be0b34f0edadfab084bbe33bf3ce0286c50c864ad69caca79c6294ceeeb", func := "castellan/castellanlaw01.OctetReads", spec := "octetReads", unfollowed := true, recurses := true, apart := false }
def OctetReadsSaid : Prop := octetReadsRow.holds Try.pinned (OpenSpec.ofChange octetReadsSpec)

/-- ITS FALSE NEIGHBOUR: 'it returns false'. Refute it at one input. -/
def octetReadsWrong : ChangeSpec := { name := "octetReads", fn := fun _ => fun
  | [d] => { results := [.lit (.bool false)], args := [d] }
  | _ => none }
def OctetReadsWrongFalsely : Prop := octetReadsRow.holds Try.pinned (OpenSpec.ofChange octetReadsWrong)

/-- 'castellanlaw01.OctetTexts': WHATEVER THE INPUT: true; the input reads as it did. -/
def octetTextsSpec : ChangeSpec := { name := "octetTexts", fn := fun _ => fun
  | [d1, d2] => { results := [.lit (.bool true)], args := [d1, d2] }
  | _ => none }
def octetTextsRow : OpenClaim := { program := "ytjgkaimgocnkmaa", sum := "d09b6be0b34f0edadfab084bbe33bf3ce0286c50c864ad69caca79c6294ceeeb", func := "castellan/castellanlaw01.OctetTexts", spec := "octetTexts", unfollowed := true, recurses := true, apart := false }
def OctetTextsSaid : Prop := octetTextsRow.holds Try.pinned (OpenSpec.ofChange octetTextsSpec)

/-- ITS FALSE NEIGHBOUR: 'it returns false'. Refute it at one input. -/
def octetTextsWrong : ChangeSpec := { name := "octetTexts", fn := fun _ => fun
  | [d1, d2] => { results := [.lit (.bool false)], args := [d1, d2] }
  | _ => none }
def OctetTextsWrongFalsely : Prop := octetTextsRow.holds Try.pinned (OpenSpec.ofChange octetTextsWrong)

/-- 'castellanlaw01.OctetLists': WHATEVER THE INPUT: true; the input reads as it did. -/
def octetListsSpec : ChangeSpec := { name := "octetLists", fn := fun _ => fun
  | [d1, d2, d3] => { results := [.lit (.bool true)], args := [d1, d2, d3] }
  | _ => none }
def octetListsRow : OpenClaim := { program := "ytjgkaimgocnkmaa", sum := "d09b6be0b34f0edadfab084bbe33bf3ce0286c50c864ad69caca79c6294ceeeb", func := "castellan/castellanlaw01.OctetLists", spec := "octetLists", unfollowed := true, recurses := true, apart := false }
def OctetListsSaid : Prop := octetListsRow.holds Try.pinned (OpenSpec.ofChange octetListsSpec)

/-- ITS FALSE NEIGHBOUR: 'it returns false'. Refute it at one input. -/
def octetListsWrong : ChangeSpec := { name := "octetLists", fn := fun _ => fun
  | [d1, d2, d3] => { results := [.lit (.bool false)], args := [d1, d2, d3] }
  | _ => none }
def OctetListsWrongFalsely : Prop := octetListsRow.holds Try.pinned (OpenSpec.ofChange octetListsWrong)

/-- 'castellanlaw01.OctetListed': WHATEVER THE INPUT: true; the input reads as it did. -/
def octetListedSpec : ChangeSpec := { name := "octetListed", fn := fun _ => fun
  | [d1, d2] => { results := [.lit (.bool true)], args := [d1, d2] }
  | _ => none }
def octetListedRow : OpenClaim := { program := "ytjgkaimgocnkmaa", sum := "d09b6be0b34f0edadfab084bbe33bf3ce0286c50c864ad69caca79c6294ceeeb", func := "castellan/castellanlaw01.OctetListed", spec := "octetListed", unfollowed := true, recurses := true, apart := false }
def OctetListedSaid : Prop := octetListedRow.holds Try.pinned (OpenSpec.ofChange octetListedSpec)

/-- ITS FALSE NEIGHBOUR: 'it returns false'. Refute it at one input. -/
def octetListedWrong : ChangeSpec := { name := "octetListed", fn := fun _ => fun
  | [d1, d2] => { results := [.lit (.bool false)], args := [d1, d2] }
  | _ => none }
def OctetListedWrongFalsely : Prop := octetListedRow.holds Try.pinned (OpenSpec.ofChange octetListedWrong)

/-- 'castellanlaw01.OctetEach': WHATEVER THE INPUT: true; the input reads as it did. -/
def octetEachSpec : ChangeSpec := { name := "octetEach", fn := fun _ => fun
  | [d1, d2] => { results := [.lit (.bool true)], args := [d1, d2] }
  | _ => none }
def octetEachRow : OpenClaim := { program := "ytjgkaimgocnkmaa", sum := "d09b6be0b34f0edadfab084bbe33bf3ce0286c50c864ad69caca79c6294ceeeb", func := "castellan/castellanlaw01.OctetEach", spec := "octetEach", unfollowed := true, recurses := true, apart := false }
def OctetEachSaid : Prop := octetEachRow.holds Try.pinned (OpenSpec.ofChange octetEachSpec)

/-- ITS FALSE NEIGHBOUR: 'it returns false'. Refute it at one input. -/
def octetEachWrong : ChangeSpec := { name := "octetEach", fn := fun _ => fun
  | [d1, d2] => { results := [.lit (.bool false)], args := [d1, d2] }
  | _ => none }
def OctetEachWrongFalsely : Prop := octetEachRow.holds Try.pinned (OpenSpec.ofChange octetEachWrong)

/-- 'castellanlaw01.OctetHolds': WHATEVER THE INPUT: true; the input reads as it did. -/
def octetHoldsSpec : ChangeSpec := { name := "octetHolds", fn := fun _ => fun
  | [d1, d2, d3] => { results := [.lit (.bool true)], args := [d1, d2, d3] }
  | _ => none }
def octetHoldsRow : OpenClaim := { program := "ytjgkaimgocnkmaa", sum := "d09b6be0b34f0edadfab084bbe33bf3ce0286c50c864ad69caca79c6294ceeeb", func := "castellan/castellanlaw01.OctetHolds", spec := "octetHolds", unfollowed := true, recurses := true, apart := false }
def OctetHoldsSaid : Prop := octetHoldsRow.holds Try.pinned (OpenSpec.ofChange octetHoldsSpec)

/-- ITS FALSE NEIGHBOUR: 'it returns false'. Refute it at one input. -/
def octetHoldsWrong : ChangeSpec := { name := "octetHolds", fn := fun _ => fun
  | [d1, d2, d3] => { results := [.lit (.bool false)], args := [d1, d2, d3] }
  | _ => none }
def OctetHoldsWrongFalsely : Prop := octetHoldsRow.holds Try.pinned (OpenSpec.ofChange octetHoldsWrong)

/-- 'castellanlaw11.LinkMakes': WHATEVER THE INPUT: true; the input reads as it did. -/
def linkMakesSpec : ChangeSpec := { name := "linkMakes", fn := fun _ => fun
  | [d1, d2, d3] => { results := [.lit (.bool true)], args := [d1, d2, d3] }
  | _ => none }
def linkMakesRow : OpenClaim := { program := "ytjgkaimgocnkmaa", sum := "d09b6be0b34f0edadfab084bbe33bf3ce0286c50c864ad69caca79c6294ceeeb", func := "castellan/castellanlaw11.LinkMakes", spec := "linkMakes", unfollowed := true, recurses := true, apart := false }
def LinkMakesSaid : Prop := linkMakesRow.holds Try.pinned (OpenSpec.ofChange linkMakesSpec)

/-- ITS FALSE NEIGHBOUR: 'it returns false'. Refute it at one input. -/
def linkMakesWrong : ChangeSpec := { name := "linkMakes", fn := fun _ => fun
  | [d1, d2, d3] => { results := [.lit (.bool false)], args := [d1, d2, d3] }
  | _ => none }
def LinkMakesWrongFalsely : Prop := linkMakesRow.holds Try.pinned (OpenSpec.ofChange linkMakesWrong)

/-- 'castellanlaw11.LinkSends': WHATEVER THE INPUT: true; the input reads as it did. -/
def linkSendsSpec : ChangeSpec := { name := "linkSends", fn := fun _ => fun
  | [d1, d2] => { results := [.lit (.bool true)], args := [d1, d2] }
  | _ => none }
def linkSendsRow : OpenClaim := { program := "ytjgkaimgocnkmaa", sum := "d09b6be0b34f0edadfab084bbe33bf3ce0286c50c864ad69caca79c6294ceeeb", func := "castellan/castellanlaw11.LinkSends", spec := "linkSends", unfollowed := true, recurses := true, apart := false }
def LinkSendsSaid : Prop := linkSendsRow.holds Try.pinned (OpenSpec.ofChange linkSendsSpec)

/-- ITS FALSE NEIGHBOUR: 'it returns false'. Refute it at one input. -/
def linkSendsWrong : ChangeSpec := { name := "linkSends", fn := fun _ => fun
  | [d1, d2] => { results := [.lit (.bool false)], args := [d1, d2] }
  | _ => none }
def LinkSendsWrongFalsely : Prop := linkSendsRow.holds Try.pinned (OpenSpec.ofChange linkSendsWrong)

/-- 'castellanlaw11.LinkTakes': WHATEVER THE INPUT: true; the input reads as it did. -/
def linkTakesSpec : ChangeSpec := { name := "linkTakes", fn := fun _ => fun
  | [d1, d2, d3] => { results := [.lit (.bool true)], args := [d1, d2, d3] }
  | _ => none }
def linkTakesRow : OpenClaim := { program := "ytjgkaimgocnkmaa", sum := "d09b6be0b34f0edadfab084bbe33bf3ce0286c50c864ad69caca79c6294ceeeb", func := "castellan/castellanlaw11.LinkTakes", spec := "linkTakes", unfollowed := true, recurses := true, apart := false }
def LinkTakesSaid : Prop := linkTakesRow.holds Try.pinned (OpenSpec.ofChange linkTakesSpec)

/-- ITS FALSE NEIGHBOUR: 'it returns false'. Refute it at one input. -/
def linkTakesWrong : ChangeSpec := { name := "linkTakes", fn := fun _ => fun
  | [d1, d2, d3] => { results := [.lit (.bool false)], args := [d1, d2, d3] }
  | _ => none }
def LinkTakesWrongFalsely : Prop := linkTakesRow.holds Try.pinned (OpenSpec.ofChange linkTakesWrong)

/-- 'castellanlaw11.LinkEach': WHATEVER THE INPUT: true; the input reads as it did. -/
def linkEachSpec : ChangeSpec := { name := "linkEach", fn := fun _ => fun
  | [d1, d2, d3] => { results := [.lit (.bool true)], args := [d1, d2, d3] }
  | _ => none }
def linkEachRow : OpenClaim := { program := "ytjgkaimgocnkmaa", sum := "d09b6be0b34f0edadfab084bbe33bf3ce0286c50c864ad69caca79c6294ceeeb", func := "castellan/castellanlaw11.LinkEach", spec := "linkEach", unfollowed := true, recurses := true, apart := false }
def LinkEachSaid : Prop := linkEachRow.holds Try.pinned (OpenSpec.ofChange linkEachSpec)

/-- ITS FALSE NEIGHBOUR: 'it returns false'. Refute it at one input. -/
def linkEachWrong : ChangeSpec := { name := "linkEach", fn := fun _ => fun
  | [d1, d2, d3] => { results := [.lit (.bool false)], args := [d1, d2, d3] }
  | _ => none }
def LinkEachWrongFalsely : Prop := linkEachRow.holds Try.pinned (OpenSpec.ofChange linkEachWrong)

/-- 'castellanlaw11.LinkHolds': WHATEVER THE INPUT: true; the input reads as it did. -/
def linkHoldsSpec : ChangeSpec := { name := "linkHolds", fn := fun _ => fun
  | [d1, d2] => { results := [.lit (.bool true)], args := [d1, d2] }
  | _ => none }
def linkHoldsRow : OpenClaim := { program := "ytjgkaimgocnkmaa", sum := "d09b6be0b34f0edadfab084bbe33bf3ce0286c50c864ad69caca79c6294ceeeb", func := "castellan/castellanlaw11.LinkHolds", spec := "linkHolds", unfollowed := true, recurses := true, apart := false }
def LinkHoldsSaid : Prop := linkHoldsRow.holds Try.pinned (OpenSpec.ofChange linkHoldsSpec)

/-- ITS FALSE NEIGHBOUR: 'it returns false'. Refute it at one input. -/
def linkHoldsWrong : ChangeSpec := { name := "linkHolds", fn := fun _ => fun
  | [d1, d2] => { results := [.lit (.bool false)], args := [d1, d2] }
  | _ => none }
def LinkHoldsWrongFalsely : Prop := linkHoldsRow.holds Try.pinned (OpenSpec.ofChange linkHoldsWrong)

/- THE SECOND FORM. 'bulk': how many values and letters a reading holds, each counted each time it is reached (what is shared counts as often as it is met; a slice's spare places count too). A statement '..UptoSaid' is the law's where the arguments, and the package variables that the reading takes, are together of bulk at most 1048576: NARROWER than '..Said'. Prove '..Said' where nothing that the law and all that it calls make is longer than what came in: it says more and counts as full. Else prove '..UptoSaid'. A law counts once. -/
mutual
def uptoBulk {H : Type} : DataW H → Nat
  | .lit (.string bytes) => bytes.length + 1
  | .lit _ => 1
  | .nil => 1
  | .ptr d => uptoBulk d + 1
  | .slice elems spare => uptoBulkAll elems + uptoBulkAll spare + 1
  | .agg parts => uptoBulkAll parts + 1
  | .iface _ d => uptoBulk d + 1
  | .map entries => uptoBulkEntries entries + 1
  | .held _ => 1
def uptoBulkAll {H : Type} : List (DataW H) → Nat
  | [] => 0
  | d :: r => uptoBulk d + uptoBulkAll r
def uptoBulkEntries {H : Type} : List (Lit × DataW H) → Nat
  | [] => 0
  | x :: r => uptoBulkEntry x + uptoBulkEntries r
def uptoBulkEntry {H : Type} : Lit × DataW H → Nat
  | (.string bytes, d) => bytes.length + uptoBulk d + 1
  | (_, d) => uptoBulk d + 1
 end
def uptoSmall : (H : Type) → List (DataW H) → Bool := fun _ ds => decide (uptoBulkAll ds ≤ 1048576)
def OpenSpec.upto (s : _root_.Go.ChangeSpec) : _root_.Go.OpenSpec := { _root_.Go.OpenSpec.ofChange s with cond := some uptoSmall }

/-- 'castellanlaw01.OctetNumbers', WHERE WHAT IT READS IS OF BULK AT MOST 1048576: true; the input reads as it did. -/
def octetNumbersUptoRow : OpenClaim := { program := "ytjgkaimgocnkmaa", sum := "d09b6be0b34f0edadfab084bbe33bf3ce0286c50c864ad69caca79c6294ceeeb", func := "castellan/castellanlaw01.OctetNumbers", spec := "octetNumbers", unfollowed := true, recurses := true, apart := false, narrowed := true }
def OctetNumbersUptoSaid : Prop := octetNumbersUptoRow.holds Try.pinned (OpenSpec.upto octetNumbersSpec)

/-- 'castellanlaw01.OctetReads', WHERE WHAT IT READS IS OF BULK AT MOST 1048576: true; the input reads as it did. -/
def octetReadsUptoRow : OpenClaim := { program := "ytjgkaimgocnkmaa", sum := "d09b6be0b34f0edadfab084bbe33bf3ce0286c50c864ad69caca79c6294ceeeb", func := "castellan/castellanlaw01.OctetReads", spec := "octetReads", unfollowed := true, recurses := true, apart := false, narrowed := true }
def OctetReadsUptoSaid : Prop := octetReadsUptoRow.holds Try.pinned (OpenSpec.upto octetReadsSpec)

/-- 'castellanlaw01.OctetTexts', WHERE WHAT IT READS IS OF BULK AT MOST 1048576: true; the input reads as it did. -/
def octetTextsUptoRow : OpenClaim := { program := "ytjgkaimgocnkmaa", sum := "d09b6be0b34f0edadfab084bbe33bf3ce0286c50c864ad69caca79c6294ceeeb", func := "castellan/castellanlaw01.OctetTexts", spec := "octetTexts", unfollowed := true, recurses := true, apart := false, narrowed := true }
def OctetTextsUptoSaid : Prop := octetTextsUptoRow.holds Try.pinned (OpenSpec.upto octetTextsSpec)

/-- 'castellanlaw01.OctetLists', WHERE WHAT IT READS IS OF BULK AT MOST 1048576: true; the input reads as it did. -/
def octetListsUptoRow : OpenClaim := { program := "ytjgkaimgocnkmaa", sum := "d09b6be0b34f0edadfab084bbe33bf3ce0286c50c864ad69caca79c6294ceeeb", func := "castellan/castellanlaw01.OctetLists", spec := "octetLists", unfollowed := true, recurses := true, apart := false, narrowed := true }
def OctetListsUptoSaid : Prop := octetListsUptoRow.holds Try.pinned (OpenSpec.upto octetListsSpec)

/-- 'castellanlaw01.OctetListed', WHERE WHAT IT READS IS OF BULK AT MOST 1048576: true; the input reads as it did. -/
def octetListedUptoRow : OpenClaim := { program := "ytjgkaimgocnkmaa", sum := "d09b6be0b34f0edadfab084bbe33bf3ce0286c50c864ad69caca79c6294ceeeb", func := "castellan/castellanlaw01.OctetListed", spec := "octetListed", unfollowed := true, recurses := true, apart := false, narrowed := true }
def OctetListedUptoSaid : Prop := octetListedUptoRow.holds Try.pinned (OpenSpec.upto octetListedSpec)

/-- 'castellanlaw01.OctetEach', WHERE WHAT IT READS IS OF BULK AT MOST 1048576: true; the input reads as it did. -/
def octetEachUptoRow : OpenClaim := { program := "ytjgkaimgocnkmaa", sum := "d09b6be0b34f0edadfab084bbe33bf3ce0286c50c864ad69caca79c6294ceeeb", func := "castellan/castellanlaw01.OctetEach", spec := "octetEach", unfollowed := true, recurses := true, apart := false, narrowed := true }
def OctetEachUptoSaid : Prop := octetEachUptoRow.holds Try.pinned (OpenSpec.upto octetEachSpec)

/-- 'castellanlaw01.OctetHolds', WHERE WHAT IT READS IS OF BULK AT MOST 1048576: true; the input reads as it did. -/
def octetHoldsUptoRow : OpenClaim := { program := "ytjgkaimgocnkmaa", sum := "d09b6be0b34f0edadfab084bbe33bf3ce0286c50c864ad69caca79c6294ceeeb", func := "castellan/castellanlaw01.OctetHolds", spec := "octetHolds", unfollowed := true, recurses := true, apart := false, narrowed := true }
def OctetHoldsUptoSaid : Prop := octetHoldsUptoRow.holds Try.pinned (OpenSpec.upto octetHoldsSpec)

/-- 'castellanlaw11.LinkMakes', WHERE WHAT IT READS IS OF BULK AT MOST 1048576: true; the input reads as it did. -/
def linkMakesUptoRow : OpenClaim := { program := "ytjgkaimgocnkmaa", sum := "d09b6be0b34f0edadfab084bbe33bf3ce0286c50c864ad69caca79c6294ceeeb", func := "castellan/castellanlaw11.LinkMakes", spec := "linkMakes", unfollowed := true, recurses := true, apart := false, narrowed := true }
def LinkMakesUptoSaid : Prop := linkMakesUptoRow.holds Try.pinned (OpenSpec.upto linkMakesSpec)

/-- 'castellanlaw11.LinkSends', WHERE WHAT IT READS IS OF BULK AT MOST 1048576: true; the input reads as it did. -/
def linkSendsUptoRow : OpenClaim := { program := "ytjgkaimgocnkmaa", sum := "d09b6be0b34f0edadfab084bbe33bf3ce0286c50c864ad69caca79c6294ceeeb", func := "castellan/castellanlaw11.LinkSends", spec := "linkSends", unfollowed := true, recurses := true, apart := false, narrowed := true }
def LinkSendsUptoSaid : Prop := linkSendsUptoRow.holds Try.pinned (OpenSpec.upto linkSendsSpec)

/-- 'castellanlaw11.LinkTakes', WHERE WHAT IT READS IS OF BULK AT MOST 1048576: true; the input reads as it did. -/
def linkTakesUptoRow : OpenClaim := { program := "ytjgkaimgocnkmaa", sum := "d09b6be0b34f0edadfab084bbe33bf3ce0286c50c864ad69caca79c6294ceeeb", func := "castellan/castellanlaw11.LinkTakes", spec := "linkTakes", unfollowed := true, recurses := true, apart := false, narrowed := true }
def LinkTakesUptoSaid : Prop := linkTakesUptoRow.holds Try.pinned (OpenSpec.upto linkTakesSpec)

/-- 'castellanlaw11.LinkEach', WHERE WHAT IT READS IS OF BULK AT MOST 1048576: true; the input reads as it did. -/
def linkEachUptoRow : OpenClaim := { program := "ytjgkaimgocnkmaa", sum := "d09b6be0b34f0edadfab084bbe33bf3ce0286c50c864ad69caca79c6294ceeeb", func := "castellan/castellanlaw11.LinkEach", spec := "linkEach", unfollowed := true, recurses := true, apart := false, narrowed := true }
def LinkEachUptoSaid : Prop := linkEachUptoRow.holds Try.pinned (OpenSpec.upto linkEachSpec)

/-- 'castellanlaw11.LinkHolds', WHERE WHAT IT READS IS OF BULK AT MOST 1048576: true; the input reads as it did. -/
def linkHoldsUptoRow : OpenClaim := { program := "ytjgkaimgocnkmaa", sum := "d09b6be0b34f0edadfab084bbe33bf3ce0286c50c864ad69caca79c6294ceeeb", func := "castellan/castellanlaw11.LinkHolds", spec := "linkHolds", unfollowed := true, recurses := true, apart := false, narrowed := true }
def LinkHoldsUptoSaid : Prop := linkHoldsUptoRow.holds Try.pinned (OpenSpec.upto linkHoldsSpec)

end Rows
end Go.Proofs.Ytjgkaimgocnkmaa
