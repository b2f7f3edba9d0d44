/-
  NARROWER THAN 'FOR EVERY INPUT', by the rows' own cells (each row's printed sentence says how): ModePairs: laid · ModeJoins: laid · ModeNames: laid · ModeEach: laid · ModeHolds: laid · SiteNumbers: laid · SiteTickets: laid.
  DERIVED. THE GIVEN ROWS OF THIS SEAT. 7 by the template 'for every input the law returns true; each argument reads behind the call as it read before'; 0 by the template 'total and deterministic' (their statements: YtgcejfcfaaidhaaDoorTotals.lean).
  GIVEN WITH THE SEED: the statements are not yours to turn. If you find one false, say at which input.
  Laid BY PROGRAM, IN A SANDBOX (cutbox-rows.mjs): the forced cells as the released guide's own fill.sh prints them over the translation 5825fddb4c4b54de… (all of the seat's roots in one cut). By AI agents, Wed Nov 11 2026. No macro, syntax, notation, axiom, sorry.
-/
import Derived.Test.YtgcejfcfaaidhaaDoorChecked
import GoSem.PinnedTables
import GoSem.Claim
import GoSem.ClaimJoined
import GoSem.ClaimMapViews
import Derived.JoinedTies
import Derived.KernelRfl
namespace Go.Proofs.YtgcejfcfaaidhaaDoor
/- THE CELL 'sum', in the pinned program and in every row, IS THE sha256 OF THE DUMP (.gsa) THAT YtgcejfcfaaidhaaDoorProg.lean LOADS. Nothing in Lean hashes anything: it is a label: what it is worth is what the hold of that sum in a sandbox is worth. -/
noncomputable def Tryd.pinned : Pinned := { name := "ytgcejfcfaaidhaadoor", sum := "5825fddb4c4b54de895e6d711e42ead22e6fde312f0dfe28b75830c00029f6fc", checked := Tryd.checked }
namespace Rows
def none {H : Type} : Left H := { results := [], args := [] }

/- WHAT THE LISTED PACKAGE-LEVEL VARIABLES READ AS WHEN THE CALL BEGINS. Each datum BY PROGRAM (the guide's laid-datum.mjs) off the statement by which the dump's own 'gosem.cut.vars' lays the variable. In a bare row this is a premise. The card (YtgcejfcfaaidhaaDoorCards.lean) ties it to the program's text. -/
def laid_castellan_mode_fits {H : Type} : DataW H := .agg [.agg [.lit (.bool true), .lit (.bool true), .lit (.bool true), .lit (.bool true), .lit (.bool true), .lit (.bool true)], .agg [.lit (.bool true), .lit (.bool true), .lit (.bool true), .lit (.bool true), .lit (.bool true), .lit (.bool false)], .agg [.lit (.bool true), .lit (.bool true), .lit (.bool true), .lit (.bool false), .lit (.bool false), .lit (.bool false)], .agg [.lit (.bool true), .lit (.bool true), .lit (.bool false), .lit (.bool true), .lit (.bool false), .lit (.bool false)], .agg [.lit (.bool true), .lit (.bool true), .lit (.bool false), .lit (.bool false), .lit (.bool false), .lit (.bool false)], .agg [.lit (.bool true), .lit (.bool false), .lit (.bool false), .lit (.bool false), .lit (.bool false), .lit (.bool false)]]
def laid_castellan_mode_covers {H : Type} : DataW H := .agg [.agg [.lit (.bool true), .lit (.bool false), .lit (.bool false), .lit (.bool false), .lit (.bool false), .lit (.bool false)], .agg [.lit (.bool true), .lit (.bool true), .lit (.bool false), .lit (.bool false), .lit (.bool false), .lit (.bool false)], .agg [.lit (.bool true), .lit (.bool true), .lit (.bool true), .lit (.bool false), .lit (.bool false), .lit (.bool false)], .agg [.lit (.bool true), .lit (.bool true), .lit (.bool false), .lit (.bool true), .lit (.bool false), .lit (.bool false)], .agg [.lit (.bool true), .lit (.bool true), .lit (.bool true), .lit (.bool true), .lit (.bool true), .lit (.bool false)], .agg [.lit (.bool true), .lit (.bool true), .lit (.bool true), .lit (.bool true), .lit (.bool true), .lit (.bool true)]]
def laid_castellan_mode_names {H : Type} : DataW H := .agg [.lit (.string [110, 111, 110, 101]), .lit (.string [105, 115]), .lit (.string [105, 120]), .lit (.string [115]), .lit (.string [115, 105, 120]), .lit (.string [120])]
def laid_math_bits_deBruijn32tab {H : Type} : DataW H := .agg [.lit (.int .u8 0), .lit (.int .u8 1), .lit (.int .u8 28), .lit (.int .u8 2), .lit (.int .u8 29), .lit (.int .u8 14), .lit (.int .u8 24), .lit (.int .u8 3), .lit (.int .u8 30), .lit (.int .u8 22), .lit (.int .u8 20), .lit (.int .u8 15), .lit (.int .u8 25), .lit (.int .u8 17), .lit (.int .u8 4), .lit (.int .u8 8), .lit (.int .u8 31), .lit (.int .u8 27), .lit (.int .u8 13), .lit (.int .u8 23), .lit (.int .u8 21), .lit (.int .u8 19), .lit (.int .u8 16), .lit (.int .u8 7), .lit (.int .u8 26), .lit (.int .u8 12), .lit (.int .u8 18), .lit (.int .u8 6), .lit (.int .u8 11), .lit (.int .u8 5), .lit (.int .u8 10), .lit (.int .u8 9)]
def laid_math_bits_deBruijn64tab {H : Type} : DataW H := .agg [.lit (.int .u8 0), .lit (.int .u8 1), .lit (.int .u8 56), .lit (.int .u8 2), .lit (.int .u8 57), .lit (.int .u8 49), .lit (.int .u8 28), .lit (.int .u8 3), .lit (.int .u8 61), .lit (.int .u8 58), .lit (.int .u8 42), .lit (.int .u8 50), .lit (.int .u8 38), .lit (.int .u8 29), .lit (.int .u8 17), .lit (.int .u8 4), .lit (.int .u8 62), .lit (.int .u8 47), .lit (.int .u8 59), .lit (.int .u8 36), .lit (.int .u8 45), .lit (.int .u8 43), .lit (.int .u8 51), .lit (.int .u8 22), .lit (.int .u8 53), .lit (.int .u8 39), .lit (.int .u8 33), .lit (.int .u8 30), .lit (.int .u8 24), .lit (.int .u8 18), .lit (.int .u8 12), .lit (.int .u8 5), .lit (.int .u8 63), .lit (.int .u8 55), .lit (.int .u8 48), .lit (.int .u8 27), .lit (.int .u8 60), .lit (.int .u8 41), .lit (.int .u8 37), .lit (.int .u8 16), .lit (.int .u8 46), .lit (.int .u8 35), .lit (.int .u8 44), .lit (.int .u8 21), .lit (.int .u8 52), .lit (.int .u8 32), .lit (.int .u8 23), .lit (.int .u8 11), .lit (.int .u8 54), .lit (.int .u8 26), .lit (.int .u8 40), .lit (.int .u8 15), .lit (.int .u8 34), .lit (.int .u8 20), .lit (.int .u8 31), .lit (.int .u8 10), .lit (.int .u8 25), .lit (.int .u8 14), .lit (.int .u8 19), .lit (.int .u8 9), .lit (.int .u8 13), .lit (.int .u8 8), .lit (.int .u8 7), .lit (.int .u8 6)]
def laid_internal_strconv_uint64pow10 {H : Type} : DataW H := .agg [.lit (.int .u64 1), .lit (.int .u64 10), .lit (.int .u64 100), .lit (.int .u64 1000), .lit (.int .u64 10000), .lit (.int .u64 100000), .lit (.int .u64 1000000), .lit (.int .u64 10000000), .lit (.int .u64 100000000), .lit (.int .u64 1000000000), .lit (.int .u64 10000000000), .lit (.int .u64 100000000000), .lit (.int .u64 1000000000000), .lit (.int .u64 10000000000000), .lit (.int .u64 100000000000000), .lit (.int .u64 1000000000000000), .lit (.int .u64 10000000000000000), .lit (.int .u64 100000000000000000), .lit (.int .u64 1000000000000000000), .lit (.int .u64 10000000000000000000)]
def laid_unicode_utf8_acceptRanges {H : Type} : DataW H := .agg [.agg [.lit (.int .u8 128), .lit (.int .u8 191)], .agg [.lit (.int .u8 160), .lit (.int .u8 191)], .agg [.lit (.int .u8 128), .lit (.int .u8 159)], .agg [.lit (.int .u8 144), .lit (.int .u8 191)], .agg [.lit (.int .u8 128), .lit (.int .u8 143)], .agg [.lit (.int .u8 0), .lit (.int .u8 0)], .agg [.lit (.int .u8 0), .lit (.int .u8 0)], .agg [.lit (.int .u8 0), .lit (.int .u8 0)], .agg [.lit (.int .u8 0), .lit (.int .u8 0)], .agg [.lit (.int .u8 0), .lit (.int .u8 0)], .agg [.lit (.int .u8 0), .lit (.int .u8 0)], .agg [.lit (.int .u8 0), .lit (.int .u8 0)], .agg [.lit (.int .u8 0), .lit (.int .u8 0)], .agg [.lit (.int .u8 0), .lit (.int .u8 0)], .agg [.lit (.int .u8 0), .lit (.int .u8 0)], .agg [.lit (.int .u8 0), .lit (.int .u8 0)]]
def laid_strconv_ErrRange {H : Type} : DataW H := .iface "*errors.errorString" (.ptr (.agg [.lit (.string [118, 97, 108, 117, 101, 32, 111, 117, 116, 32, 111, 102, 32, 114, 97, 110, 103, 101])]))
def laid_strconv_ErrSyntax {H : Type} : DataW H := .iface "*errors.errorString" (.ptr (.agg [.lit (.string [105, 110, 118, 97, 108, 105, 100, 32, 115, 121, 110, 116, 97, 120])]))
/-- One of Go's own tables, pinned by name: the form's constant. -/
def laid_unicode_utf8_first : DataW Unit := Go.Pinned.utf8First

/-- 'castellanlaw03.ModePairs': WHATEVER THE INPUT: true; the input reads as it did. -/
def modePairsSpec : ChangeSpec := { name := "modePairs", fn := fun _ => fun
  | [d1, d2] => { results := [.lit (.bool true)], args := [d1, d2] }
  | _ => none }
def modePairsRow : OpenClaim := { program := "ytgcejfcfaaidhaadoor", sum := "5825fddb4c4b54de895e6d711e42ead22e6fde312f0dfe28b75830c00029f6fc", func := "castellan/castellanlaw03.ModePairs", spec := "modePairs", unfollowed := true, recurses := true, named := ["castellan/mode.fits", "castellan/mode.covers", "castellan/mode.names"], apart := false, laid := [("castellan/mode.fits", laid_castellan_mode_fits), ("castellan/mode.covers", laid_castellan_mode_covers), ("castellan/mode.names", laid_castellan_mode_names)] }
def ModePairsSaid : Prop := modePairsRow.holds Tryd.pinned (OpenSpec.ofChange modePairsSpec)

/-- ITS FALSE NEIGHBOUR: 'it returns false'. Refute it at one input. -/
def modePairsWrong : ChangeSpec := { name := "modePairs", fn := fun _ => fun
  | [d1, d2] => { results := [.lit (.bool false)], args := [d1, d2] }
  | _ => none }
def ModePairsWrongFalsely : Prop := modePairsRow.holds Tryd.pinned (OpenSpec.ofChange modePairsWrong)

/-- 'castellanlaw03.ModeJoins': WHATEVER THE INPUT: true; the input reads as it did. -/
def modeJoinsSpec : ChangeSpec := { name := "modeJoins", fn := fun _ => fun
  | [d] => { results := [.lit (.bool true)], args := [d] }
  | _ => none }
def modeJoinsRow : OpenClaim := { program := "ytgcejfcfaaidhaadoor", sum := "5825fddb4c4b54de895e6d711e42ead22e6fde312f0dfe28b75830c00029f6fc", func := "castellan/castellanlaw03.ModeJoins", spec := "modeJoins", unfollowed := true, recurses := true, named := ["castellan/mode.fits", "castellan/mode.covers", "castellan/mode.names"], apart := false, laid := [("castellan/mode.fits", laid_castellan_mode_fits), ("castellan/mode.covers", laid_castellan_mode_covers), ("castellan/mode.names", laid_castellan_mode_names)] }
def ModeJoinsSaid : Prop := modeJoinsRow.holds Tryd.pinned (OpenSpec.ofChange modeJoinsSpec)

/-- ITS FALSE NEIGHBOUR: 'it returns false'. Refute it at one input. -/
def modeJoinsWrong : ChangeSpec := { name := "modeJoins", fn := fun _ => fun
  | [d] => { results := [.lit (.bool false)], args := [d] }
  | _ => none }
def ModeJoinsWrongFalsely : Prop := modeJoinsRow.holds Tryd.pinned (OpenSpec.ofChange modeJoinsWrong)

/-- 'castellanlaw03.ModeNames': WHATEVER THE INPUT: true; the input reads as it did. -/
def modeNamesSpec : ChangeSpec := { name := "modeNames", fn := fun _ => fun
  | [d1, d2] => { results := [.lit (.bool true)], args := [d1, d2] }
  | _ => none }
def modeNamesRow : OpenClaim := { program := "ytgcejfcfaaidhaadoor", sum := "5825fddb4c4b54de895e6d711e42ead22e6fde312f0dfe28b75830c00029f6fc", func := "castellan/castellanlaw03.ModeNames", spec := "modeNames", unfollowed := true, recurses := true, named := ["castellan/mode.fits", "castellan/mode.covers", "castellan/mode.names"], apart := false, laid := [("castellan/mode.fits", laid_castellan_mode_fits), ("castellan/mode.covers", laid_castellan_mode_covers), ("castellan/mode.names", laid_castellan_mode_names)] }
def ModeNamesSaid : Prop := modeNamesRow.holds Tryd.pinned (OpenSpec.ofChange modeNamesSpec)

/-- ITS FALSE NEIGHBOUR: 'it returns false'. Refute it at one input. -/
def modeNamesWrong : ChangeSpec := { name := "modeNames", fn := fun _ => fun
  | [d1, d2] => { results := [.lit (.bool false)], args := [d1, d2] }
  | _ => none }
def ModeNamesWrongFalsely : Prop := modeNamesRow.holds Tryd.pinned (OpenSpec.ofChange modeNamesWrong)

/-- 'castellanlaw03.ModeEach': WHATEVER THE INPUT: true; the input reads as it did. -/
def modeEachSpec : ChangeSpec := { name := "modeEach", fn := fun _ => fun
  | [d] => { results := [.lit (.bool true)], args := [d] }
  | _ => none }
def modeEachRow : OpenClaim := { program := "ytgcejfcfaaidhaadoor", sum := "5825fddb4c4b54de895e6d711e42ead22e6fde312f0dfe28b75830c00029f6fc", func := "castellan/castellanlaw03.ModeEach", spec := "modeEach", unfollowed := true, recurses := true, named := ["castellan/mode.names", "castellan/mode.fits", "castellan/mode.covers"], apart := false, laid := [("castellan/mode.fits", laid_castellan_mode_fits), ("castellan/mode.covers", laid_castellan_mode_covers), ("castellan/mode.names", laid_castellan_mode_names)] }
def ModeEachSaid : Prop := modeEachRow.holds Tryd.pinned (OpenSpec.ofChange modeEachSpec)

/-- ITS FALSE NEIGHBOUR: 'it returns false'. Refute it at one input. -/
def modeEachWrong : ChangeSpec := { name := "modeEach", fn := fun _ => fun
  | [d] => { results := [.lit (.bool false)], args := [d] }
  | _ => none }
def ModeEachWrongFalsely : Prop := modeEachRow.holds Tryd.pinned (OpenSpec.ofChange modeEachWrong)

/-- 'castellanlaw03.ModeHolds': WHATEVER THE INPUT: true; the input reads as it did. -/
def modeHoldsSpec : ChangeSpec := { name := "modeHolds", fn := fun _ => fun
  | [d1, d2, d3] => { results := [.lit (.bool true)], args := [d1, d2, d3] }
  | _ => none }
def modeHoldsRow : OpenClaim := { program := "ytgcejfcfaaidhaadoor", sum := "5825fddb4c4b54de895e6d711e42ead22e6fde312f0dfe28b75830c00029f6fc", func := "castellan/castellanlaw03.ModeHolds", spec := "modeHolds", unfollowed := true, recurses := true, named := ["castellan/mode.fits", "castellan/mode.covers", "castellan/mode.names"], apart := false, laid := [("castellan/mode.fits", laid_castellan_mode_fits), ("castellan/mode.covers", laid_castellan_mode_covers), ("castellan/mode.names", laid_castellan_mode_names)] }
def ModeHoldsSaid : Prop := modeHoldsRow.holds Tryd.pinned (OpenSpec.ofChange modeHoldsSpec)

/-- ITS FALSE NEIGHBOUR: 'it returns false'. Refute it at one input. -/
def modeHoldsWrong : ChangeSpec := { name := "modeHolds", fn := fun _ => fun
  | [d1, d2, d3] => { results := [.lit (.bool false)], args := [d1, d2, d3] }
  | _ => none }
def ModeHoldsWrongFalsely : Prop := modeHoldsRow.holds Tryd.pinned (OpenSpec.ofChange modeHoldsWrong)

/-- 'castellanlaw05.SiteNumbers': WHATEVER THE INPUT: true; the input reads as it did. -/
def siteNumbersSpec : ChangeSpec := { name := "siteNumbers", fn := fun _ => fun
  | [d1, d2, d3] => { results := [.lit (.bool true)], args := [d1, d2, d3] }
  | _ => none }
def siteNumbersRow : OpenClaim := { program := "ytgcejfcfaaidhaadoor", sum := "5825fddb4c4b54de895e6d711e42ead22e6fde312f0dfe28b75830c00029f6fc", func := "castellan/castellanlaw05.SiteNumbers", spec := "siteNumbers", inPlace := ["internal/abi.NoEscape", "internal/bytealg.MakeNoZero", "internal/bytealg.CountString", "internal/bytealg.IndexByteString", "internal/bytealg.IndexString"], unfollowed := true, recurses := true, named := ["internal/strconv.uint64pow10", "math/bits.deBruijn32tab", "math/bits.deBruijn64tab", "unicode/utf8.first", "unicode/utf8.acceptRanges", "internal/bytealg.MaxLen", "strconv.ErrSyntax", "strconv.ErrRange"], apart := false, laid := [("math/bits.deBruijn32tab", laid_math_bits_deBruijn32tab), ("math/bits.deBruijn64tab", laid_math_bits_deBruijn64tab), ("internal/strconv.uint64pow10", laid_internal_strconv_uint64pow10), ("unicode/utf8.acceptRanges", laid_unicode_utf8_acceptRanges), ("strconv.ErrRange", laid_strconv_ErrRange), ("strconv.ErrSyntax", laid_strconv_ErrSyntax), ("unicode/utf8.first", laid_unicode_utf8_first)] }
def SiteNumbersSaid : Prop := siteNumbersRow.holds Tryd.pinned (OpenSpec.ofChange siteNumbersSpec)

/-- ITS FALSE NEIGHBOUR: 'it returns false'. Refute it at one input. -/
def siteNumbersWrong : ChangeSpec := { name := "siteNumbers", fn := fun _ => fun
  | [d1, d2, d3] => { results := [.lit (.bool false)], args := [d1, d2, d3] }
  | _ => none }
def SiteNumbersWrongFalsely : Prop := siteNumbersRow.holds Tryd.pinned (OpenSpec.ofChange siteNumbersWrong)

/-- 'castellanlaw05.SiteTickets': WHATEVER THE INPUT: true; the input reads as it did. -/
def siteTicketsSpec : ChangeSpec := { name := "siteTickets", fn := fun _ => fun
  | [d1, d2] => { results := [.lit (.bool true)], args := [d1, d2] }
  | _ => none }
def siteTicketsRow : OpenClaim := { program := "ytgcejfcfaaidhaadoor", sum := "5825fddb4c4b54de895e6d711e42ead22e6fde312f0dfe28b75830c00029f6fc", func := "castellan/castellanlaw05.SiteTickets", spec := "siteTickets", inPlace := ["internal/abi.NoEscape", "internal/bytealg.MakeNoZero", "internal/bytealg.CountString", "internal/bytealg.IndexByteString", "internal/bytealg.IndexString"], unfollowed := true, recurses := true, named := ["internal/strconv.uint64pow10", "math/bits.deBruijn32tab", "math/bits.deBruijn64tab", "unicode/utf8.first", "unicode/utf8.acceptRanges", "internal/bytealg.MaxLen", "strconv.ErrSyntax", "strconv.ErrRange"], apart := false, laid := [("math/bits.deBruijn32tab", laid_math_bits_deBruijn32tab), ("math/bits.deBruijn64tab", laid_math_bits_deBruijn64tab), ("internal/strconv.uint64pow10", laid_internal_strconv_uint64pow10), ("unicode/utf8.acceptRanges", laid_unicode_utf8_acceptRanges), ("strconv.ErrRange", laid_strconv_ErrRange), ("strconv.ErrSyntax", laid_strconv_ErrSyntax), ("unicode/utf8.first", laid_unicode_utf8_first)] }
def SiteTicketsSaid : Prop := siteTicketsRow.holds Tryd.pinned (OpenSpec.ofChange siteTicketsSpec)

/-- ITS FALSE NEIGHBOUR: 'it returns false'. Refute it at one input. -/
def siteTicketsWrong : ChangeSpec := { name := "siteTickets", fn := fun _ => fun
  | [d1, d2] => { results := [.lit (.bool false)], args := [d1, d2] }
  | _ => none }
def SiteTicketsWrongFalsely : Prop := siteTicketsRow.holds Tryd.pinned (OpenSpec.ofChange siteTicketsWrong)

/- THE SECOND FORM. 'bulk': how many values and letters a reading holds, each counted each time it is reached (what is shared counts as often as it is met; a slice's spare places count too). A statement '..UptoSaid' is the law's where the arguments, and the package variables that the reading takes, are together of bulk at most 1048576: NARROWER than '..Said'. Prove '..Said' where nothing that the law and all that it calls make is longer than what came in: it says more and counts as full. Else prove '..UptoSaid'. A law counts once. -/
mutual
def uptoBulk {H : Type} : DataW H → Nat
  | .lit (.string bytes) => bytes.length + 1
  | .lit _ => 1
  | .nil => 1
  | .ptr d => uptoBulk d + 1
  | .slice elems spare => uptoBulkAll elems + uptoBulkAll spare + 1
  | .agg parts => uptoBulkAll parts + 1
  | .iface _ d => uptoBulk d + 1
  | .map entries => uptoBulkEntries entries + 1
  | .held _ => 1
def uptoBulkAll {H : Type} : List (DataW H) → Nat
  | [] => 0
  | d :: r => uptoBulk d + uptoBulkAll r
def uptoBulkEntries {H : Type} : List (Lit × DataW H) → Nat
  | [] => 0
  | x :: r => uptoBulkEntry x + uptoBulkEntries r
def uptoBulkEntry {H : Type} : Lit × DataW H → Nat
  | (.string bytes, d) => bytes.length + uptoBulk d + 1
  | (_, d) => uptoBulk d + 1
 end
def uptoSmall : (H : Type) → List (DataW H) → Bool := fun _ ds => decide (uptoBulkAll ds ≤ 1048576)
def OpenSpec.upto (s : _root_.Go.ChangeSpec) : _root_.Go.OpenSpec := { _root_.Go.OpenSpec.ofChange s with cond := some uptoSmall }

/-- 'castellanlaw03.ModePairs', WHERE WHAT IT READS IS OF BULK AT MOST 1048576: true; the input reads as it did. -/
def modePairsUptoRow : OpenClaim := { program := "ytgcejfcfaaidhaadoor", sum := "5825fddb4c4b54de895e6d711e42ead22e6fde312f0dfe28b75830c00029f6fc", func := "castellan/castellanlaw03.ModePairs", spec := "modePairs", unfollowed := true, recurses := true, named := ["castellan/mode.fits", "castellan/mode.covers", "castellan/mode.names"], apart := false, laid := [("castellan/mode.fits", laid_castellan_mode_fits), ("castellan/mode.covers", laid_castellan_mode_covers), ("castellan/mode.names", laid_castellan_mode_names)], narrowed := true }
def ModePairsUptoSaid : Prop := modePairsUptoRow.holds Tryd.pinned (OpenSpec.upto modePairsSpec)

/-- 'castellanlaw03.ModeJoins', WHERE WHAT IT READS IS OF BULK AT MOST 1048576: true; the input reads as it did. -/
def modeJoinsUptoRow : OpenClaim := { program := "ytgcejfcfaaidhaadoor", sum := "5825fddb4c4b54de895e6d711e42ead22e6fde312f0dfe28b75830c00029f6fc", func := "castellan/castellanlaw03.ModeJoins", spec := "modeJoins", unfollowed := true, recurses := true, named := ["castellan/mode.fits", "castellan/mode.covers", "castellan/mode.names"], apart := false, laid := [("castellan/mode.fits", laid_castellan_mode_fits), ("castellan/mode.covers", laid_castellan_mode_covers), ("castellan/mode.names", laid_castellan_mode_names)], narrowed := true }
def ModeJoinsUptoSaid : Prop := modeJoinsUptoRow.holds Tryd.pinned (OpenSpec.upto modeJoinsSpec)

/-- 'castellanlaw03.ModeNames', WHERE WHAT IT READS IS OF BULK AT MOST 1048576: true; the input reads as it did. -/
def modeNamesUptoRow : OpenClaim := { program := "ytgcejfcfaaidhaadoor", sum := "5825fddb4c4b54de895e6d711e42ead22e6fde312f0dfe28b75830c00029f6fc", func := "castellan/castellanlaw03.ModeNames", spec := "modeNames", unfollowed := true, recurses := true, named := ["castellan/mode.fits", "castellan/mode.covers", "castellan/mode.names"], apart := false, laid := [("castellan/mode.fits", laid_castellan_mode_fits), ("castellan/mode.covers", laid_castellan_mode_covers), ("castellan/mode.names", laid_castellan_mode_names)], narrowed := true }
def ModeNamesUptoSaid : Prop := modeNamesUptoRow.holds Tryd.pinned (OpenSpec.upto modeNamesSpec)

/-- 'castellanlaw03.ModeEach', WHERE WHAT IT READS IS OF BULK AT MOST 1048576: true; the input reads as it did. -/
def modeEachUptoRow : OpenClaim := { program := "ytgcejfcfaaidhaadoor", sum := "5825fddb4c4b54de895e6d711e42ead22e6fde312f0dfe28b75830c00029f6fc", func := "castellan/castellanlaw03.ModeEach", spec := "modeEach", unfollowed := true, recurses := true, named := ["castellan/mode.names", "castellan/mode.fits", "castellan/mode.covers"], apart := false, laid := [("castellan/mode.fits", laid_castellan_mode_fits), ("castellan/mode.covers", laid_castellan_mode_covers), ("castellan/mode.names", laid_castellan_mode_names)], narrowed := true }
def ModeEachUptoSaid : Prop := modeEachUptoRow.holds Tryd.pinned (OpenSpec.upto modeEachSpec)

/-- 'castellanlaw03.ModeHolds', WHERE WHAT IT READS IS OF BULK AT MOST 1048576: true; the input reads as it did. -/
def modeHoldsUptoRow : OpenClaim := { program := "ytgcejfcfaaidhaadoor", sum := "5825fddb4c4b54de895e6d711e42ead22e6fde312f0dfe28b75830c00029f6fc", func := "castellan/castellanlaw03.ModeHolds", spec := "modeHolds", unfollowed := true, recurses := true, named := ["castellan/mode.fits", "castellan/mode.covers", "castellan/mode.names"], apart := false, laid := [("castellan/mode.fits", laid_castellan_mode_fits), ("castellan/mode.covers", laid_castellan_mode_covers), ("castellan/mode.names", laid_castellan_mode_names)], narrowed := true }
def ModeHoldsUptoSaid : Prop := modeHoldsUptoRow.holds Tryd.pinned (OpenSpec.upto modeHoldsSpec)

/-- 'castellanlaw05.SiteNumbers', WHERE WHAT IT READS IS OF BULK AT MOST 1048576: true; the input reads as it did. -/
def siteNumbersUptoRow : OpenClaim := { program := "ytgcejfcfaaidhaadoor", sum := "5825fddb4c4b54de895e6d711e42ead22e6fde312f0dfe28b75830c00029f6fc", func := "castellan/castellanlaw05.SiteNumbers", spec := "siteNumbers", inPlace := ["internal/abi.NoEscape", "internal/bytealg.MakeNoZero", "internal/bytealg.CountString", "internal/bytealg.IndexByteString", "internal/bytealg.IndexString"], unfollowed := true, recurses := true, named := ["internal/strconv.uint64pow10", "math/bits.deBruijn32tab", "math/bits.deBruijn64tab", "unicode/utf8.first", "unicode/utf8.acceptRanges", "internal/bytealg.MaxLen", "strconv.ErrSyntax", "strconv.ErrRange"], apart := false, laid := [("math/bits.deBruijn32tab", laid_math_bits_deBruijn32tab), ("math/bits.deBruijn64tab", laid_math_bits_deBruijn64tab), ("internal/strconv.uint64pow10", laid_internal_strconv_uint64pow10), ("unicode/utf8.acceptRanges", laid_unicode_utf8_acceptRanges), ("strconv.ErrRange", laid_strconv_ErrRange), ("strconv.ErrSyntax", laid_strconv_ErrSyntax), ("unicode/utf8.first", laid_unicode_utf8_first)], narrowed := true }
def SiteNumbersUptoSaid : Prop := siteNumbersUptoRow.holds Tryd.pinned (OpenSpec.upto siteNumbersSpec)

/-- 'castellanlaw05.SiteTickets', WHERE WHAT IT READS IS OF BULK AT MOST 1048576: true; the input reads as it did. -/
def siteTicketsUptoRow : OpenClaim := { program := "ytgcejfcfaaidhaadoor", sum := "5825fddb4c4b54de895e6d711e42ead22e6fde312f0dfe28b75830c00029f6fc", func := "castellan/castellanlaw05.SiteTickets", spec := "siteTickets", inPlace := ["internal/abi.NoEscape", "internal/bytealg.MakeNoZero", "internal/bytealg.CountString", "internal/bytealg.IndexByteString", "internal/bytealg.IndexString"], unfollowed := true, recurses := true, named := ["internal/strconv.uint64pow10", "math/bits.deBruijn32tab", "math/bits.deBruijn64tab", "unicode/utf8.first", "unicode/utf8.acceptRanges", "internal/bytealg.MaxLen", "strconv.ErrSyntax", "strconv.ErrRange"], apart := false, laid := [("math/bits.deBruijn32tab", laid_math_bits_deBruijn32tab), ("math/bits.deBruijn64tab", laid_math_bits_deBruijn64tab), ("internal/strconv.uint64pow10", laid_internal_strconv_uint64pow10), ("unicode/utf8.acceptRanges", laid_unicode_utf8_acceptRanges), ("strconv.ErrRange", laid_strconv_ErrRange), ("strconv.ErrSyntax", laid_strconv_ErrSyntax), ("unicode/utf8.first", laid_unicode_utf8_first)], narrowed := true }
def SiteTicketsUptoSaid : Prop := siteTicketsUptoRow.holds Tryd.pinned (OpenSpec.upto siteTicketsSpec)

end Rows
end Go.Proofs.YtgcejfcfaaidhaaDoor
