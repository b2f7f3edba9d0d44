/- Layer call: the law CallEach, of nothing. No condition. -/
import Derived.Test.YthenenacmiiphaaVb1
set_option linter.unusedVariables false
set_option linter.unusedSimpArgs false
set_option linter.deprecated false
namespace Go.Proofs.Ythenenacmiiphaa.oct
open Go Go.Proofs.Ythenenacmiiphaa.Sx
theorem told_leachz : Sx.Told oct.Φ cLEach0 := told_auto (cs := [cWorks19, cRdN, cRRdN]) (all_cons told_works19e (all_cons told_rdN (all_cons told_rrdN (all_nil)))) 9000 (by kernel_rfl) (by kernel_rfl) (by kernel_rfl) (post_nil rfl) (by kernel_rfl) (by kernel_rfl)
end Go.Proofs.Ythenenacmiiphaa.oct
