/- Layer call: asks that are read by the document. No condition. -/
import Derived.Test.YthenenacmiiphaaDb
set_option linter.unusedVariables false
set_option linter.unusedSimpArgs false
set_option linter.deprecated false
namespace Go.Proofs.Ythenenacmiiphaa.oct
open Go Go.Proofs.Ythenenacmiiphaa.Sx
theorem told_rrdZ : Sx.Told oct.Φ cRRdZ := told_autoDM rules (cs := [cRShp, cRRead, cRSRead, cRRight]) (ms' := []) (all_cons told_rshp (all_cons told_rread (all_cons told_rsread (all_cons told_rright (all_nil))))) (all_nil) 40 2 4 30000 (by kernel_rfl) (by kernel_rfl) (by kernel_rfl) (post_rdC _ _) (by kernel_rfl) (by kernel_rfl)
end Go.Proofs.Ythenenacmiiphaa.oct
