/- Layer call: shapes. No condition. -/
import Derived.Test.YthenenacmiiphaaCr
set_option linter.unusedVariables false
set_option linter.unusedSimpArgs false
set_option linter.deprecated false
namespace Go.Proofs.Ythenenacmiiphaa.oct
open Go Go.Proofs.Ythenenacmiiphaa.Sx
theorem told_shp : Sx.Told oct.Φ cShp := told_autoDM rules (cs := []) (ms' := []) (all_nil) (all_nil) 40 2 4 3000 (by kernel_rfl) (by kernel_rfl) (by kernel_rfl) (post_nil rfl) (by kernel_rfl) (by kernel_rfl)
theorem told_shpn : Sx.Told oct.Φ cShpN := told_autoDM rules (cs := []) (ms' := []) (all_nil) (all_nil) 40 2 4 3000 (by kernel_rfl) (by kernel_rfl) (by kernel_rfl) (post_nil rfl) (by kernel_rfl) (by kernel_rfl)
theorem told_rshp : Sx.Told oct.Φ cRShp := told_autoDM rules (cs := []) (ms' := []) (all_nil) (all_nil) 40 2 4 3000 (by kernel_rfl) (by kernel_rfl) (by kernel_rfl) (post_nil rfl) (by kernel_rfl) (by kernel_rfl)
end Go.Proofs.Ythenenacmiiphaa.oct
