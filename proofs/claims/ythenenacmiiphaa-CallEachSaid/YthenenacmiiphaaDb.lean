/- Layer call: which asks may be. No condition. -/
import Derived.Test.YthenenacmiiphaaDa
set_option linter.unusedVariables false
set_option linter.unusedSimpArgs false
set_option linter.deprecated false
namespace Go.Proofs.Ythenenacmiiphaa.oct
open Go Go.Proofs.Ythenenacmiiphaa.Sx
theorem told_chk : Sx.Told oct.Φ cChk := told_autoDM rules (cs := [cShp, cShpN, cRShp]) (ms' := []) (all_cons told_shp (all_cons told_shpn (all_cons told_rshp (all_nil)))) (all_nil) 40 2 4 9000 (by kernel_rfl) (by kernel_rfl) (by kernel_rfl) (post_nil rfl) (by kernel_rfl) (by kernel_rfl)
theorem told_chkn : Sx.Told oct.Φ cChkN := told_autoDM rules (cs := [cShp, cShpN, cRShp]) (ms' := []) (all_cons told_shp (all_cons told_shpn (all_cons told_rshp (all_nil)))) (all_nil) 40 2 4 9000 (by kernel_rfl) (by kernel_rfl) (by kernel_rfl) (post_nil rfl) (by kernel_rfl) (by kernel_rfl)
theorem told_rright : Sx.Told oct.Φ cRRight := told_autoDM rules (cs := [cShp, cShpN, cRShp]) (ms' := []) (all_cons told_shp (all_cons told_shpn (all_cons told_rshp (all_nil)))) (all_nil) 40 2 4 9000 (by kernel_rfl) (by kernel_rfl) (by kernel_rfl) (post_nil rfl) (by kernel_rfl) (by kernel_rfl)
end Go.Proofs.Ythenenacmiiphaa.oct
