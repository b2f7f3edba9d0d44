/- Layer call: asks' bytes. No condition. -/
import Derived.Test.YthenenacmiiphaaDb
set_option linter.unusedVariables false
set_option linter.unusedSimpArgs false
set_option linter.deprecated false
namespace Go.Proofs.Ythenenacmiiphaa.oct
open Go Go.Proofs.Ythenenacmiiphaa.Sx
theorem told_rbytes : Sx.Told oct.Φ cRBytes := told_autoDM rules (cs := [cShp, cShpN, cRShp, cNumber, cSigned, cRNumber, cRSigned, cRRight]) (ms' := []) (all_cons told_shp (all_cons told_shpn (all_cons told_rshp (all_cons told_number (all_cons told_signed (all_cons told_rnumber (all_cons told_rsigned (all_cons told_rright (all_nil))))))))) (all_nil) 40 2 4 9000 (by kernel_rfl) (by kernel_rfl) (by kernel_rfl) post_rbytes (by kernel_rfl) (by kernel_rfl)
theorem told_rbytesn : Sx.Told oct.Φ cRBytesN := told_autoDM rules (cs := [cShp, cShpN, cRShp, cNumber, cSigned, cRNumber, cRSigned, cRRight]) (ms' := []) (all_cons told_shp (all_cons told_shpn (all_cons told_rshp (all_cons told_number (all_cons told_signed (all_cons told_rnumber (all_cons told_rsigned (all_cons told_rright (all_nil))))))))) (all_nil) 40 2 4 9000 (by kernel_rfl) (by kernel_rfl) (by kernel_rfl) (post_nil rfl) (by kernel_rfl) (by kernel_rfl)
end Go.Proofs.Ythenenacmiiphaa.oct
