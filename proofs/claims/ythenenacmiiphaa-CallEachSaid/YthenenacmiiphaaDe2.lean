/- Layer call: asks that are read. No condition. -/
import Derived.Test.YthenenacmiiphaaCt
import Derived.Test.YthenenacmiiphaaDa
set_option linter.unusedVariables false
set_option linter.unusedSimpArgs false
set_option linter.deprecated false
namespace Go.Proofs.Ythenenacmiiphaa.oct
open Go Go.Proofs.Ythenenacmiiphaa.Sx
theorem told_rd2 : Sx.Told oct.Φ cRd2 := told_autoDM rules (cs := [cShp, cShpN, cRead, cSRead]) (ms' := [mNumS, mNumB, mNumO, mNum, mNumN, mSig, mSigN]) (all_cons told_shp (all_cons told_shpn (all_cons told_read (all_cons told_sread (all_nil))))) (all_cons told_mnums (all_cons told_mnumb (all_cons told_mnumo (all_cons told_mnum (all_cons told_mnumn (all_cons told_msig (all_cons told_msign (all_nil)))))))) 40 2 4 30000 (by kernel_rfl) (by kernel_rfl) (by kernel_rfl) (post_rdC _ _) (by kernel_rfl) (by kernel_rfl)
end Go.Proofs.Ythenenacmiiphaa.oct
