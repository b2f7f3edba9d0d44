/- Layer call: asks that are read. No condition. -/
import Derived.Test.YthenenacmiiphaaCt
import Derived.Test.YthenenacmiiphaaDa
set_option linter.unusedVariables false
set_option linter.unusedSimpArgs false
set_option linter.deprecated false
namespace Go.Proofs.Ythenenacmiiphaa.oct
open Go Go.Proofs.Ythenenacmiiphaa.Sx
theorem pcrd3_0 : pieceD Df 40 2 4 oct.Φ cRd3 [cShp, cShpN, cRead, cSRead] [mNumS, mNumB, mNumO, mNum, mNumN, mSig, mSigN] 30000 6 0 = true := by kernel_rfl
theorem pcrd3_1 : pieceD Df 40 2 4 oct.Φ cRd3 [cShp, cShpN, cRead, cSRead] [mNumS, mNumB, mNumO, mNum, mNumN, mSig, mSigN] 30000 6 1 = true := by kernel_rfl
theorem pcrd3_2 : pieceD Df 40 2 4 oct.Φ cRd3 [cShp, cShpN, cRead, cSRead] [mNumS, mNumB, mNumO, mNum, mNumN, mSig, mSigN] 30000 6 2 = true := by kernel_rfl
theorem pcrd3_3 : pieceD Df 40 2 4 oct.Φ cRd3 [cShp, cShpN, cRead, cSRead] [mNumS, mNumB, mNumO, mNum, mNumN, mSig, mSigN] 30000 6 3 = true := by kernel_rfl
theorem perd3 : endD oct.Φ cRd3 [cShp, cShpN, cRead, cSRead] [mNumS, mNumB, mNumO, mNum, mNumN, mSig, mSigN] 30000 24 = true := by kernel_rfl
theorem told_rd3 : Sx.Told oct.Φ cRd3 := told_autoDM rules (cs := [cShp, cShpN, cRead, cSRead]) (ms' := [mNumS, mNumB, mNumO, mNum, mNumN, mSig, mSigN]) (all_cons told_shp (all_cons told_shpn (all_cons told_read (all_cons told_sread (all_nil))))) (all_cons told_mnums (all_cons told_mnumb (all_cons told_mnumo (all_cons told_mnum (all_cons told_mnumn (all_cons told_msig (all_cons told_msign (all_nil)))))))) 40 2 4 30000 (by kernel_rfl) (by kernel_rfl) (by kernel_rfl) (post_rdC _ _) (by kernel_rfl) (pieces_ok (s := 6) (p := 4) (fun i hi => match i, hi with | 0, _ => pcrd3_0 | 1, _ => pcrd3_1 | 2, _ => pcrd3_2 | 3, _ => pcrd3_3) perd3)
end Go.Proofs.Ythenenacmiiphaa.oct
