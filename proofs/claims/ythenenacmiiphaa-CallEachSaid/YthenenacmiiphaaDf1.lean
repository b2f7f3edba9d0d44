/- Layer call: asks that are read by the document. No condition. -/
import Derived.Test.YthenenacmiiphaaDb
set_option linter.unusedVariables false
set_option linter.unusedSimpArgs false
set_option linter.deprecated false
namespace Go.Proofs.Ythenenacmiiphaa.oct
open Go Go.Proofs.Ythenenacmiiphaa.Sx
theorem pcrrd1_0 : pieceD Df 40 2 4 oct.Φ cRRd1 [cRShp, cRRead, cRSRead, cRRight] [] 30000 4 0 = true := by kernel_rfl
theorem pcrrd1_1 : pieceD Df 40 2 4 oct.Φ cRRd1 [cRShp, cRRead, cRSRead, cRRight] [] 30000 4 1 = true := by kernel_rfl
theorem pcrrd1_2 : pieceD Df 40 2 4 oct.Φ cRRd1 [cRShp, cRRead, cRSRead, cRRight] [] 30000 4 2 = true := by kernel_rfl
theorem pcrrd1_3 : pieceD Df 40 2 4 oct.Φ cRRd1 [cRShp, cRRead, cRSRead, cRRight] [] 30000 4 3 = true := by kernel_rfl
theorem pcrrd1_4 : pieceD Df 40 2 4 oct.Φ cRRd1 [cRShp, cRRead, cRSRead, cRRight] [] 30000 4 4 = true := by kernel_rfl
theorem perrd1 : endD oct.Φ cRRd1 [cRShp, cRRead, cRSRead, cRRight] [] 30000 20 = true := by kernel_rfl
theorem told_rrd1 : Sx.Told oct.Φ cRRd1 := told_autoDM rules (cs := [cRShp, cRRead, cRSRead, cRRight]) (ms' := []) (all_cons told_rshp (all_cons told_rread (all_cons told_rsread (all_cons told_rright (all_nil))))) (all_nil) 40 2 4 30000 (by kernel_rfl) (by kernel_rfl) (by kernel_rfl) (post_rdC _ _) (by kernel_rfl) (pieces_ok (s := 4) (p := 5) (fun i hi => match i, hi with | 0, _ => pcrrd1_0 | 1, _ => pcrrd1_1 | 2, _ => pcrrd1_2 | 3, _ => pcrrd1_3 | 4, _ => pcrrd1_4) perrd1)
end Go.Proofs.Ythenenacmiiphaa.oct
