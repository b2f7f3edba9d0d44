/- Layer call: answers that are read by the document. No condition. -/
import Derived.Test.YthenenacmiiphaaDd
set_option linter.unusedVariables false
set_option linter.unusedSimpArgs false
set_option linter.deprecated false
namespace Go.Proofs.Ythenenacmiiphaa.oct
open Go Go.Proofs.Ythenenacmiiphaa.Sx
theorem pcrtl_0 : pieceD Df 40 2 4 oct.Φ cRTl [cRShp, cRRead, cRSRead, cRAns] [] 30000 7 0 = true := by kernel_rfl
theorem pcrtl_1 : pieceD Df 40 2 4 oct.Φ cRTl [cRShp, cRRead, cRSRead, cRAns] [] 30000 7 1 = true := by kernel_rfl
theorem pertl : endD oct.Φ cRTl [cRShp, cRRead, cRSRead, cRAns] [] 30000 14 = true := by kernel_rfl
theorem told_rtl : Sx.Told oct.Φ cRTl := told_autoDM rules (cs := [cRShp, cRRead, cRSRead, cRAns]) (ms' := []) (all_cons told_rshp (all_cons told_rread (all_cons told_rsread (all_cons told_rans (all_nil))))) (all_nil) 40 2 4 30000 (by kernel_rfl) (by kernel_rfl) (by kernel_rfl) post_tl40 (by kernel_rfl) (pieces_ok (s := 7) (p := 2) (fun i hi => match i, hi with | 0, _ => pcrtl_0 | 1, _ => pcrtl_1) pertl)
end Go.Proofs.Ythenenacmiiphaa.oct
