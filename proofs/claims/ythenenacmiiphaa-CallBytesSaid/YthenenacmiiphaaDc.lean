/- Layer call: asks' bytes. No condition. -/
import Derived.Test.YthenenacmiiphaaDa
set_option linter.unusedVariables false
set_option linter.unusedSimpArgs false
set_option linter.deprecated false
namespace Go.Proofs.Ythenenacmiiphaa.oct
open Go Go.Proofs.Ythenenacmiiphaa.Sx
theorem pcbytes_0 : pieceD Df 40 2 4 oct.Φ cBytes [cShp, cShpN, cRShp, cNumber, cSigned, cRNumber, cRSigned] [] 9000 27 0 = true := by kernel_rfl
theorem pcbytes_1 : pieceD Df 40 2 4 oct.Φ cBytes [cShp, cShpN, cRShp, cNumber, cSigned, cRNumber, cRSigned] [] 9000 27 1 = true := by kernel_rfl
theorem pcbytes_2 : pieceD Df 40 2 4 oct.Φ cBytes [cShp, cShpN, cRShp, cNumber, cSigned, cRNumber, cRSigned] [] 9000 27 2 = true := by kernel_rfl
theorem pebytes : endD oct.Φ cBytes [cShp, cShpN, cRShp, cNumber, cSigned, cRNumber, cRSigned] [] 9000 81 = true := by kernel_rfl
theorem told_bytes : Sx.Told oct.Φ cBytes := told_autoDM rules (cs := [cShp, cShpN, cRShp, cNumber, cSigned, cRNumber, cRSigned]) (ms' := []) (all_cons told_shp (all_cons told_shpn (all_cons told_rshp (all_cons told_number (all_cons told_signed (all_cons told_rnumber (all_cons told_rsigned (all_nil)))))))) (all_nil) 40 2 4 9000 (by kernel_rfl) (by kernel_rfl) (by kernel_rfl) post_bytes (by kernel_rfl) (pieces_ok (s := 27) (p := 3) (fun i hi => match i, hi with | 0, _ => pcbytes_0 | 1, _ => pcbytes_1 | 2, _ => pcbytes_2) pebytes)
end Go.Proofs.Ythenenacmiiphaa.oct
