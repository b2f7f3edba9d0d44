/- Layer journal: sums that are looked at. No condition. -/
import Derived.Test.YtankmfchanhmhaaJw
set_option linter.unusedVariables false
set_option linter.unusedSimpArgs false
set_option linter.deprecated false
namespace Go.Proofs.Ytankmfchanhmhaa.oct
open Go Go.Proofs.Ytankmfchanhmhaa.Sx
theorem ab0 : binI .xor .u32 16777215 (clampK .u32 (intV (celV (tabL (Int.toNat 256)) 253 0))) = 3287511390 :=
  (up_byte (T := tabL 256) (w := 4294967295) (b := 2) (a := 4294967295) (c := 2) rfl (by omega) rfl rfl (by omega)).trans (by rfl)
theorem ab1 : binI .xor .u32 (binI .shr .u32 3287511390 8) (clampK .u32 (intV (celV (tabL (Int.toNat 256)) (binI .xor .u8 (IntKind.wrap .u8 3287511390) 97) 0))) = 3064323660 :=
  (up_byte (T := tabL 256) (w := 3287511390) (b := 97) (a := 3287511390) (c := 97) rfl (by omega) rfl rfl (by omega)).trans (by rfl)
theorem ab2 : binI .xor .u32 (binI .shr .u32 3064323660 8) (clampK .u32 (intV (celV (tabL (Int.toNat 256)) (binI .xor .u8 (IntKind.wrap .u8 3064323660) 98) 0))) = 3697322001 :=
  (up_byte (T := tabL 256) (w := 3064323660) (b := 98) (a := 3064323660) (c := 98) rfl (by omega) rfl rfl (by omega)).trans (by rfl)
theorem c0 : binI .xor .u32 16777215 (clampK .u32 (intV (celV (tabL (Int.toNat 256)) 254 0))) = 1526341860 :=
  (up_byte (T := tabL 256) (w := 4294967295) (b := 1) (a := 4294967295) (c := 1) rfl (by omega) rfl rfl (by omega)).trans (by rfl)
theorem c1 : binI .xor .u32 (binI .shr .u32 1526341860 8) (clampK .u32 (intV (celV (tabL (Int.toNat 256)) (binI .xor .u8 (IntKind.wrap .u8 1526341860) 99) 0))) = 1938222243 :=
  (up_byte (T := tabL 256) (w := 1526341860) (b := 99) (a := 1526341860) (c := 99) rfl (by omega) rfl rfl (by omega)).trans (by rfl)
end Go.Proofs.Ytankmfchanhmhaa.oct
