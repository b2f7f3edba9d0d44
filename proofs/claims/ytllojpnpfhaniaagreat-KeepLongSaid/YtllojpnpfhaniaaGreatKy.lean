/- Layer keep: sums that are looked at. No condition. -/
import Derived.Test.YtllojpnpfhaniaaGreatKw
set_option linter.unusedVariables false
set_option linter.unusedSimpArgs false
set_option linter.deprecated false
namespace Go.Proofs.YtllojpnpfhaniaaGreat.oct
open Go Go.Proofs.YtllojpnpfhaniaaGreat.Sx
theorem abs0 : binI .xor .u32 16777215 (clampK .u32 (intV (celV (tabL (Int.toNat 256)) 253 0))) = 3287511390 :=
 (up_byte (T := tabL 256) (w := 4294967295) (b := 2) (a := 4294967295) (c := 2) rfl (by omega) rfl rfl (by omega)).trans (by rfl)
theorem abs1 : binI .xor .u32 (binI .shr .u32 3287511390 8) (clampK .u32 (intV (celV (tabL (Int.toNat 256)) (binI .xor .u8 (IntKind.wrap .u8 3287511390) 97) 0))) = 3064323660 :=
 (up_byte (T := tabL 256) (w := 3287511390) (b := 97) (a := 3287511390) (c := 97) rfl (by omega) rfl rfl (by omega)).trans (by rfl)
theorem abs2 : binI .xor .u32 (binI .shr .u32 3064323660 8) (clampK .u32 (intV (celV (tabL (Int.toNat 256)) (binI .xor .u8 (IntKind.wrap .u8 3064323660) 98) 0))) = 3697322001 :=
 (up_byte (T := tabL 256) (w := 3064323660) (b := 98) (a := 3064323660) (c := 98) rfl (by omega) rfl rfl (by omega)).trans (by rfl)
theorem cs0 : binI .xor .u32 16777215 (clampK .u32 (intV (celV (tabL (Int.toNat 256)) 254 0))) = 1526341860 :=
 (up_byte (T := tabL 256) (w := 4294967295) (b := 1) (a := 4294967295) (c := 1) rfl (by omega) rfl rfl (by omega)).trans (by rfl)
theorem cs1 : binI .xor .u32 (binI .shr .u32 1526341860 8) (clampK .u32 (intV (celV (tabL (Int.toNat 256)) (binI .xor .u8 (IntKind.wrap .u8 1526341860) 99) 0))) = 1938222243 :=
 (up_byte (T := tabL 256) (w := 1526341860) (b := 99) (a := 1526341860) (c := 99) rfl (by omega) rfl rfl (by omega)).trans (by rfl)
theorem xs0 : binI .xor .u32 16777215 (clampK .u32 (intV (celV (tabL (Int.toNat 256)) 252 0))) = 3035906504 :=
 (up_byte (T := tabL 256) (w := 4294967295) (b := 3) (a := 4294967295) (c := 3) rfl (by omega) rfl rfl (by omega)).trans (by rfl)
theorem xs1 : binI .xor .u32 (binI .shr .u32 3035906504 8) (clampK .u32 (intV (celV (tabL (Int.toNat 256)) (binI .xor .u8 (IntKind.wrap .u8 3035906504) 120) 0))) = 3419752397 :=
 (up_byte (T := tabL 256) (w := 3035906504) (b := 120) (a := 3035906504) (c := 120) rfl (by omega) rfl rfl (by omega)).trans (by rfl)
theorem xs2 : binI .xor .u32 (binI .shr .u32 3419752397 8) (clampK .u32 (intV (celV (tabL (Int.toNat 256)) (binI .xor .u8 (IntKind.wrap .u8 3419752397) 121) 0))) = 3435635410 :=
 (up_byte (T := tabL 256) (w := 3419752397) (b := 121) (a := 3419752397) (c := 121) rfl (by omega) rfl rfl (by omega)).trans (by rfl)
theorem xs3 : binI .xor .u32 (binI .shr .u32 3435635410 8) (clampK .u32 (intV (celV (tabL (Int.toNat 256)) (binI .xor .u8 (IntKind.wrap .u8 3435635410) 122) 0))) = 3636587640 :=
 (up_byte (T := tabL 256) (w := 3435635410) (b := 122) (a := 3435635410) (c := 122) rfl (by omega) rfl rfl (by omega)).trans (by rfl)
theorem ns0 : binI .xor .u32 16777215 (clampK .u32 (intV (celV (tabL (Int.toNat 256)) 255 0))) = 771559538 :=
 (up_byte (T := tabL 256) (w := 4294967295) (b := 0) (a := 4294967295) (c := 0) rfl (by omega) rfl rfl (by omega)).trans (by rfl)
end Go.Proofs.YtllojpnpfhaniaaGreat.oct
