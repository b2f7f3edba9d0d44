/- Layer call: no ask's bytes begin another one's. No condition. -/
import Derived.Test.YthenenacmiiphaaCa
import Derived.Test.YthenenacmiiphaaQl
set_option linter.unusedVariables false
set_option linter.unusedSimpArgs false
set_option linter.deprecated false
namespace Go.Proofs.Ythenenacmiiphaa.oct
open Go Go.Proofs.Ythenenacmiiphaa.Sx
noncomputable section
def two1 : SV := .agg [iv 4, iv 5, iv 6, iv 7, iv 8, iv 9, iv 10, iv 11, iv 12, iv 13, iv 14, iv 15, iv 16, iv 17, iv 18, iv 19]
def two2 : SV := .agg [iv 20, iv 21, iv 22, iv 23, iv 24, iv 25, iv 26, iv 27, iv 28, iv 29]
def cHolds : Ctr := ⟨11, [shp, two1, two2], [], [], .bool (.lit true), [], 0, []⟩
def cBegins : Ctr := ⟨47, [.lstr (.var 1), .lstr (.var 3)], [], [], .bool (.fn 13 (.lst (.var 1) (.lst (.var 3) .nil))), [], 0, []⟩
def cWorks19 : Ctr := ⟨31, [], [], [], .bool (.lit true), [], 0, []⟩
end
theorem num_1 (n : Int) (h : 0 ≤ n ∧ n < 128) : numL (clampK .u64 n) = [[.int .u8 n]] := by
 rw [u64_in (by omega)]
 unfold numL
 rw [numF_low h.2]
 rfl
end Go.Proofs.Ythenenacmiiphaa.oct
