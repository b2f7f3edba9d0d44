/- Layer owner: the law OwnerHolds, its contract. No condition. -/
import Derived.Test.YtepodgakaajcmaaOg
set_option linter.unusedVariables false
set_option linter.unusedSimpArgs false
set_option linter.deprecated false
namespace Go.Proofs.Ytepodgakaajcmaa.own
open Go Go.Proofs.Ytepodgakaajcmaa.Sx
noncomputable section
def ks1 : List CK := [.int .i64]
def rH : Roms := [(0, (1, ks1)), (1, (1, ks1))]
def cOH : Ctr := ⟨8, [sl0 0, sl0 1, .agg [iv 1, iv 2]], rH, [], .bool (.lit true), [], 0, []⟩
end
end Go.Proofs.Ytepodgakaajcmaa.own
