/- The law EpochPromises, reckoned. No condition. -/
import Derived.Test.YtjgkaimgocnkmabSe
set_option linter.unusedSimpArgs false
set_option linter.unusedVariables false
namespace Go.Proofs.Ytjgkaimgocnkmab
open Go
namespace Sx
theorem law9 : outTrue (callS (tabE orE) 20000 9 [.agg [iv 1, iv 2, iv 3], .agg [iv 4, iv 5, .bool (.var 1)], .agg [iv 6, iv 7]] []) = true := by kernel_rfl
end Sx
end Go.Proofs.Ytjgkaimgocnkmab
