/- The law EpochOrders, reckoned. No condition. -/
import Derived.Test.YtjgkaimgocnkmabSe
set_option linter.unusedSimpArgs false
set_option linter.unusedVariables false
namespace Go.Proofs.Ytjgkaimgocnkmab
open Go
namespace Sx
theorem law8 : outTrue (callS (tabE orE) 20000 8 [.agg [iv 1, iv 2, iv 3], .agg [iv 4, iv 5, iv 6, iv 7], iv 8] []) = true := by kernel_rfl
end Sx
end Go.Proofs.Ytjgkaimgocnkmab
