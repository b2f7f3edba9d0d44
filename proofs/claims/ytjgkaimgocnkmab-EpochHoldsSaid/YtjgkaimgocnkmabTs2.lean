/- The law EpochHolds: its first segments, reckoned. No condition. -/
import Derived.Test.YtjgkaimgocnkmabTm
namespace Go.Proofs.Ytjgkaimgocnkmab.epochHolds
open Go Go.Proofs.Ytjgkaimgocnkmab.Sx
theorem segS6 : segL T sel 20000 tm m 16 (S 6) = segR T sel 20000 tm (S 6) := by kernel_rfl
theorem okS6 : cfgOk (S 6) = true := by kernel_rfl
theorem segS7 : segL T sel 20000 tm m 17 (S 7) = segR T sel 20000 tm (S 7) := by kernel_rfl
theorem okS7 : cfgOk (S 7) = true := by kernel_rfl
theorem segS8 : segL T sel 20000 tm m 18 (S 8) = segR T sel 20000 tm (S 8) := by kernel_rfl
theorem okS8 : cfgOk (S 8) = true := by kernel_rfl
end Go.Proofs.Ytjgkaimgocnkmab.epochHolds
