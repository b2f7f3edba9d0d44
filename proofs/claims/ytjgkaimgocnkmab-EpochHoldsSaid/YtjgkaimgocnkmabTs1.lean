/- The law EpochHolds: its first segments, reckoned. No condition. -/
import Derived.Test.YtjgkaimgocnkmabTm
namespace Go.Proofs.Ytjgkaimgocnkmab.epochHolds
open Go Go.Proofs.Ytjgkaimgocnkmab.Sx
theorem segS3 : segL T sel 20000 tm m 13 (S 3) = segR T sel 20000 tm (S 3) := by kernel_rfl
theorem okS3 : cfgOk (S 3) = true := by kernel_rfl
theorem segS4 : segL T sel 20000 tm m 14 (S 4) = segR T sel 20000 tm (S 4) := by kernel_rfl
theorem okS4 : cfgOk (S 4) = true := by kernel_rfl
theorem segS5 : segL T sel 20000 tm m 15 (S 5) = segR T sel 20000 tm (S 5) := by kernel_rfl
theorem okS5 : cfgOk (S 5) = true := by kernel_rfl
end Go.Proofs.Ytjgkaimgocnkmab.epochHolds
