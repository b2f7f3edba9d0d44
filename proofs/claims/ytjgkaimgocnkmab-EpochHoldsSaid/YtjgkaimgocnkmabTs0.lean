/- The law EpochHolds: its first segments, reckoned. No condition. -/
import Derived.Test.YtjgkaimgocnkmabTm
namespace Go.Proofs.Ytjgkaimgocnkmab.epochHolds
open Go Go.Proofs.Ytjgkaimgocnkmab.Sx
theorem segS0 : segL T sel 20000 tm m 10 (S 0) = segR T sel 20000 tm (S 0) := by kernel_rfl
theorem okS0 : cfgOk (S 0) = true := by kernel_rfl
theorem segS1 : segL T sel 20000 tm m 11 (S 1) = segR T sel 20000 tm (S 1) := by kernel_rfl
theorem okS1 : cfgOk (S 1) = true := by kernel_rfl
theorem segS2 : segL T sel 20000 tm m 12 (S 2) = segR T sel 20000 tm (S 2) := by kernel_rfl
theorem okS2 : cfgOk (S 2) = true := by kernel_rfl
end Go.Proofs.Ytjgkaimgocnkmab.epochHolds
