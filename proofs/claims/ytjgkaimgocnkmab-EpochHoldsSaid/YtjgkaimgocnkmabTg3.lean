/- The law EpochHolds: its other segments, reckoned. No condition. -/
import Derived.Test.YtjgkaimgocnkmabTm
namespace Go.Proofs.Ytjgkaimgocnkmab.epochHolds
open Go Go.Proofs.Ytjgkaimgocnkmab.Sx
theorem seg1 : segL T sel 20000 tm m 1 C1 = segR T sel 20000 tm C1 := by kernel_rfl
theorem seg2 : segL T sel 20000 tm m 2 C2 = segR T sel 20000 tm C2 := by kernel_rfl
theorem seg3 : segL T sel 20000 tm m 3 C3 = segR T sel 20000 tm C3 := by kernel_rfl
theorem ok1 : cfgOk C1 = true := by kernel_rfl
theorem ok2 : cfgOk C2 = true := by kernel_rfl
theorem ok3 : cfgOk C3 = true := by kernel_rfl
end Go.Proofs.Ytjgkaimgocnkmab.epochHolds
