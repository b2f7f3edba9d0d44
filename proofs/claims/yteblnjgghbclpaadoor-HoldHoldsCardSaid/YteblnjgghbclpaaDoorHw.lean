/- Layer hold: the chapter's rows. No condition. -/
import Derived.Test.YteblnjgghbclpaaDoorHa
set_option linter.unusedVariables false
set_option linter.unusedSimpArgs false
set_option linter.deprecated false
namespace Go.Proofs.YteblnjgghbclpaaDoor.hold
open Go Go.Proofs.YteblnjgghbclpaaDoor.Sx
theorem told_works : Sx.Told hold.Φ cWorks := told_auto (cs := []) (all_nil) 60000 (by kernel_rfl) (by kernel_rfl) (by kernel_rfl) (post_nil rfl) (by kernel_rfl) (by kernel_rfl)
end Go.Proofs.YteblnjgghbclpaaDoor.hold
