/- Layer octet: the chapter's rows. No condition. -/
import Derived.Test.YtjgkaimgocnkmaaQa
set_option linter.unusedVariables false
set_option linter.unusedSimpArgs false
set_option linter.deprecated false
namespace Go.Proofs.Ytjgkaimgocnkmaa.oct
open Go Go.Proofs.Ytjgkaimgocnkmaa.Sx
theorem told_works : Sx.Told oct.Φ cWorks := told_auto (cs := []) (all_nil) 60000 (by kernel_rfl) (by kernel_rfl) (by kernel_rfl) (post_nil rfl) (by kernel_rfl) (by kernel_rfl)
end Go.Proofs.Ytjgkaimgocnkmaa.oct
