/- Layer link: the law LinkEach, the first loop. No condition. -/
import Derived.Test.YtjgkaimgocnkmaaNe
set_option linter.unusedVariables false
set_option linter.unusedSimpArgs false
set_option linter.deprecated false
namespace Go.Proofs.Ytjgkaimgocnkmaa.lnk
open Go Go.Proofs.Ytjgkaimgocnkmaa.Sx
theorem sgeach1 : segL cEach.roms cEach (seg TTeach seleach 6000 tmeach teach1) = (true, codesR tmeach (views (seg TTeach seleach 6000 tmeach teach1)), vweach 1) := by kernel_rfl
end Go.Proofs.Ytjgkaimgocnkmaa.lnk
