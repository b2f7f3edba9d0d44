/- Layer link: the law LinkEach, the other runs. No condition. -/
import Derived.Test.YtjgkaimgocnkmaaNe
set_option linter.unusedVariables false
set_option linter.unusedSimpArgs false
set_option linter.deprecated false
namespace Go.Proofs.Ytjgkaimgocnkmaa.lnk
open Go Go.Proofs.Ytjgkaimgocnkmaa.Sx
theorem sgeach0 : segL cEach.roms cEach (seg TTeach seleach 6000 tmeach (startF 13 cEach.pat (.lit true :: cEach.pre))) = (true, codesR tmeach (views (seg TTeach seleach 6000 tmeach (startF 13 cEach.pat (.lit true :: cEach.pre)))), vweach 0) := by kernel_rfl
theorem sgeach2 : segL cEach.roms cEach (seg TTeach seleach 6000 tmeach teach2) = (true, codesR tmeach (views (seg TTeach seleach 6000 tmeach teach2)), vweach 2) := by kernel_rfl
theorem sgeach3 : segL cEach.roms cEach (seg TTeach seleach 6000 tmeach teach3) = (true, codesR tmeach (views (seg TTeach seleach 6000 tmeach teach3)), vweach 3) := by kernel_rfl
theorem sgeach4 : segL cEach.roms cEach (seg TTeach seleach 6000 tmeach teach4) = (true, codesR tmeach (views (seg TTeach seleach 6000 tmeach teach4)), vweach 4) := by kernel_rfl
theorem sgeach5 : segL cEach.roms cEach (seg TTeach seleach 6000 tmeach teach5) = (true, codesR tmeach (views (seg TTeach seleach 6000 tmeach teach5)), vweach 5) := by kernel_rfl
theorem sgeach6 : segL cEach.roms cEach (seg TTeach seleach 6000 tmeach teach6) = (true, codesR tmeach (views (seg TTeach seleach 6000 tmeach teach6)), vweach 6) := by kernel_rfl
theorem sgeach7 : segL cEach.roms cEach (seg TTeach seleach 6000 tmeach teach7) = (true, codesR tmeach (views (seg TTeach seleach 6000 tmeach teach7)), vweach 7) := by kernel_rfl
theorem sgeach8 : segL cEach.roms cEach (seg TTeach seleach 6000 tmeach teach8) = (true, codesR tmeach (views (seg TTeach seleach 6000 tmeach teach8)), vweach 8) := by kernel_rfl
end Go.Proofs.Ytjgkaimgocnkmaa.lnk
