/- Layer stat: what is told. No condition. -/
import Derived.Test.YtjgkaimgocnkmabFe
set_option linter.unusedVariables false
set_option linter.unusedSimpArgs false
set_option linter.deprecated false
namespace Go.Proofs.Ytjgkaimgocnkmab.stat
open Go Go.Proofs.Ytjgkaimgocnkmab.Sx
noncomputable def csM : List Ctr := [cWorks, cRight, cRefRight, cSi, cFrame, cSites1, cSites2, cRightL, cListR, cSame]
theorem told_all : ∀ d ∈ csM, Sx.Told Φ d := all_cons told_works (all_cons told_right (all_cons told_refRight (all_cons told_si (all_cons told_frame (all_cons told_sites1 (all_cons told_sites2 (all_cons told_rightL (all_cons told_list (one_told told_same)))))))))
theorem odd_ok : OddOk Φ := fun n a h => Typed.nil _
end Go.Proofs.Ytjgkaimgocnkmab.stat
