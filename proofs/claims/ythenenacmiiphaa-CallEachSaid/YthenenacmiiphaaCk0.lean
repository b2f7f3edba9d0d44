/- Layer call: the asks that the program tries: words. No condition. -/
import Derived.Test.YthenenacmiiphaaDa
set_option linter.unusedVariables false
set_option linter.unusedSimpArgs false
namespace Go.Proofs.Ythenenacmiiphaa.oct
open Go Go.Proofs.Ythenenacmiiphaa.Sx
noncomputable section
def cWorks19 : Ctr := ⟨31, [], [], [], .bool (.lit true), [], 0, []⟩
end
end Go.Proofs.Ythenenacmiiphaa.oct
