/- Layer hold: the laws' contracts. No condition. -/
import Derived.Test.YteblnjgghbclpaaDoorHj
import Derived.Test.YteblnjgghbclpaaDoorHw
set_option linter.unusedVariables false
set_option linter.unusedSimpArgs false
set_option linter.deprecated false
namespace Go.Proofs.YteblnjgghbclpaaDoor.hold
open Go Go.Proofs.YteblnjgghbclpaaDoor.Sx
noncomputable section
def sl00 : SV := .rom 0 (.lit 0) (.lit 0) none
def cEnds : Ctr := ⟨10, [sl0 0, iv 1, iv 2], r3, [.le (.lit 1) (ln 0)], .bool (.lit true), [], 0, []⟩
def cEnds0 : Ctr := ⟨10, [sl00, iv 1, iv 2], r3, [], .bool (.lit true), [], 0, []⟩
def cAdds : Ctr := ⟨9, [sl0 0, pHold], r3, [.le (.lit 1) (ln 0)], .bool (.lit true), [], 0, []⟩
def cAdds0 : Ctr := ⟨9, [sl00, pHold], r3, [], .bool (.lit true), [], 0, []⟩
def cAsks : Ctr := ⟨11, [sl0 0, iv 1, iv 2], r3, [.le (.lit 1) (ln 0)], .bool (.lit true), [], 0, []⟩
def cAsks0 : Ctr := ⟨11, [sl00, iv 1, iv 2], r3, [], .bool (.lit true), [], 0, []⟩
end
end Go.Proofs.YteblnjgghbclpaaDoor.hold
