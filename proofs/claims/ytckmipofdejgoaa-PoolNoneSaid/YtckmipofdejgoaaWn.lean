/- No calls are told ahead. No condition. -/
import Derived.Test.YtckmipofdejgoaaSr
set_option linter.unusedSimpArgs false
set_option linter.unusedVariables false
namespace Go.Proofs.Ytckmipofdejgoaa
open Go
namespace Sx
noncomputable def orN : List Orac := []
theorem orN_ok (ρ : Rho) (hρ : ρ.Ok) (W : World) : OracOk Try.prog W ⟨orN, []⟩ ρ := ⟨(by intro o ho; cases ho), (by intro r esz cl h; cases h)⟩
end Sx
end Go.Proofs.Ytckmipofdejgoaa
