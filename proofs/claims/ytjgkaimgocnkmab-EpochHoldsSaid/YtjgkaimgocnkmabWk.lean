/- The chapter's rows, reckoned. No condition. -/
import Derived.Test.YtjgkaimgocnkmabSr
set_option linter.unusedSimpArgs false
set_option linter.unusedVariables false
namespace Go.Proofs.Ytjgkaimgocnkmab
open Go
namespace Sx
theorem works_k : outTrue (callS (tab [] []) 100000 35 [] []) = true := by kernel_rfl
noncomputable def orW : List Orac := [⟨35, [], .lit true, .bool (.lit true), .bool (.lit true)⟩]
theorem norom (l : List Orac) (W : World) (ρ : Rho) : RomOk ⟨l, []⟩ W ρ := by intro r esz cl h; cases h
theorem orW_l (ρ : Rho) (hρ : ρ.Ok) (W : World) : ∀ o ∈ orW, (SV.namesL o.args = [] ∧ o.yes.names = [] ∧ o.no.names = []) ∧ ∀ w, W.grownBy w none → Calls Try.prog o.f (SV.denL ρ o.args).toArray w fun e w' => e = .returned ((if o.c.den ρ then o.yes else o.no).den ρ) ∧ w.grownBy w' none := by
  intro o ho
  simp only [orW, List.mem_cons, List.not_mem_nil, or_false] at ho
  subst ho
  refine ⟨⟨rfl, rfl, rfl⟩, fun w hw => ?_⟩
  have h0 : OracOk Try.prog W (tab [] []).orac ρ := ⟨(by intro o ho; cases ho), norom _ W _⟩
  have hp : Holds ρ [] := by intro p hp; cases hp
  simpa [BE.den, SV.den] using true_of (tab_ok' [] []) works_k hρ h0 hp rfl hw
theorem orW_ok (ρ : Rho) (hρ : ρ.Ok) (W : World) : OracOk Try.prog W ⟨orW, []⟩ ρ := ⟨orW_l ρ hρ W, norom _ _ _⟩
end Sx
end Go.Proofs.Ytjgkaimgocnkmab
