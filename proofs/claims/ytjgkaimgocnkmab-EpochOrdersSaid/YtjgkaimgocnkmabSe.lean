/- The laws EpochOrders and EpochPromises, reckoned. No condition. -/
import Derived.Test.YtjgkaimgocnkmabSr
set_option linter.unusedSimpArgs false
set_option linter.unusedVariables false
namespace Go.Proofs.Ytjgkaimgocnkmab
open Go
namespace Sx
noncomputable def eqsE : List (Nat × List CK) := [(61, [.int .i64, .int .i64]), (72, [.int .i64, .int .i64, .bool])]
theorem eqsE_ok : eqAll Try.prog eqsE = true := by kernel_rfl
theorem mixed_ok : Try.prog.follows .mixedOrders = true := by kernel_rfl
noncomputable def tabE (l : List Orac) : Tab := { ty := tys, fn := fns, eqs := eqsE, orac := l }
theorem tabE_ok (l : List Orac) : Tab.Ok Try.prog (tabE l) := tab_ok tys_ok fns_in fns_name fns_code (eqAll_ok eqsE eqsE_ok) mixed_ok
def iv (n : Nat) : SV := .int .i64 (.var .i64 n)
/-- A shape may be. -/
def shC : BE := .and (.le (.lit 1) (.var .i64 1)) (.and (.le (.var .i64 1) (.lit 64)) (.and (.le (.lit 1) (.var .i64 2)) (.and (.le (.var .i64 2) (.lit 8)) (.and (.le (.lit 1) (.var .i64 3)) (.le (.var .i64 3) (.lit 4))))))
theorem works_k : outTrue (callS (tabE []) 20000 35 [] []) = true := by kernel_rfl
theorem check_k : outIf shC (.int .i64 (.lit 0)) (.int .i64 (.lit 2)) (callS (tabE []) 20000 68 [.agg [iv 1, iv 2, iv 3]] []) = true := by kernel_rfl
theorem shape_k : outIf shC (.bool (.lit true)) (.bool (.lit false)) (callS (tabE []) 20000 18 [.agg [iv 1, iv 2, iv 3]] []) = true := by kernel_rfl
noncomputable def orE : List Orac := [⟨35, [], .lit true, .bool (.lit true), .bool (.lit true)⟩, ⟨68, [.agg [iv 1, iv 2, iv 3]], .var 50, .int .i64 (.lit 0), .int .i64 (.lit 2)⟩, ⟨18, [.agg [iv 1, iv 2, iv 3]], .var 50, .bool (.lit true), .bool (.lit false)⟩]
theorem orE_ok (ρ : Rho) (hρ : ρ.Ok) (h50 : ρ.b 50 = shC.den ρ) (W : World) : OracOk Try.prog W orE ρ := by
  have h0 : OracOk Try.prog W (tabE []).orac ρ := by intro o ho; cases ho
  have hp : Holds ρ [] := by intro p hp; cases hp
  intro o ho
  simp only [orE, List.mem_cons, List.not_mem_nil, or_false] at ho
  rcases ho with rfl | rfl | rfl
  · refine ⟨⟨rfl, rfl, rfl⟩, fun w hw => ?_⟩
    simpa [BE.den, SV.den] using true_of (tabE_ok []) works_k hρ h0 hp rfl hw
  · refine ⟨⟨rfl, rfl, rfl⟩, fun w hw => ?_⟩
    have := if_of (tabE_ok []) check_k hρ h0 hp rfl rfl rfl hw
    rw [← h50] at this
    exact this
  · refine ⟨⟨rfl, rfl, rfl⟩, fun w hw => ?_⟩
    have := if_of (tabE_ok []) shape_k hρ h0 hp rfl rfl rfl hw
    rw [← h50] at this
    exact this
end Sx
end Go.Proofs.Ytjgkaimgocnkmab
