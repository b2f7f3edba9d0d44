/- Layer call: the law CallReads. No condition. -/
import Derived.Test.YthenenacmiiphaaSw
import Derived.Test.YthenenacmiiphaaCs
import Derived.Test.YthenenacmiiphaaDn
import Derived.Test.YthenenacmiiphaaDo
import Derived.Test.YthenenacmiiphaaDg
import Derived.Test.YthenenacmiiphaaDi
import Derived.Test.YthenenacmiiphaaCj
set_option linter.unusedVariables false
set_option linter.unusedSimpArgs false
set_option linter.deprecated false
namespace Go.Proofs.Ythenenacmiiphaa.oct
open Go Go.Proofs.Ythenenacmiiphaa.Sx
noncomputable section
def zL : LE := .take (.rom 0) (.lit 0)
def fZ (n : Nat) (l : LE) : IE := .fn .i64 n (aI 1 (aI 2 (aI 3 (.lst l .nil))))
def refZ : List (List BE) := [20, 21, 22, 23, 24, 25, 26, 27, 28, 29, 30, 31, 32, 33, 34, 35, 36].map fun n => [.not (.eq (fZ n .nil) (fZ n zL))]
end
theorem refZ_ok : ∀ cs ∈ refZ, ∀ ρ : Rho, ρ.Ok → ρ.z.F = Φ → Holds ρ cs → False := by
 intro cs hcs ρ hρ hF h
 obtain ⟨n, hn, rfl⟩ := List.mem_map.1 hcs
 have h1 := h.head
 rw [d_not, d_eq] at h1
 refine h1 ?_
 simp only [fZ, zL, aI, IE.den, LE.den, AL.den, Int.toNat_zero, List.take_zero]
theorem told_lreads : Sx.Told oct.Φ cLReads := told_auto (cs := [cWorks19, (rdC 37 []), (rdC 38 []), cTl, cRTl]) (all_cons told_works19 (all_cons told_rdA (all_cons told_rrdA (all_cons told_tl (all_cons told_rtl (all_nil)))))) 9000 (by kernel_rfl) (by kernel_rfl) (by kernel_rfl) (post_nil rfl) (by kernel_rfl) (by kernel_rfl)
theorem told_lreads0 : Sx.Told oct.Φ cLReads0 := told_autoRM refZ_ok (cs := [cWorks19, (rdC 37 []), (rdC 38 []), cTl, cRTl]) (ms' := []) (all_cons told_works19 (all_cons told_rdA (all_cons told_rrdA (all_cons told_tl (all_cons told_rtl (all_nil)))))) (all_nil) 9000 (by kernel_rfl) (by kernel_rfl) (by kernel_rfl) (post_nil rfl) (by kernel_rfl) (by kernel_rfl)
end Go.Proofs.Ythenenacmiiphaa.oct
