/- Layer call: reading, whatever the kind. No condition. -/
import Derived.Test.YthenenacmiiphaaDeX
import Derived.Test.YthenenacmiiphaaDeY
import Derived.Test.YthenenacmiiphaaDeZ
import Derived.Test.YthenenacmiiphaaDe1
import Derived.Test.YthenenacmiiphaaDe2
import Derived.Test.YthenenacmiiphaaDe3
import Derived.Test.YthenenacmiiphaaDe5
import Derived.Test.YthenenacmiiphaaDe7
set_option linter.unusedVariables false
set_option linter.unusedSimpArgs false
set_option linter.deprecated false
namespace Go.Proofs.Ythenenacmiiphaa.oct
open Go Go.Proofs.Ythenenacmiiphaa.Sx
theorem told_by {F : Fns} {c : Ctr} (ps : List (List BE)) (h : ∀ p ∈ ps, Sx.Told F { c with pre := p }) (hall : ∀ ρ : Rho, ∃ p ∈ ps, Holds ρ p) (hpre : c.pre = []) (hpost : PostOk F c) : Sx.Told F c := by
 obtain ⟨p0, hp0, _⟩ := hall ⟨fun _ _ => 0, fun _ => false, fun _ => [], fun _ => .bool false, fun _ => 0, ⟨F, fun _ => [], fun _ => none, fun _ => 0, fun _ => 0, fun _ => 0, fun _ => 0⟩⟩
 have k := (h p0 hp0).ok
 refine ⟨⟨⟨k.flat.1, k.flat.2.1, k.flat.2.2.1, by rw [hpre]; rfl⟩, k.names, ?_⟩, hpost⟩
 intro ρ w hg hr _
 obtain ⟨p, hp, hh⟩ := hall ρ
 exact (h p hp).ok.call ρ w hg hr hh
noncomputable section
def allP : List (List BE) := [preX, preY, preZ, E0 :: kE 1 1, E0 :: kE 2 2, E0 :: kE 3 4, E0 :: kE 5 6, E0 :: kE 7 7]
def cRdA : Ctr := rdC 37 []
def cRRdA : Ctr := rdC 38 []
end
theorem all_kinds (ρ : Rho) : ∃ p ∈ allP, Holds ρ p := by
 simp only [allP, List.mem_cons, List.not_mem_nil, or_false, exists_eq_or_imp, exists_eq_left, preX, preY, preZ, kE, E0, isN, h_cons, h_nil, and_true, d_not, d_eq, d_le]
 simp only [IE.den]
 generalize (eE (.rom 0)).den ρ = e
 generalize (vE (.rom 0)).den ρ = v
 omega
theorem told_rdA : Sx.Told oct.Φ cRdA := told_by allP (by
 intro p hp
 simp only [allP, List.mem_cons, List.not_mem_nil, or_false] at hp
 rcases hp with rfl | rfl | rfl | rfl | rfl | rfl | rfl | rfl
 ·exact told_rdX
 ·exact told_rdY
 ·exact told_rdZ
 ·exact told_rd1
 ·exact told_rd2
 ·exact told_rd3
 ·exact told_rd5
 ·exact told_rd7) all_kinds rfl (post_rdC _ _)
end Go.Proofs.Ythenenacmiiphaa.oct
