/- Layer call: nothing is read of nothing. No condition. -/
import Derived.Test.YthenenacmiiphaaVb
set_option linter.unusedVariables false
set_option linter.unusedSimpArgs false
set_option linter.deprecated false
namespace Go.Proofs.Ythenenacmiiphaa.oct
open Go Go.Proofs.Ythenenacmiiphaa.Sx
noncomputable section
def preN : List BE := [.le (ln 0) (.lit 0)]
def postN0 : List BE := [.not (.eq (.fn .i64 20 pR) (.lit 0))]
def cRdN : Ctr := { rdC 37 [] with pre := preN, post := postN0 }
def cRRdN : Ctr := { rdC 38 [] with pre := preN, post := postN0 }
end
theorem post_none {c : Ctr} (h1 : c.pre = preN) (h2 : c.post = postN0) : PostOk Φ c := fun ρ hF hp => by
 rw [h1] at hp
 rw [h2]
 have hp : Holds ρ [_] := hp
 simp only [h_nil, h_cons, d_le, IE.den, ln, LE.den, lenV, and_true] at hp
 have e : ρ.z.rl 0 = [] := List.eq_nil_of_length_eq_zero (by omega)
 show Holds ρ [_]
 simp only [h_nil, h_cons, d_not, d_eq, IE.den, pR, aI, AL.den, LE.den, e, hF, pr20, eA_is, and_true]
 exact eA_nil
theorem told_none {c c' : Ctr} (h : Sx.Told Φ c) (hp : c.pre = []) (e : c' = { c with pre := preN, post := postN0 }) (hf : freeL preN = true ∧ freeL postN0 = true) : Sx.Told Φ c' := by
 subst e
 have k := h.ok
 refine ⟨⟨⟨k.flat.1, k.flat.2.1, hf.2, hf.1⟩, k.names, fun ρ w hg hr _ => k.call ρ w hg hr (by rw [hp]; intro p hq; cases hq)⟩, post_none rfl rfl⟩
theorem told_rdN : Sx.Told Φ cRdN := told_none told_rdA rfl rfl ⟨by kernel_rfl, by kernel_rfl⟩
theorem told_rrdN : Sx.Told Φ cRRdN := told_none told_rrdA rfl rfl ⟨by kernel_rfl, by kernel_rfl⟩
end Go.Proofs.Ythenenacmiiphaa.oct
