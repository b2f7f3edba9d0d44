/- Layer call: contracts of numbers that are read on. No condition. -/
import Derived.Test.YthenenacmiiphaaCr
set_option linter.unusedVariables false
set_option linter.unusedSimpArgs false
set_option linter.deprecated false
namespace Go.Proofs.Ythenenacmiiphaa.oct
open Go Go.Proofs.Ythenenacmiiphaa.Sx
noncomputable section
def spl (at_ : IE) : SHeap := [(1000000, .cells [sl0 0, .int .i64 at_, i0 0] 142)]
def dW : LE := .drop (.rom 0) (xv 1)
def preS : List BE := [.le (.lit 0) (xv 1), .le (xv 1) (ln 0)]
def atS : IE := .add (xv 1) (nE dW)
def postS : List BE := [.le (.lit 0) (nE dW), .le (nE dW) (.sub (ln 0) (xv 1))]
def big : IE := .lit 9223372036854775807
def mNum : Mtr := ⟨87, [.ptr 1000000 0], spl (xv 1), 1001000, rB, preS ++ [isN (eE dW) 0], .int .i64 (.ite (.le (vE dW) big) (vE dW) (.lit (-1))), spl atS, 1001000, postS⟩
def mNumN : Mtr := ⟨87, [.ptr 1000000 0], spl (xv 1), 1001000, rB, preS ++ [.not (isN (eE dW) 0)], mkPan (.iface 161 (.agg [.int .i64 (eE dW)])), spl (xv 1), 1001000, []⟩
def mSig : Mtr := ⟨88, [.ptr 1000000 0], spl (xv 1), 1001000, rB, preS ++ [isN (eE dW) 0], .int .i64 (sE dW), spl atS, 1001000, postS⟩
def mSigN : Mtr := ⟨88, [.ptr 1000000 0], spl (xv 1), 1001000, rB, preS ++ [.not (isN (eE dW) 0)], mkPan (.iface 161 (.agg [.int .i64 (eE dW)])), spl (xv 1), 1001000, []⟩
def p00 : List BE := [.le (.lit 0) (nE (.rom 0)), .le (nE (.rom 0)) (ln 0)]
def at0 : IE := .add (.lit 0) (nE (.rom 0))
def mNumS : Mtr := ⟨87, [.ptr 1000000 0], spl (.lit 0), 1001000, rB, [isN (eE (.rom 0)) 0, .le (vE (.rom 0)) big], .int .i64 (vE (.rom 0)), spl at0, 1001000, p00⟩
def mNumB : Mtr := ⟨87, [.ptr 1000000 0], spl (.lit 0), 1001000, rB, [isN (eE (.rom 0)) 0, .not (.le (vE (.rom 0)) big)], .int .i64 (.lit (-1)), spl at0, 1001000, p00⟩
def mNumO : Mtr := ⟨87, [.ptr 1000000 0], spl (.lit 0), 1001000, rB, [.not (isN (eE (.rom 0)) 0)], mkPan (.iface 161 (.agg [.int .i64 (eE (.rom 0))])), spl (.lit 0), 1001000, []⟩
end
theorem post_00 {ρ : Rho} (hF : ρ.z.F = Φ) : Holds ρ p00 := by
 obtain ⟨a, b, c⟩ := nI_rng (ρ.z.rl 0)
 have e : (nE (.rom 0)).den ρ = nI (ρ.z.rl 0) := nL hF (.rom 0)
 show Holds ρ [_, _]
 simp only [h_nil, h_cons, d_le, e, and_true]
 simp only [IE.den, LE.den, ln, lenV]
 exact ⟨a, c⟩
theorem post_mnums : MPostOk Φ mNumS := fun ρ hF _ => post_00 hF
theorem post_mnumb : MPostOk Φ mNumB := fun ρ hF _ => post_00 hF
theorem pre_at {ρ : Rho} {l : List BE} (h : Holds ρ (preS ++ l)) : 0 ≤ ρ.i .i64 1 ∧ ρ.i .i64 1 ≤ ((ρ.z.rl 0).length : Int) := by
 have h1 := h (.le (.lit 0) (xv 1)) (by simp [preS])
 have h2 := h (.le (xv 1) (ln 0)) (by simp [preS])
 rw [d_le] at h1 h2
 simp only [IE.den, LE.den, xv, ln, lenV] at h1 h2
 exact ⟨h1, h2⟩
theorem post_S {ρ : Rho} (hF : ρ.z.F = Φ) {l : List BE} (h : Holds ρ (preS ++ l)) : Holds ρ postS := by
 obtain ⟨h1, h2⟩ := pre_at h
 obtain ⟨a, b, c⟩ := nI_rng ((ρ.z.rl 0).drop (ρ.i .i64 1).toNat)
 rw [List.length_drop] at c
 have e : (nE dW).den ρ = nI ((ρ.z.rl 0).drop (ρ.i .i64 1).toNat) := nL hF dW
 show Holds ρ [_, _]
 simp only [h_nil, h_cons, d_le, e, and_true]
 simp only [IE.den, LE.den, ln, xv, lenV]
 exact ⟨a, by omega⟩
theorem post_mnum : MPostOk Φ mNum := fun ρ hF h => post_S hF h
theorem post_msig : MPostOk Φ mSig := fun ρ hF h => post_S hF h
end Go.Proofs.Ythenenacmiiphaa.oct
