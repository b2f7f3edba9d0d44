/- Layer call: the law CallBytes. No condition. -/
import Derived.Test.YthenenacmiiphaaSw
import Derived.Test.YthenenacmiiphaaCs
import Derived.Test.YthenenacmiiphaaCu
import Derived.Test.YthenenacmiiphaaDb
import Derived.Test.YthenenacmiiphaaDc
import Derived.Test.YthenenacmiiphaaDl
import Derived.Test.YthenenacmiiphaaDm
import Derived.Test.YthenenacmiiphaaDeX
import Derived.Test.YthenenacmiiphaaDeY
import Derived.Test.YthenenacmiiphaaDeZ
import Derived.Test.YthenenacmiiphaaDe1
import Derived.Test.YthenenacmiiphaaDe2
import Derived.Test.YthenenacmiiphaaDe3
import Derived.Test.YthenenacmiiphaaDe5
import Derived.Test.YthenenacmiiphaaDe7
import Derived.Test.YthenenacmiiphaaCj
set_option linter.unusedVariables false
set_option linter.unusedSimpArgs false
set_option linter.deprecated false
namespace Go.Proofs.Ythenenacmiiphaa.oct
open Go Go.Proofs.Ythenenacmiiphaa.Sx
noncomputable section
def bL1 : LE := .cat askE (.rom 0)
def bL0 : LE := .cat (.cat askE (.take (.rom 0) (.lit 0))) (.drop askE (.len askE))
def fL' (n : Nat) (l : LE) : IE := .fn .i64 n (aI 1 (aI 2 (aI 3 (.lst l .nil))))
def noE (l : LE) : List BE := [.not (isN (eE l) 0), .not (.le (.lit 1) (vE l)), .not (.le (vE l) (.lit 7)), .not (isN (fL' 20 l) 0), .not (.eq (fL' 21 l) (xv 4)), .not (.eq (fL' 22 l) (xv 5)), .not (.eq (fL' 23 l) (xv 6)), .not (.eq (fL' 24 l) (xv 7)), .not (.eq (fL' 25 l) (xv 8)), .not (.eq (fL' 26 l) (xv 9)), .not (.eq (fL' 27 l) (xv 10)), .not (.eq (fL' 28 l) (xv 11)), .not (.eq (fL' 29 l) (.len askE))]
def refs1 : List (List BE) := (noE bL1).map fun c => [okE, c]
def refs0 : List (List BE) := (noE bL0).map fun c => [okE, c]
end
theorem no_ok {ρ : Rho} (hρ : ρ.Ok) (hF : ρ.z.F = Φ) {l : LE} {R : LV} (hl : l.den ρ = askE.den ρ ++ R) : ∀ cs ∈ (noE l).map fun c => [okE, c], Holds ρ cs → False := by
 intro cs hcs h
 simp only [noE, List.map_cons, List.map_nil, List.mem_cons, List.not_mem_nil, or_false] at hcs
 have ha : askE.den ρ = askL (ρ.i .i64 4) (ρ.i .i64 5) (ρ.i .i64 6) (ρ.i .i64 7) (ρ.i .i64 8) (ρ.i .i64 9) (ρ.i .i64 10) (ρ.i .i64 11) := by
  simp only [askE, aI, xv, LE.den, AL.den, IE.den, hF, pl7]
 rw [ha] at hl
 have hq : okE.den ρ = true := by
  rcases hcs with rfl | rfl | rfl | rfl | rfl | rfl | rfl | rfl | rfl | rfl | rfl | rfl | rfl <;> exact h.head
 have q0 : askR (ρ.i .i64 1) (ρ.i .i64 2) (ρ.i .i64 3) (ρ.i .i64 4) (ρ.i .i64 5) (ρ.i .i64 6) (ρ.i .i64 7) (ρ.i .i64 8) (ρ.i .i64 9) (ρ.i .i64 10) (ρ.i .i64 11) = true := by
  simpa only [okE, aI, xv, BE.den, AL.den, IE.den, hF, pb11] using hq
 have k := ask_read q0 (i64_rng hρ 11) hl
 have w := ask_first q0 hl
 have q1 := (ask_b q0).2
 have e5 : (eE l).den ρ = clampK .i64 (rdE (l.den ρ)) := by simp only [eE, IE.den, AL.den, hF]; rfl
 have e3 : (vE l).den ρ = clampK .u64 (rdV (l.den ρ)) := by simp only [vE, IE.den, AL.den, hF]; rfl
 have ef : ∀ n, (fL' n l).den ρ = clampK .i64 (Φ.i n [.int .i64 (ρ.i .i64 1), .int .i64 (ρ.i .i64 2), .int .i64 (ρ.i .i64 3), .lst (l.den ρ)]) := fun n => by simp only [fL', aI, xv, IE.den, AL.den, hF]
 have el : (IE.len askE).den ρ = ((askL (ρ.i .i64 4) (ρ.i .i64 5) (ρ.i .i64 6) (ρ.i .i64 7) (ρ.i .i64 8) (ρ.i .i64 9) (ρ.i .i64 10) (ρ.i .i64 11)).length : Int) := by rw [IE.den, ha]; rfl
 obtain ⟨k0, k1, k2, k3, k4, k5, k6, k7, k8, k9⟩ := k
 obtain ⟨w1, w2⟩ := w
 rcases hcs with rfl | rfl | rfl | rfl | rfl | rfl | rfl | rfl | rfl | rfl | rfl | rfl | rfl <;> have h1 := h.tail.head <;> clear h
 ·rw [d_not, isN, d_eq, e5, w2] at h1; exact h1 rfl
 ·rw [d_not, d_le, e3, w1] at h1; simp only [IE.den] at h1; omega
 ·rw [d_not, d_le, e3, w1] at h1; simp only [IE.den] at h1; omega
 ·rw [d_not, isN, d_eq, ef, pr20, k0] at h1; exact h1 rfl
 ·rw [d_not, d_eq, ef, pr21, k1] at h1; exact h1 rfl
 ·rw [d_not, d_eq, ef, pr22, k2] at h1; exact h1 rfl
 ·rw [d_not, d_eq, ef, pr23, k3] at h1; exact h1 rfl
 ·rw [d_not, d_eq, ef, pr24, k4] at h1; exact h1 rfl
 ·rw [d_not, d_eq, ef, pr25, k5] at h1; exact h1 rfl
 ·rw [d_not, d_eq, ef, pr26, k6] at h1; exact h1 rfl
 ·rw [d_not, d_eq, ef, pr27, k7] at h1; exact h1 rfl
 ·rw [d_not, d_eq, ef, pr28, k8] at h1; exact h1 rfl
 ·rw [d_not, d_eq, ef, pr29, k9, el] at h1; exact h1 rfl
theorem refs1_ok : ∀ cs ∈ refs1, ∀ ρ : Rho, ρ.Ok → ρ.z.F = Φ → Holds ρ cs → False := fun cs hcs ρ hρ hF h => no_ok hρ hF (l := bL1) (R := ρ.z.rl 0) (by simp only [bL1, LE.den]) cs hcs h
theorem refs0_ok : ∀ cs ∈ refs0, ∀ ρ : Rho, ρ.Ok → ρ.z.F = Φ → Holds ρ cs → False := fun cs hcs ρ hρ hF h => no_ok hρ hF (l := bL0) (by simp only [bL0, LE.den]; rw [List.append_assoc]) cs hcs h
theorem told_lbyt : Sx.Told oct.Φ cLBytes := told_autoRM refs1_ok (cs := [cWorks19, cChk, cChkN, cRRight, cBytes, cBytesN, cRBytes, cRBytesN, cRdX, cRdY, cRdZ, cRd1, cRd2, cRd3, cRd5, cRd7]) (ms' := []) (all_cons told_works19 (all_cons told_chk (all_cons told_chkn (all_cons told_rright (all_cons told_bytes (all_cons told_bytesn (all_cons told_rbytes (all_cons told_rbytesn (all_cons told_rdX (all_cons told_rdY (all_cons told_rdZ (all_cons told_rd1 (all_cons told_rd2 (all_cons told_rd3 (all_cons told_rd5 (all_cons told_rd7 (all_nil))))))))))))))))) (all_nil) 9000 (by kernel_rfl) (by kernel_rfl) (by kernel_rfl) (post_nil rfl) (by kernel_rfl) (by kernel_rfl)
theorem told_lbyt0 : Sx.Told oct.Φ cLBytes0 := told_autoRM refs0_ok (cs := [cWorks19, cChk, cChkN, cRRight, cBytes, cBytesN, cRBytes, cRBytesN, cRdX, cRdY, cRdZ, cRd1, cRd2, cRd3, cRd5, cRd7]) (ms' := []) (all_cons told_works19 (all_cons told_chk (all_cons told_chkn (all_cons told_rright (all_cons told_bytes (all_cons told_bytesn (all_cons told_rbytes (all_cons told_rbytesn (all_cons told_rdX (all_cons told_rdY (all_cons told_rdZ (all_cons told_rd1 (all_cons told_rd2 (all_cons told_rd3 (all_cons told_rd5 (all_cons told_rd7 (all_nil))))))))))))))))) (all_nil) 9000 (by kernel_rfl) (by kernel_rfl) (by kernel_rfl) (post_nil rfl) (by kernel_rfl) (by kernel_rfl)
end Go.Proofs.Ythenenacmiiphaa.oct
