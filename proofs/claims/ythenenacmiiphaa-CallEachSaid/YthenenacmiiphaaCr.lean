/- Layer call: what the words are, as rules. No condition. -/
import Derived.Test.YthenenacmiiphaaCa
import Derived.Test.YthenenacmiiphaaSw
set_option linter.unusedVariables false
set_option linter.unusedSimpArgs false
set_option linter.deprecated false
namespace Go.Proofs.Ythenenacmiiphaa.oct
open Go Go.Proofs.Ythenenacmiiphaa.Sx
noncomputable section
def lt4 : LE := .var 4
def dr (e : IE) : LE := .drop lt4 e
def eE (l : LE) : IE := .fn .i64 5 (.lst l .nil)
def nE (l : LE) : IE := .fn .i64 4 (.lst l .nil)
def vE (l : LE) : IE := .fn .u64 3 (.lst l .nil)
def sE (l : LE) : IE := .fn .i64 6 (.int .u64 (vE l) .nil)
def Q1 : IE := nE lt4
def Q2 : IE := .add Q1 (nE (dr Q1))
def Q3 : IE := .add Q2 (nE (dr Q2))
def Q4 : IE := .add Q3 (nE (dr Q3))
def Q5 : IE := .add Q4 (nE (dr Q4))
def isN (x : IE) (n : Int) : BE := .eq x (.lit n)
def K17 : BE := .not (.and (.not (isN (vE lt4) 1)) (.not (isN (vE lt4) 7)))
def E2R : IE := .ite (.not (isN (eE (dr Q1)) 0)) (eE (dr Q1)) (.ite (.not (isN (eE (dr Q2)) 0)) (eE (dr Q2)) (.ite (.not (isN (eE (dr Q3)) 0)) (eE (dr Q3)) (.lit 0)))
def le2 : BE := .le (vE lt4) (.lit 2)
def AM : IE := .ite le2 (vE (dr Q2)) (.lit 0)
def AP : IE := .ite le2 (vE (dr Q3)) (.lit 0)
def AT : IE := .ite (isN (vE lt4) 1) (vE (dr Q4)) (.lit 0)
def AS : IE := .ite le2 (.lit 0) (vE (dr Q2))
def AU : IE := .ite le2 (.lit 0) (vE (dr Q3))
def AB : IE := .ite (isN (vE lt4) 7) (sE (dr Q4)) (.lit 0)
def ii (e : IE) (r : AL) : AL := .int .i64 e r
def AOK : BE := .fn 11 (aI 1 (aI 2 (aI 3 (ii (vE lt4) (ii (vE (dr Q1)) (ii AM (ii AP (ii AT (ii AS (ii AU (ii AB .nil)))))))))))
def ERR : IE := .ite (.not shE) (.lit 2) (.ite (.not (isN (eE lt4) 0)) (eE lt4) (.ite (.not (.and (.le (.lit 1) (vE lt4)) (.le (vE lt4) (.lit 7)))) (.lit 280)
 (.ite (.not (isN E2R 0)) E2R (.ite (.and K17 (.not (isN (eE (dr Q4)) 0))) (eE (dr Q4)) (.ite AOK (.lit 0) (.lit 280))))))
def NOK : BE := .fn 12 (aI 1 (aI 2 (aI 3 (ii (vE lt4) (ii (vE (dr Q1)) (ii (vE (dr Q2)) (ii (vE (dr Q3)) .nil)))))))
def ERA : IE := .ite (.not shE) (.lit 2) (.ite (.not (isN (eE lt4) 0)) (eE lt4) (.ite (.not (isN E2R 0)) E2R (.ite (.not (isN (eE (dr Q4)) 0)) (eE (dr Q4)) (.ite NOK (.lit 0) (.lit 280)))))
def pA : AL := aI 1 (aI 2 (aI 3 (.lst lt4 .nil)))
def ok20 (x : IE) : IE := .ite (isN (.fn .i64 20 pA) 0) x (.lit 0)
def ok30 (x : IE) : IE := .ite (isN (.fn .i64 30 pA) 0) x (.lit 0)
def imp (a b : BE) : BE := .not (.and a (.not b))
def all : List BE → BE
 | [] => .lit true
 | [a] => a
 | a :: l => .and a (all l)
def shB : BE := all [.le (.lit 1) (xv 1), .le (xv 1) (.lit 64), .le (.lit 1) (xv 2), .le (xv 2) (.lit 8), .le (.lit 1) (xv 3), .le (xv 3) (.lit 4)]
def askB : BE := all [shE, .le (.lit 1) (xv 4), .le (xv 4) (.lit 7), .le (.lit 0) (xv 5), .not (.le (xv 2) (xv 5)),
 imp (.le (xv 4) (.lit 2)) (all [.le (.lit 1) (xv 6), .le (xv 6) (.lit 5), .le (.lit 0) (xv 7), .le (xv 7) (.lit 3), .le (.lit 0) (xv 8), .le (xv 8) (.lit 1099511627776), imp (isN (xv 4) 2) (isN (xv 8) 0), isN (xv 9) 0, isN (xv 10) 0, isN (xv 11) 0]),
 imp (.le (.lit 3) (xv 4)) (all [isN (xv 6) 0, isN (xv 7) 0, isN (xv 8) 0, .le (.lit 0) (xv 9), .not (.le (xv 3) (xv 9)), .le (.lit 1) (xv 10), .le (xv 10) (.lit 1099511627776), imp (isN (xv 4) 7) (.not (isN (xv 11) 0)), imp (.not (isN (xv 4) 7)) (isN (xv 11) 0)])]
def ansB : BE := all [shE, .le (.lit 0) (xv 4), .le (xv 4) (.lit 999), .le (.lit 0) (xv 7), .le (xv 7) (.lit 5),
 .not (.and (.not (.and (isN (xv 6) 0) (isN (xv 5) 0))) (.not (all [.le (.lit 1) (xv 6), .le (xv 6) (.lit 1099511627776), .le (.lit 0) (xv 5), .not (.le (xv 3) (xv 5))])))]
def nC (x : IE) : LE := .fn 1 (.int .u64 x .nil)
def catL : List LE → LE
 | [] => .nil
 | [a] => a
 | a :: l => .cat a (catL l)
def xs (l : List Nat) : List LE := l.map fun n => nC (xv n)
def ndK (n : Int) : BE := .not (isN (xv 4) n)
def Df : Defs where
 i := [(20, .i64, pA, ERR), (21, .i64, pA, ok20 (vE lt4)), (22, .i64, pA, ok20 (vE (dr Q1))), (23, .i64, pA, ok20 AM), (24, .i64, pA, ok20 AP), (25, .i64, pA, ok20 AT), (26, .i64, pA, ok20 AS), (27, .i64, pA, ok20 AU), (28, .i64, pA, ok20 AB), (29, .i64, pA, ok20 (.ite K17 Q5 Q4)),
  (30, .i64, pA, ERA), (31, .i64, pA, ok30 (vE lt4)), (32, .i64, pA, ok30 (vE (dr Q1))), (33, .i64, pA, ok30 (vE (dr Q2))), (34, .i64, pA, ok30 (vE (dr Q3))), (35, .i64, pA, ok30 (sE (dr Q4))), (36, .i64, pA, ok30 Q5)]
 b := [(10, aI 1 (aI 2 (aI 3 .nil)), shB), (11, aI 1 (aI 2 (aI 3 (aI 4 (aI 5 (aI 6 (aI 7 (aI 8 (aI 9 (aI 10 (aI 11 .nil)))))))))), askB), (12, aI 1 (aI 2 (aI 3 (aI 4 (aI 5 (aI 6 (aI 7 .nil)))))), ansB)]
 l := [(7, aI 4 (aI 5 (aI 6 (aI 7 (aI 8 (aI 9 (aI 10 (aI 11 .nil))))))), [(isN (xv 4) 1, catL (xs [4, 5, 6, 7, 8])), (isN (xv 4) 2, catL (xs [4, 5, 6, 7])), (isN (xv 4) 7, catL (xs [4, 5, 9, 10] ++ [nC (twE (xv 11))])), (all [ndK 1, ndK 2, ndK 7], catL (xs [4, 5, 9, 10]))]),
  (9, aI 4 (aI 5 (aI 6 (aI 7 (aI 8 .nil)))), [(.lit true, catL (xs [4, 5, 6, 7] ++ [nC (twE (xv 8))]))])]
 cut := [4]
end
theorem u64L (L : LV) : 0 ≤ vI L ∧ vI L ≤ 18446744073709551615 := clamp_rng .u64 _
theorem i64L (x : Int) : -9223372036854775808 ≤ clampK .i64 x ∧ clampK .i64 x ≤ 9223372036854775807 := clamp_rng .i64 _
theorem cl0 {x : Int} (h : -9223372036854775808 ≤ x ∧ x ≤ 9223372036854775807) : clampK .i64 x = x := clamp_id (k := .i64) h
theorem nI_rng (L : LV) : 0 ≤ nI L ∧ nI L ≤ 10 ∧ nI L ≤ (L.length : Int) := by
 obtain ⟨a, b, c⟩ := rdN_rng L
 have e : nI L = rdN L := cl0 ⟨by omega, by omega⟩
 rw [e]; exact ⟨a, c, b⟩
theorem step_len {L : LV} {q : Int} (h0 : 0 ≤ q) (h1 : q ≤ (L.length : Int)) : q ≤ q + nI (L.drop q.toNat) ∧ q + nI (L.drop q.toNat) ≤ q + 10 ∧ q + nI (L.drop q.toNat) ≤ (L.length : Int) := by
 obtain ⟨a, b, c⟩ := nI_rng (L.drop q.toNat)
 rw [List.length_drop] at c
 omega
theorem q_rng (L : LV) : (0 ≤ q1 L ∧ q1 L ≤ (L.length : Int)) ∧ (0 ≤ q2 L ∧ q2 L ≤ (L.length : Int)) ∧ (0 ≤ q3 L ∧ q3 L ≤ (L.length : Int)) ∧ (0 ≤ q4 L ∧ q4 L ≤ 40 ∧ q4 L ≤ (L.length : Int)) ∧ 0 ≤ q5 L ∧ q5 L ≤ 50 ∧ q5 L ≤ (L.length : Int) := by
 have h1 : 0 ≤ q1 L ∧ q1 L ≤ 10 ∧ q1 L ≤ (L.length : Int) := nI_rng L
 have h2 := step_len (L := L) h1.1 h1.2.2
 have h3 := step_len (L := L) (q := q2 L) (by unfold q2; omega) h2.2.2
 have h4 := step_len (L := L) (q := q3 L) (by unfold q3 q2; unfold q2 at h3; omega) h3.2.2
 have h5 := step_len (L := L) (q := q4 L) (by unfold q4; unfold q3 at h4 ⊢; unfold q2 at *; omega) h4.2.2
 change q1 L ≤ q2 L ∧ q2 L ≤ _ ∧ q2 L ≤ _ at h2
 change q2 L ≤ q3 L ∧ q3 L ≤ _ ∧ q3 L ≤ _ at h3
 change q3 L ≤ q4 L ∧ q4 L ≤ _ ∧ q4 L ≤ _ at h4
 change q4 L ≤ q5 L ∧ q5 L ≤ _ ∧ q5 L ≤ _ at h5
 omega
theorem ask0 {n l s : Int} {L : LV} (h : askE0 n l s L = 0) : shpR n l s = true ∧ aOk n l s L = true := by
 unfold askE0 at h
 split at h
 ·omega
 rename_i h1
 split at h
 ·rename_i c; simp at c; exact absurd h c
 split at h
 ·omega
 split at h
 ·rename_i c; simp at c; exact absurd h c
 split at h
 ·rename_i c; simp at c; exact absurd h c.2
 split at h
 ·rename_i c
  exact ⟨by simpa using h1, c⟩
 ·omega
theorem ans0 {n l s : Int} {L : LV} (h : ansE0 n l s L = 0) : shpR n l s = true ∧ nOk n l s L = true := by
 unfold ansE0 at h
 split at h
 ·omega
 rename_i h1
 split at h
 ·rename_i c; simp at c; exact absurd h c
 split at h
 ·rename_i c; simp at c; exact absurd h c
 split at h
 ·rename_i c; simp at c; exact absurd h c
 split at h
 ·rename_i c
  exact ⟨by simpa using h1, c⟩
 ·omega
theorem e2R_in (L : LV) : clampK .i64 (e2R L) = e2R L := by
 unfold e2R
 split
 ·exact clamp_clamp _ _
 split
 ·exact clamp_clamp _ _
 split
 ·exact clamp_clamp _ _
 ·rfl
theorem askE_in (n l s : Int) (L : LV) : clampK .i64 (askE0 n l s L) = askE0 n l s L := by
 unfold askE0
 split
 ·rfl
 split
 ·exact clamp_clamp _ _
 split
 ·rfl
 split
 ·exact e2R_in L
 split
 ·exact clamp_clamp _ _
 split <;> rfl
theorem ansE_in (n l s : Int) (L : LV) : clampK .i64 (ansE0 n l s L) = ansE0 n l s L := by
 unfold ansE0
 split
 ·rfl
 split
 ·exact clamp_clamp _ _
 split
 ·exact e2R_in L
 split
 ·exact clamp_clamp _ _
 split <;> rfl
theorem on_ok {e X : Int} (he : clampK .i64 e = e) (hx : e = 0 → -9223372036854775808 ≤ X ∧ X ≤ 9223372036854775807) : clampK .i64 (onOk e X) = if decide (e = 0) then X else 0 := by
 unfold onOk
 by_cases h : e = 0
 ·simp only [h, decide_true, if_true]; exact cl0 (hx h)
 ·simp only [h, decide_false, Bool.false_eq_true, if_false]; rfl
theorem aOk_rng {n l s : Int} {L : LV} (h : aOk n l s L = true) : (1 ≤ vI L ∧ vI L ≤ 7) ∧ (0 ≤ vI (L.drop (q1 L).toNat) ∧ vI (L.drop (q1 L).toNat) ≤ 8) ∧ (0 ≤ aM L ∧ aM L ≤ 5) ∧ (0 ≤ aP L ∧ aP L ≤ 3) ∧ (0 ≤ aT L ∧ aT L ≤ 1099511627776) ∧ (0 ≤ aS L ∧ aS L ≤ 4) ∧ (0 ≤ aU L ∧ aU L ≤ 1099511627776) := by
 obtain ⟨h0, q⟩ := ask_b h
 have b := shp_b h0
 by_cases c : vI L ≤ 2
 ·have q2 := q.2.2.2.2.1 c
  omega
 ·have q2 := q.2.2.2.2.2 (by omega)
  omega
theorem nOk_rng {n l s : Int} {L : LV} (h : nOk n l s L = true) : (0 ≤ vI L ∧ vI L ≤ 999) ∧ (0 ≤ vI (L.drop (q1 L).toNat) ∧ vI (L.drop (q1 L).toNat) ≤ 4) ∧ (0 ≤ vI (L.drop (q2 L).toNat) ∧ vI (L.drop (q2 L).toNat) ≤ 1099511627776) ∧ (0 ≤ vI (L.drop (q3 L).toNat) ∧ vI (L.drop (q3 L).toNat) ≤ 5) := by
 obtain ⟨h0, q⟩ := ans_b h
 have b := shp_b h0
 omega
section
variable {ρ : Rho} (hF : ρ.z.F = Φ)
include hF
theorem vL (l : LE) : (vE l).den ρ = vI (l.den ρ) := by
 simp only [vE, IE.den, AL.den, hF]; rfl
theorem eL (l : LE) : (eE l).den ρ = eI (l.den ρ) := by
 simp only [eE, IE.den, AL.den, hF]; rfl
theorem nL (l : LE) : (nE l).den ρ = nI (l.den ρ) := by
 simp only [nE, IE.den, AL.den, hF]; rfl
theorem sL (l : LE) : (sE l).den ρ = sI2 (l.den ρ) := by
 simp only [sE, IE.den, AL.den, vL hF, hF]; rfl
omit hF in
theorem drD (e : IE) : (dr e).den ρ = (ρ.l 4).drop (e.den ρ).toNat := rfl
omit hF in
theorem l4D : lt4.den ρ = ρ.l 4 := rfl
theorem Q1D : Q1.den ρ = q1 (ρ.l 4) := nL hF _
theorem Q2D : Q2.den ρ = q2 (ρ.l 4) := by
 rw [Q2, IE.den, nL hF, drD, Q1D hF]; rfl
theorem Q3D : Q3.den ρ = q3 (ρ.l 4) := by
 rw [Q3, IE.den, nL hF, drD, Q2D hF]; rfl
theorem Q4D : Q4.den ρ = q4 (ρ.l 4) := by
 rw [Q4, IE.den, nL hF, drD, Q3D hF]; rfl
theorem Q5D : Q5.den ρ = q5 (ρ.l 4) := by
 rw [Q5, IE.den, nL hF, drD, Q4D hF]; rfl
omit hF in
theorem isD (e : IE) (n : Int) : (isN e n).den ρ = decide (e.den ρ = n) := rfl
omit hF in
theorem iteD (c : BE) (x y : IE) : (IE.ite c x y).den ρ = if c.den ρ then x.den ρ else y.den ρ := by rw [IE.den]
omit hF in
theorem notD (c : BE) : (BE.not c).den ρ = !c.den ρ := by rw [BE.den]
omit hF in
theorem andD (c d : BE) : (BE.and c d).den ρ = (c.den ρ && d.den ρ) := by rw [BE.den]
omit hF in
theorem leD (x y : IE) : (BE.le x y).den ρ = decide (x.den ρ ≤ y.den ρ) := by rw [BE.den]
omit hF in
theorem litD (n : Int) : (IE.lit n).den ρ = n := by rw [IE.den]
theorem k17D : K17.den ρ = k17 (ρ.l 4) := by
 simp only [K17, notD, andD, isD, vL hF, l4D]; rfl
theorem e2D : E2R.den ρ = e2R (ρ.l 4) := by
 simp only [E2R, notD, iteD, isD, eL hF, drD, litD, Q1D hF, Q2D hF, Q3D hF]; rfl
theorem aMD : AM.den ρ = aM (ρ.l 4) := by
 simp only [AM, le2, iteD, leD, vL hF, drD, litD, Q2D hF, l4D]; rfl
theorem aPD : AP.den ρ = aP (ρ.l 4) := by
 simp only [AP, le2, iteD, leD, vL hF, drD, litD, Q3D hF, l4D]; rfl
theorem aTD : AT.den ρ = aT (ρ.l 4) := by
 simp only [AT, iteD, isD, vL hF, drD, litD, Q4D hF, l4D]; rfl
theorem aSD : AS.den ρ = aS (ρ.l 4) := by
 simp only [AS, le2, iteD, leD, vL hF, drD, litD, Q2D hF, l4D]; rfl
theorem aUD : AU.den ρ = aU (ρ.l 4) := by
 simp only [AU, le2, iteD, leD, vL hF, drD, litD, Q3D hF, l4D]; rfl
theorem aBD : AB.den ρ = aB (ρ.l 4) := by
 simp only [AB, iteD, isD, vL hF, sL hF, drD, litD, Q4D hF, l4D]; rfl
theorem shD : shE.den ρ = shpR (ρ.i .i64 1) (ρ.i .i64 2) (ρ.i .i64 3) := by
 simp only [shE, aI, xv, BE.den, AL.den, IE.den, hF, pb10]
theorem aOkD : AOK.den ρ = aOk (ρ.i .i64 1) (ρ.i .i64 2) (ρ.i .i64 3) (ρ.l 4) := by
 simp only [AOK, ii, aI, xv, BE.den, AL.den, vL hF, drD, l4D, Q1D hF, aMD hF, aPD hF, aTD hF, aSD hF, aUD hF, aBD hF, hF, pb11]
 simp only [IE.den]; rfl
theorem nOkD : NOK.den ρ = nOk (ρ.i .i64 1) (ρ.i .i64 2) (ρ.i .i64 3) (ρ.l 4) := by
 simp only [NOK, ii, aI, xv, BE.den, AL.den, vL hF, drD, l4D, Q1D hF, Q2D hF, Q3D hF, hF, pb12]
 simp only [IE.den]; rfl
theorem errD : ERR.den ρ = askE0 (ρ.i .i64 1) (ρ.i .i64 2) (ρ.i .i64 3) (ρ.l 4) := by
 simp only [ERR, notD, andD, iteD, isD, leD, litD, shD hF, eL hF, vL hF, drD, l4D, Q4D hF, e2D hF, k17D hF, aOkD hF]; rfl
theorem eraD : ERA.den ρ = ansE0 (ρ.i .i64 1) (ρ.i .i64 2) (ρ.i .i64 3) (ρ.l 4) := by
 simp only [ERA, notD, andD, iteD, isD, leD, litD, shD hF, eL hF, vL hF, drD, l4D, Q4D hF, e2D hF, nOkD hF]; rfl
end
theorem d20 {ρ : Rho} (hF : ρ.z.F = Φ) : (IE.fn .i64 20 pA).den ρ = ERR.den ρ := by
 rw [errD hF, ← askE_in]
 simp only [pA, aI, xv, lt4, IE.den, LE.den, AL.den, hF]
 rfl
theorem d30 {ρ : Rho} (hF : ρ.z.F = Φ) : (IE.fn .i64 30 pA).den ρ = ERA.den ρ := by
 rw [eraD hF, ← ansE_in]
 simp only [pA, aI, xv, lt4, IE.den, LE.den, AL.den, hF]
 rfl
theorem dAsk {ρ : Rho} (hF : ρ.z.F = Φ) (j : Nat) (hj : j < 9) (x : IE) (hx : x.den ρ = askF j (ρ.l 4)) : (IE.fn .i64 (21 + j) pA).den ρ = (ok20 x).den ρ := by
 have hr : aOk (ρ.i .i64 1) (ρ.i .i64 2) (ρ.i .i64 3) (ρ.l 4) = true → -9223372036854775808 ≤ askF j (ρ.l 4) ∧ askF j (ρ.l 4) ≤ 9223372036854775807 := fun h => by
  have := aOk_rng h
  have q := q_rng (ρ.l 4)
  have b : -9223372036854775808 ≤ aB (ρ.l 4) ∧ aB (ρ.l 4) ≤ 9223372036854775807 := by
   unfold aB; split
   ·exact i64L _
   ·omega
  match j, hj with
  | 0, _ => exact ⟨by show _ ≤ vI _; omega, by show vI _ ≤ _; omega⟩
  | 1, _ => exact ⟨by show _ ≤ vI _; omega, by show vI _ ≤ _; omega⟩
  | 2, _ => exact ⟨by show _ ≤ aM _; omega, by show aM _ ≤ _; omega⟩
  | 3, _ => exact ⟨by show _ ≤ aP _; omega, by show aP _ ≤ _; omega⟩
  | 4, _ => exact ⟨by show _ ≤ aT _; omega, by show aT _ ≤ _; omega⟩
  | 5, _ => exact ⟨by show _ ≤ aS _; omega, by show aS _ ≤ _; omega⟩
  | 6, _ => exact ⟨by show _ ≤ aU _; omega, by show aU _ ≤ _; omega⟩
  | 7, _ => exact b
  | 8, _ =>
   show -9223372036854775808 ≤ (if k17 _ then q5 _ else q4 _) ∧ (if k17 _ then q5 _ else q4 _) ≤ 9223372036854775807
   split <;> omega
 have e : (IE.fn .i64 (21 + j) pA).den ρ = clampK .i64 (onOk (askE0 (ρ.i .i64 1) (ρ.i .i64 2) (ρ.i .i64 3) (ρ.l 4)) (askF j (ρ.l 4))) := by
  match j, hj with
  | 0, _ => simp only [pA, aI, xv, lt4, IE.den, LE.den, AL.den, hF]; rfl
  | 1, _ => simp only [pA, aI, xv, lt4, IE.den, LE.den, AL.den, hF]; rfl
  | 2, _ => simp only [pA, aI, xv, lt4, IE.den, LE.den, AL.den, hF]; rfl
  | 3, _ => simp only [pA, aI, xv, lt4, IE.den, LE.den, AL.den, hF]; rfl
  | 4, _ => simp only [pA, aI, xv, lt4, IE.den, LE.den, AL.den, hF]; rfl
  | 5, _ => simp only [pA, aI, xv, lt4, IE.den, LE.den, AL.den, hF]; rfl
  | 6, _ => simp only [pA, aI, xv, lt4, IE.den, LE.den, AL.den, hF]; rfl
  | 7, _ => simp only [pA, aI, xv, lt4, IE.den, LE.den, AL.den, hF]; rfl
  | 8, _ => simp only [pA, aI, xv, lt4, IE.den, LE.den, AL.den, hF]; rfl
 rw [e, on_ok (askE_in _ _ _ _) (fun h => hr (ask0 h).2), ← hx, ok20, iteD, isD, d20 hF, errD hF, litD]
theorem dAns {ρ : Rho} (hF : ρ.z.F = Φ) (j : Nat) (hj : j < 6) (x : IE) (hx : x.den ρ = ansF j (ρ.l 4)) : (IE.fn .i64 (31 + j) pA).den ρ = (ok30 x).den ρ := by
 have hr : nOk (ρ.i .i64 1) (ρ.i .i64 2) (ρ.i .i64 3) (ρ.l 4) = true → -9223372036854775808 ≤ ansF j (ρ.l 4) ∧ ansF j (ρ.l 4) ≤ 9223372036854775807 := fun h => by
  have := nOk_rng h
  have q := q_rng (ρ.l 4)
  match j, hj with
  | 0, _ => exact ⟨by show _ ≤ vI _; omega, by show vI _ ≤ _; omega⟩
  | 1, _ => exact ⟨by show _ ≤ vI _; omega, by show vI _ ≤ _; omega⟩
  | 2, _ => exact ⟨by show _ ≤ vI _; omega, by show vI _ ≤ _; omega⟩
  | 3, _ => exact ⟨by show _ ≤ vI _; omega, by show vI _ ≤ _; omega⟩
  | 4, _ => exact i64L _
  | 5, _ => exact ⟨by show _ ≤ q5 _; omega, by show q5 _ ≤ _; omega⟩
 have e : (IE.fn .i64 (31 + j) pA).den ρ = clampK .i64 (onOk (ansE0 (ρ.i .i64 1) (ρ.i .i64 2) (ρ.i .i64 3) (ρ.l 4)) (ansF j (ρ.l 4))) := by
  match j, hj with
  | 0, _ => simp only [pA, aI, xv, lt4, IE.den, LE.den, AL.den, hF]; rfl
  | 1, _ => simp only [pA, aI, xv, lt4, IE.den, LE.den, AL.den, hF]; rfl
  | 2, _ => simp only [pA, aI, xv, lt4, IE.den, LE.den, AL.den, hF]; rfl
  | 3, _ => simp only [pA, aI, xv, lt4, IE.den, LE.den, AL.den, hF]; rfl
  | 4, _ => simp only [pA, aI, xv, lt4, IE.den, LE.den, AL.den, hF]; rfl
  | 5, _ => simp only [pA, aI, xv, lt4, IE.den, LE.den, AL.den, hF]; rfl
 rw [e, on_ok (ansE_in _ _ _ _) (fun h => hr (ans0 h).2), ← hx, ok30, iteD, isD, d30 hF, eraD hF, litD]
theorem d10 {ρ : Rho} (hF : ρ.z.F = Φ) : (BE.fn 10 (aI 1 (aI 2 (aI 3 .nil)))).den ρ = shB.den ρ := by
 rw [Bool.eq_iff_iff]
 simp only [shB, all, d_and, d_le, d_fn, aI, xv, IE.den, AL.den, hF, pb10, shpR, decide_eq_true_eq]
theorem d11 {ρ : Rho} (hF : ρ.z.F = Φ) : (BE.fn 11 (aI 1 (aI 2 (aI 3 (aI 4 (aI 5 (aI 6 (aI 7 (aI 8 (aI 9 (aI 10 (aI 11 .nil)))))))))))).den ρ = askB.den ρ := by
 rw [Bool.eq_iff_iff]
 simp only [askB, shE, imp, isN, all, d_and, d_le, d_eq, d_not, d_fn, aI, xv, IE.den, AL.den, hF, pb10, pb11, askR, Bool.and_eq_true, decide_eq_true_eq]
 refine and_congr Iff.rfl ?_
 constructor
 ·intro h; omega
 ·intro h; omega
theorem d12 {ρ : Rho} (hF : ρ.z.F = Φ) : (BE.fn 12 (aI 1 (aI 2 (aI 3 (aI 4 (aI 5 (aI 6 (aI 7 .nil)))))))).den ρ = ansB.den ρ := by
 rw [Bool.eq_iff_iff]
 simp only [ansB, shE, isN, all, d_and, d_le, d_eq, d_not, d_fn, aI, xv, IE.den, AL.den, hF, pb10, pb12, ansR, Bool.and_eq_true, decide_eq_true_eq]
 refine and_congr Iff.rfl ?_
 constructor
 ·intro h; omega
 ·intro h; omega
theorem rules : DefsOk Φ Df := by
 refine ⟨?_, ?_, ?_⟩
 ·intro n k p e h ρ hF
  have h := lk_mem h
  simp only [Df, List.mem_cons, Prod.mk.injEq, List.not_mem_nil, or_false] at h
  have S : ∀ L : LV, True := fun _ => trivial
  rcases h with ⟨rfl, rfl, rfl, rfl⟩ | ⟨rfl, rfl, rfl, rfl⟩ | ⟨rfl, rfl, rfl, rfl⟩ | ⟨rfl, rfl, rfl, rfl⟩ | ⟨rfl, rfl, rfl, rfl⟩ | ⟨rfl, rfl, rfl, rfl⟩ | ⟨rfl, rfl, rfl, rfl⟩ | ⟨rfl, rfl, rfl, rfl⟩ | ⟨rfl, rfl, rfl, rfl⟩ | ⟨rfl, rfl, rfl, rfl⟩ | ⟨rfl, rfl, rfl, rfl⟩ | ⟨rfl, rfl, rfl, rfl⟩ | ⟨rfl, rfl, rfl, rfl⟩ | ⟨rfl, rfl, rfl, rfl⟩ | ⟨rfl, rfl, rfl, rfl⟩ | ⟨rfl, rfl, rfl, rfl⟩ | ⟨rfl, rfl, rfl, rfl⟩
  ·exact d20 hF
  ·exact dAsk hF 0 (by omega) _ (by simp only [iteD, vL hF, sL hF, drD, l4D, Q1D hF, Q2D hF, Q3D hF, Q4D hF, Q5D hF, k17D hF, aMD hF, aPD hF, aTD hF, aSD hF, aUD hF, aBD hF]; rfl)
  ·exact dAsk hF 1 (by omega) _ (by simp only [iteD, vL hF, sL hF, drD, l4D, Q1D hF, Q2D hF, Q3D hF, Q4D hF, Q5D hF, k17D hF, aMD hF, aPD hF, aTD hF, aSD hF, aUD hF, aBD hF]; rfl)
  ·exact dAsk hF 2 (by omega) _ (by simp only [iteD, vL hF, sL hF, drD, l4D, Q1D hF, Q2D hF, Q3D hF, Q4D hF, Q5D hF, k17D hF, aMD hF, aPD hF, aTD hF, aSD hF, aUD hF, aBD hF]; rfl)
  ·exact dAsk hF 3 (by omega) _ (by simp only [iteD, vL hF, sL hF, drD, l4D, Q1D hF, Q2D hF, Q3D hF, Q4D hF, Q5D hF, k17D hF, aMD hF, aPD hF, aTD hF, aSD hF, aUD hF, aBD hF]; rfl)
  ·exact dAsk hF 4 (by omega) _ (by simp only [iteD, vL hF, sL hF, drD, l4D, Q1D hF, Q2D hF, Q3D hF, Q4D hF, Q5D hF, k17D hF, aMD hF, aPD hF, aTD hF, aSD hF, aUD hF, aBD hF]; rfl)
  ·exact dAsk hF 5 (by omega) _ (by simp only [iteD, vL hF, sL hF, drD, l4D, Q1D hF, Q2D hF, Q3D hF, Q4D hF, Q5D hF, k17D hF, aMD hF, aPD hF, aTD hF, aSD hF, aUD hF, aBD hF]; rfl)
  ·exact dAsk hF 6 (by omega) _ (by simp only [iteD, vL hF, sL hF, drD, l4D, Q1D hF, Q2D hF, Q3D hF, Q4D hF, Q5D hF, k17D hF, aMD hF, aPD hF, aTD hF, aSD hF, aUD hF, aBD hF]; rfl)
  ·exact dAsk hF 7 (by omega) _ (by simp only [iteD, vL hF, sL hF, drD, l4D, Q1D hF, Q2D hF, Q3D hF, Q4D hF, Q5D hF, k17D hF, aMD hF, aPD hF, aTD hF, aSD hF, aUD hF, aBD hF]; rfl)
  ·exact dAsk hF 8 (by omega) _ (by simp only [iteD, vL hF, sL hF, drD, l4D, Q1D hF, Q2D hF, Q3D hF, Q4D hF, Q5D hF, k17D hF, aMD hF, aPD hF, aTD hF, aSD hF, aUD hF, aBD hF]; rfl)
  ·exact d30 hF
  ·exact dAns hF 0 (by omega) _ (by simp only [iteD, vL hF, sL hF, drD, l4D, Q1D hF, Q2D hF, Q3D hF, Q4D hF, Q5D hF, k17D hF, aMD hF, aPD hF, aTD hF, aSD hF, aUD hF, aBD hF]; rfl)
  ·exact dAns hF 1 (by omega) _ (by simp only [iteD, vL hF, sL hF, drD, l4D, Q1D hF, Q2D hF, Q3D hF, Q4D hF, Q5D hF, k17D hF, aMD hF, aPD hF, aTD hF, aSD hF, aUD hF, aBD hF]; rfl)
  ·exact dAns hF 2 (by omega) _ (by simp only [iteD, vL hF, sL hF, drD, l4D, Q1D hF, Q2D hF, Q3D hF, Q4D hF, Q5D hF, k17D hF, aMD hF, aPD hF, aTD hF, aSD hF, aUD hF, aBD hF]; rfl)
  ·exact dAns hF 3 (by omega) _ (by simp only [iteD, vL hF, sL hF, drD, l4D, Q1D hF, Q2D hF, Q3D hF, Q4D hF, Q5D hF, k17D hF, aMD hF, aPD hF, aTD hF, aSD hF, aUD hF, aBD hF]; rfl)
  ·exact dAns hF 4 (by omega) _ (by simp only [iteD, vL hF, sL hF, drD, l4D, Q1D hF, Q2D hF, Q3D hF, Q4D hF, Q5D hF, k17D hF, aMD hF, aPD hF, aTD hF, aSD hF, aUD hF, aBD hF]; rfl)
  ·exact dAns hF 5 (by omega) _ (by simp only [iteD, vL hF, sL hF, drD, l4D, Q1D hF, Q2D hF, Q3D hF, Q4D hF, Q5D hF, k17D hF, aMD hF, aPD hF, aTD hF, aSD hF, aUD hF, aBD hF]; rfl)
 ·intro n p e h ρ hF
  have h := lk_mem h
  simp only [Df, List.mem_cons, Prod.mk.injEq, List.not_mem_nil, or_false] at h
  rcases h with ⟨rfl, rfl, rfl⟩ | ⟨rfl, rfl, rfl⟩ | ⟨rfl, rfl, rfl⟩
  ·exact d10 hF
  ·exact d11 hF
  ·exact d12 hF
 ·intro n p cs h ρ hF x hx hc
  have h := lk_mem h
  simp only [Df, List.mem_cons, Prod.mk.injEq, List.not_mem_nil, or_false] at h
  rcases h with ⟨rfl, rfl, rfl⟩ | ⟨rfl, rfl, rfl⟩
  ·simp only [List.mem_cons, List.not_mem_nil, or_false] at hx
   rcases hx with rfl | rfl | rfl | rfl
   ·simp only [isN, d_eq, xv, IE.den] at hc
    simp only [catL, xs, nC, List.map_cons, List.map_nil, aI, xv, LE.den, AL.den, IE.den, hF]
    exact (askL_1 hc).trans (by simp only [List.append_assoc]; rfl)
   ·simp only [isN, d_eq, xv, IE.den] at hc
    simp only [catL, xs, nC, List.map_cons, List.map_nil, aI, xv, LE.den, AL.den, IE.den, hF]
    exact (askL_2 hc).trans (by simp only [List.append_assoc]; rfl)
   ·simp only [isN, d_eq, xv, IE.den] at hc
    simp only [catL, xs, nC, twE, List.map_cons, List.map_nil, List.cons_append, List.nil_append, aI, xv, LE.den, AL.den, IE.den, hF]
    exact (askL_7 hc).trans (by rw [← clamp_clamp .u64 (twiceN _)]; simp only [List.append_assoc]; rfl)
   ·simp only [ndK, all, isN, d_and, d_not, d_eq, xv, IE.den] at hc
    simp only [catL, xs, nC, List.map_cons, List.map_nil, aI, xv, LE.den, AL.den, IE.den, hF]
    exact (askL_3 hc.1 hc.2.1 hc.2.2).trans (by simp only [List.append_assoc]; rfl)
  ·simp only [List.mem_cons, List.not_mem_nil, or_false] at hx
   subst hx
   simp only [catL, xs, nC, twE, List.map_cons, List.map_nil, List.cons_append, List.nil_append, aI, xv, LE.den, AL.den, IE.den, hF]
   exact ansL_e.trans (by rw [← clamp_clamp .u64 (twiceN _)]; simp only [List.append_assoc]; rfl)
noncomputable section
def pR : AL := aI 1 (aI 2 (aI 3 (.lst (.rom 0) .nil)))
def fR (n : Nat) : SV := .int .i64 (.fn .i64 n pR)
def askR8 : SV := .agg [fR 21, fR 22, fR 23, fR 24, fR 25, fR 26, fR 27, fR 28]
def ansR5 : SV := .agg [fR 31, fR 32, fR 33, fR 34, fR 35]
def postT (n : Nat) : List BE := [.le (.lit 0) (.fn .i64 n pR), .le (.fn .i64 n pR) (ln 0), .le (.fn .i64 n pR) (.lit 50)]
def E0 : BE := isN (eE (.rom 0)) 0
def kE (a b : Int) : List BE := [.le (.lit a) (vE (.rom 0)), .le (vE (.rom 0)) (.lit b)]
def preX : List BE := [.not E0]
def preY : List BE := [E0, .not (.le (.lit 1) (vE (.rom 0)))]
def preZ : List BE := [E0, .not (.le (vE (.rom 0)) (.lit 7))]
def rdC (f : Nat) (pre : List BE) : Ctr := ⟨f, [shp, sl0 0], rB, pre, .tup [askR8, fR 29, fR 20], [], 0, postT 29⟩
def cRdX : Ctr := rdC 37 preX
def cRdY : Ctr := rdC 37 preY
def cRdZ : Ctr := rdC 37 preZ
def cRd1 : Ctr := rdC 37 (E0 :: kE 1 1)
def cRd2 : Ctr := rdC 37 (E0 :: kE 2 2)
def cRd3 : Ctr := rdC 37 (E0 :: kE 3 4)
def cRd5 : Ctr := rdC 37 (E0 :: kE 5 6)
def cRd7 : Ctr := rdC 37 (E0 :: kE 7 7)
def cRRdX : Ctr := rdC 38 preX
def cRRdY : Ctr := rdC 38 preY
def cRRdZ : Ctr := rdC 38 preZ
def cRRd1 : Ctr := rdC 38 (E0 :: kE 1 1)
def cRRd2 : Ctr := rdC 38 (E0 :: kE 2 2)
def cRRd3 : Ctr := rdC 38 (E0 :: kE 3 4)
def cRRd5 : Ctr := rdC 38 (E0 :: kE 5 6)
def cRRd7 : Ctr := rdC 38 (E0 :: kE 7 7)
def cTl : Ctr := ⟨39, [shp, sl0 0], rB, [], .tup [ansR5, fR 36, fR 30], [], 0, postT 36⟩
def cRTl : Ctr := ⟨40, [shp, sl0 0], rB, [], .tup [ansR5, fR 36, fR 30], [], 0, postT 36⟩
end
theorem onOk_in {e x b : Int} (h : 0 ≤ x ∧ x ≤ b) (hb : b ≤ 9223372036854775807) : 0 ≤ clampK .i64 (onOk e x) ∧ clampK .i64 (onOk e x) ≤ b := by
 unfold onOk
 split
 ·rw [cl0 (by omega)]; exact h
 ·rw [cl0 (by omega)]; omega
theorem n29 (n l s : Int) (L : LV) : (0 ≤ clampK .i64 (fiR 29 n l s L) ∧ clampK .i64 (fiR 29 n l s L) ≤ 50) ∧ clampK .i64 (fiR 29 n l s L) ≤ (L.length : Int) := by
 have q := q_rng L
 show (0 ≤ clampK .i64 (onOk (askE0 n l s L) (if k17 L then q5 L else q4 L)) ∧ clampK .i64 (onOk (askE0 n l s L) (if k17 L then q5 L else q4 L)) ≤ 50) ∧ clampK .i64 (onOk (askE0 n l s L) (if k17 L then q5 L else q4 L)) ≤ (L.length : Int)
 refine ⟨onOk_in (by split <;> omega) (by omega), ?_⟩
 unfold onOk
 split
 ·rw [cl0 (by split <;> omega)]; split <;> omega
 ·rw [cl0 (by omega)]; omega
theorem n36 (n l s : Int) (L : LV) : (0 ≤ clampK .i64 (fiR 36 n l s L) ∧ clampK .i64 (fiR 36 n l s L) ≤ 50) ∧ clampK .i64 (fiR 36 n l s L) ≤ (L.length : Int) := by
 have q := q_rng L
 show (0 ≤ clampK .i64 (onOk (ansE0 n l s L) (q5 L)) ∧ clampK .i64 (onOk (ansE0 n l s L) (q5 L)) ≤ 50) ∧ clampK .i64 (onOk (ansE0 n l s L) (q5 L)) ≤ (L.length : Int)
 refine ⟨onOk_in (by omega) (by omega), ?_⟩
 unfold onOk
 split
 ·rw [cl0 (by omega)]; omega
 ·rw [cl0 (by omega)]; omega
theorem post_29 {ρ : Rho} (hF : ρ.z.F = Φ) : Holds ρ (postT 29) := by
 have q := n29 (ρ.i .i64 1) (ρ.i .i64 2) (ρ.i .i64 3) (ρ.z.rl 0)
 show Holds ρ [_, _, _]
 simp only [h_nil, h_cons, d_le, IE.den, LE.den, AL.den, pR, aI, xv, ln, lenV, hF, and_true]
 exact ⟨q.1.1, q.2, q.1.2⟩
theorem post_36 {ρ : Rho} (hF : ρ.z.F = Φ) : Holds ρ (postT 36) := by
 have q := n36 (ρ.i .i64 1) (ρ.i .i64 2) (ρ.i .i64 3) (ρ.z.rl 0)
 show Holds ρ [_, _, _]
 simp only [h_nil, h_cons, d_le, IE.den, LE.den, AL.den, pR, aI, xv, ln, lenV, hF, and_true]
 exact ⟨q.1.1, q.2, q.1.2⟩
theorem post_rdC (f : Nat) (pre : List BE) : PostOk Φ (rdC f pre) := fun ρ hF _ => post_29 hF
theorem post_tl39 : PostOk Φ cTl := fun ρ hF _ => post_36 hF
theorem post_tl40 : PostOk Φ cRTl := fun ρ hF _ => post_36 hF
end Go.Proofs.Ythenenacmiiphaa.oct
