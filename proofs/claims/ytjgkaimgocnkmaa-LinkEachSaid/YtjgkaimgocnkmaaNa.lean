/- Layer link: what is taken, by the document. No condition. -/
import Derived.Test.YtjgkaimgocnkmaaMc
set_option linter.unusedVariables false
set_option linter.unusedSimpArgs false
set_option linter.deprecated false
namespace Go.Proofs.Ytjgkaimgocnkmaa.lnk
open Go Go.Proofs.Ytjgkaimgocnkmaa.Sx
noncomputable section
def cStampR : Ctr := ⟨70, [.agg [iv 1, iv 2]], [], [], .bool (fStamp (xv 1) (xv 2)), [], 0, []⟩
def cRRight : Ctr := ⟨43, [pLink 1 0], r2, [], .bool (rightC 1 0), [], 0, []⟩
def fIs (l : LE) : BE := .fn 2 (.lst l .nil)
def postT : List BE := [fIs setI]
def cRTakeA : Ctr := ⟨55, pT, r2, preT ++ [.not (.le (xv 3) (cI (xv 2) 0))], resT setI true, [rO' rom0 0, rI' setI 2], 4, postT⟩
def cRTakeB : Ctr := ⟨55, pT, r2, preT ++ [.eq (xv 3) (cI (xv 2) 0), .not (.le (xv 4) (cI (xv 2) 1))], resT setI true, [rO' rom0 0, rI' setI 2], 4, postT⟩
def cRTakeC : Ctr := ⟨55, pT, r2, preT ++ [.eq (xv 3) (cI (xv 2) 0), .le (xv 4) (cI (xv 2) 1)], resT rom1 false, [rO' rom0 0, rI' rom1 2], 4, []⟩
def cRTakeD : Ctr := ⟨55, pT, r2, preT ++ [.not (.le (cI (xv 2) 0) (xv 3))], resT rom1 false, [rO' rom0 0, rI' rom1 2], 4, []⟩
def r3 : Roms := [(0, (1, kO)), (1, (2, kI)), (2, (2, kI))]
def pE : List SV := [pLink 1 0, sl0 2, .agg [iv 2, iv 3]]
def pE0 : List SV := [pLink 1 0, .rom 2 (.lit 0) (.lit 0) none, .agg [iv 2, iv 3]]
def cEach : Ctr := ⟨13, pE, r3, [.le (.lit 1) (lnR 2)], .bool (.lit true), [], 0, []⟩
def cEach0 : Ctr := ⟨13, pE0, r3, [], .bool (.lit true), [], 0, []⟩
end
theorem cel_set_ne {R : LV} {k i : Nat} {e : List Value} {j : Nat} (h : ¬ i = k) : celV (R.set k e) (i : Int) j = celV R (i : Int) j := by
  have q : (R.set k e).getD (i : Int).toNat [] = R.getD (i : Int).toNat [] := by
    rw [List.getD_eq_getElem?_getD, List.getD_eq_getElem?_getD, Int.toNat_natCast, List.getElem?_set_ne (by omega)]
  unfold celV
  rw [q]
theorem cel_set_eq {R : LV} {k : Nat} {e : List Value} {j : Nat} (h : k < R.length) : celV (R.set k e) (k : Int) j = e.getD j (.bool false) := by
  have q : (R.set k e).getD (k : Int).toNat [] = e := by
    rw [List.getD_eq_getElem?_getD, Int.toNat_natCast, List.getElem?_set_self h]; rfl
  unfold celV
  rw [q]
def pairE (a b : Int) : List Value := [.int .i64 a, .int .i64 b]
theorem in_of {a b : Int} (h : stampN a b = true) : inN a b = true := by rw [inN, h, Bool.or_true]
theorem set_in {R : LV} {k : Nat} {a b : Int} (hk : k < R.length) (hs : stampN a b = true) : Sx.atI (R.set k (pairE a b)) k 0 = a ∧ Sx.atI (R.set k (pairE a b)) k 1 = b := by
  have hs' := hs
  rw [stamp_iff] at hs'
  refine ⟨?_, ?_⟩
  · unfold Sx.atI
    rw [cel_set_eq hk]
    show clampK .i64 a = a
    exact clampS (by omega) (by omega)
  · unfold Sx.atI
    rw [cel_set_eq hk]
    show clampK .i64 b = b
    exact clampS (by omega) (by omega)
theorem set_ne {R : LV} {k i j : Nat} {e : List Value} (h : ¬ i = k) : Sx.atI (R.set k e) i j = Sx.atI R i j := by
  unfold Sx.atI
  rw [cel_set_ne h]
theorem set_right {R : LV} {k : Nat} {a b : Int} (hk : k < R.length) (hr : Sx.allP (pI R) R.length = true) (hs : stampN a b = true) : Sx.allP (pI (R.set k (pairE a b))) (R.set k (pairE a b)).length = true := by
  rw [List.length_set]
  refine all_of fun i hi => ?_
  unfold pI
  by_cases c : i = k
  · subst c
    rw [(set_in hk hs).1, (set_in hk hs).2]; exact in_of hs
  · rw [set_ne c, set_ne c]; exact all_at hr hi
theorem post_take (ρ : Rho) (hF : ρ.z.F = Φ) (pre : List BE) (hp : Holds ρ (preT ++ pre)) : Holds ρ postT := by
  have h1 : Holds ρ preT := fun p h => hp p (List.mem_append_left _ h)
  simp only [preT, rightL, inR, fI, fO, fStamp, List.cons_append, List.nil_append, h_nil, h_cons, d_le, d_eq, d_not, d_fn, IE.den, LE.den, AL.den, lnR, lenV, xv, hF, pb2, pb4, and_true] at h1
  obtain ⟨_, _, _, _, h5, _, h7, h8, h9, h10⟩ := h1
  have g := set_right (R := ρ.z.rl 1) (k := (ρ.i .i64 2).toNat) (by omega) h7 h8
  show Holds ρ [_]
  simp only [fIs, setI, rom1, h_nil, h_cons, d_le, d_eq, d_fn, IE.den, LE.den, AL.den, AV.cell, lnR, lenV, xv, hF, pb2, and_true]
  exact g
theorem post_rA : PostOk Φ cRTakeA := fun ρ hF hp => post_take ρ hF _ hp
theorem post_rB : PostOk Φ cRTakeB := fun ρ hF hp => post_take ρ hF _ hp
end Go.Proofs.Ytjgkaimgocnkmaa.lnk
