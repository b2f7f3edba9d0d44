/- Layer hold: the hold of a site, told in three parts. No condition. -/
import Derived.Test.YteblnjgghbclpaaDoorHj
set_option linter.unusedVariables false
set_option linter.unusedSimpArgs false
set_option linter.deprecated false
namespace Go.Proofs.YteblnjgghbclpaaDoor.hold
open Go Go.Proofs.YteblnjgghbclpaaDoor.Sx
noncomputable section
def celF (j : Nat) : SV := .int .i64 (.cel .i64 (.rom 0) F2 j)
def zI : SV := .int .i64 (.lit 0)
def zH : SV := .agg [zI, zI, zI]
def cFindIn : Ctr := ⟨47, [sl0 0, iv 1], r3, [million, rightF (.rom 0), .not (.le (ln 0) F2)], .tup [.agg [celF 0, celF 1, celF 2], .bool (.lit true)], [], 0, [.le (.lit 0) F2, .le F2 (ln 0)]⟩
def cFindOut : Ctr := ⟨47, [sl0 0, iv 1], r3, [million, rightF (.rom 0), .le (ln 0) F2], .tup [zH, .bool (.lit false)], [], 0, []⟩
def cFindN : Ctr := ⟨47, [sl0 0, iv 1], r3, [million, .not (rightF (.rom 0))], .tup [zH, .bool (.lit false)], [], 0, []⟩
def cFitsA : Ctr := ⟨78, [.agg [sl0 0], iv 1], r3, [rightF (.rom 0), .le (.lit 0) (xv 1), .le (xv 1) (.lit 5), .le (ln 0) (.lit 999999)], .bool F5, [], 0, []⟩
end
theorem post_findIn : PostOk Φ cFindIn := by
  intro ρ hF hp
  have hm := pre_m hp (by simp [cFindIn])
  have h := first_le (fun i => decide (atI (ρ.z.rl 0) i 0 = ρ.i .i64 1)) (ρ.z.rl 0).length
  show Holds ρ [_, _]
  simp only [h_nil, h_cons, d_le, IE.den, LE.den, AL.den, F2, ln, lenV, xv, hF, pi2, and_true]
  rw [clampS (by omega) (by unfold findN; omega)]
  unfold findN; omega
theorem ris_at {l : LV} {n k : Nat} (h : risN l n = true) (hk : k < n) : mayAt l k = true ∧ (k = 0 ∨ atI l (k - 1) 0 < atI l k 0) := by
  have := ris_le (show k + 1 ≤ n by omega) h
  simp only [risN, Bool.and_eq_true, Bool.or_eq_true, decide_eq_true_eq] at this
  exact this.2
theorem ris_lt {l : LV} {n : Nat} (h : risN l n = true) {i : Nat} : ∀ {k : Nat}, i < k → k < n → atI l i 0 < atI l k 0
  | k + 1, hi, hk => by
    have h1 := (ris_at h hk).2
    rw [Nat.add_sub_cancel] at h1
    have h1 : atI l k 0 < atI l (k + 1) 0 := by omega
    by_cases e : i = k
    · rw [e]; exact h1
    · have := ris_lt h (i := i) (k := k) (by omega) (by omega); omega
theorem right_ris {R : LV} (h : rightL R = true) : risN R R.length = true ∧ togN R 2 R.length = true := by
  rw [rightL, Bool.and_eq_true] at h; exact h
/-- Behind a greater site there is none. -/
theorem find_gt {R : LV} {i s : Int} (hr : rightL R = true) (h0 : 0 ≤ i) (hl : i < (R.length : Int)) (hi : findN R s i.toNat = i.toNat) (hg : s < clampK .i64 (intV (celV R i 0))) : (findN R s R.length : Int) = (R.length : Int) := by
  have e : findN R s R.length = R.length := by
    refine first_none fun k hk => ?_
    rw [at_z h0] at hg
    simp only [decide_eq_false_iff_not]
    by_cases c : k < i.toNat
    · have := first_lt (p := fun k => decide (atI R k 0 = s)) (n := i.toNat) (i := k) (by unfold findN at hi; omega)
      simpa using this
    · by_cases c2 : k = i.toNat
      · rw [c2]; omega
      · have := ris_lt (right_ris hr).1 (i := i.toNat) (k := k) (by omega) hk; omega
  rw [e]
/-- A writer is alone. -/
theorem writer_one {R : LV} (hr : rightL R = true) {i k : Nat} (hi : i < R.length) (hk : k < R.length) (h : atI R i 2 = 5) : k = i := by
  have ht := (right_ris hr).2
  have hm : ∀ {a : Nat}, a < R.length → 1 ≤ atI R a 2 := fun {a} ha => by
    have := (ris_at (right_ris hr).1 ha).1
    rw [mayAt, may_iff] at this; omega
  rcases Nat.lt_trichotomy k i with c | c | c
  · have g := tog_at hi c ht
    have := hm hk
    rw [h] at g
    rw [fits_iff] at g
    omega
  · exact c
  · have g := tog_at hk c ht
    have := hm hk
    rw [h] at g
    rw [fits_iff] at g
    omega
end Go.Proofs.YteblnjgghbclpaaDoor.hold
