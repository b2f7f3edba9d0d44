/- Layer stat: those that are pending, as a list. No condition. -/
import Derived.Test.YtjgkaimgocnkmabFf
set_option linter.unusedVariables false
set_option linter.unusedSimpArgs false
set_option linter.deprecated false
namespace Go.Proofs.Ytjgkaimgocnkmab.pend
open Go Go.Proofs.Ytjgkaimgocnkmab.Sx
noncomputable section
def iv (n : Nat) : SV := .int .i64 (.var .i64 n)
def xv (n : Nat) : IE := .var .i64 n
def atB (l : LV) (i : Int) (j : Nat) : Bool := boolV (celV l i j)
/-- The places of those that are pending, of the first so many. -/
def pendL (l : LV) : Nat → LV
  | 0 => []
  | n + 1 => if atB l (n : Int) 1 then pendL l n ++ [[.int .i64 (n : Int)]] else pendL l n
def Φ : Fns := ⟨fun _ _ => 0, fun _ _ => false, fun _ _ => [], []⟩
def rS : Roms := [(0, (4, [.int .i64, .bool, .int .i64, .int .i64]))]
def cWorks : Ctr := ⟨19, [], [], [], .bool (.lit true), [], 0, []⟩
def ln (r : Nat) : IE := .len (.rom r)
/-- The law, over a list that is not empty; over an empty one. -/
def cLaw : Ctr := ⟨6, [.rom 0 (.lit 0) (.len (.rom 0)) none, iv 1], rS, [.le (.lit 1) (.len (.rom 0))], .bool (.lit true), [], 0, []⟩
def cLaw0 : Ctr := ⟨6, [.rom 0 (.lit 0) (.lit 0) none, iv 1], rS, [], .bool (.lit true), [], 0, []⟩
end
theorem told_works : Sx.Told Φ cWorks := told_auto (cs := []) all_nil 4000 (by kernel_rfl) (by kernel_rfl) (by kernel_rfl) (post_nil rfl) (by kernel_rfl) (by kernel_rfl)
theorem told_law0 : Sx.Told Φ cLaw0 := told_auto (cs := [cWorks]) (all_cons told_works all_nil) 4000 (by kernel_rfl) (by kernel_rfl) (by kernel_rfl) (post_nil rfl) (by kernel_rfl) (by kernel_rfl)
theorem odd_ok : OddOk Φ := fun n a h => Typed.nil _
theorem pend_le (l : LV) : ∀ n, (pendL l n).length ≤ n
  | 0 => by simp [pendL]
  | n + 1 => by
    have := pend_le l n
    unfold pendL; split
    · simp; omega
    · omega
theorem pend_pre (l : LV) : ∀ {n m : Nat}, n ≤ m → ∃ t, pendL l m = pendL l n ++ t
  | n, 0, h => ⟨[], by rw [show n = 0 by omega]; simp [pendL]⟩
  | n, m + 1, h => by
    by_cases e : n = m + 1
    · exact ⟨[], by rw [e]; simp⟩
    · obtain ⟨t, ht⟩ := pend_pre l (show n ≤ m by omega)
      simp only [pendL]
      split
      · exact ⟨t ++ [[.int .i64 (m : Int)]], by rw [ht, List.append_assoc]⟩
      · exact ⟨t, ht⟩
theorem pend_at {l : LV} {j m : Nat} (h : atB l (j : Int) 1 = true) (hm : j < m) : (pendL l m)[(pendL l j).length]? = some [.int .i64 (j : Int)] := by
  obtain ⟨t, ht⟩ := pend_pre l (show j + 1 ≤ m by omega)
  rw [ht, pendL, if_pos h, List.append_assoc, List.getElem?_append_right (Nat.le_refl _), Nat.sub_self]
  rfl
theorem pend_lt {l : LV} {j m : Nat} (h : atB l (j : Int) 1 = true) (hm : j < m) : (pendL l j).length < (pendL l m).length := by
  obtain ⟨t, ht⟩ := pend_pre l (show j + 1 ≤ m by omega)
  rw [ht, pendL, if_pos h]
  simp
theorem pend_mono (l : LV) {n m : Nat} (h : n ≤ m) : (pendL l n).length ≤ (pendL l m).length := by
  obtain ⟨t, ht⟩ := pend_pre l h
  rw [ht]; simp
theorem clamp_id {k : IntKind} {n : Int} (h : kmin k ≤ n ∧ n ≤ kmax k) : clampK k n = n := by unfold clampK; rw [if_pos h]
theorem pend_step {R l : LV} {J N X : Int} (h1 : l = pendL R R.length) (h2 : N = ((pendL R J.toNat).length : Int)) (hx : X = (l.length : Int)) (hJ : 0 ≤ J) (hl : J < (R.length : Int)) (hm : (R.length : Int) ≤ 300) (hb : boolV (celV R J 1) = true) :
    N < X ∧ clampK .i64 (intV (celV l N 0)) = J ∧ ((pendL R (J + 1).toNat).length : Int) = N + 1 := by
  obtain ⟨j, rfl⟩ : ∃ j : Nat, J = (j : Int) := ⟨J.toNat, by omega⟩
  rw [Int.toNat_natCast] at h2
  have hj : j < R.length := by omega
  have a := pend_at (m := R.length) (show atB R (j : Int) 1 = true from hb) hj
  have b := pend_lt (m := R.length) (show atB R (j : Int) 1 = true from hb) hj
  subst h1 h2 hx
  refine ⟨by omega, ?_, ?_⟩
  · have c : celV (pendL R R.length) ((pendL R j).length : Int) 0 = .int .i64 (j : Int) := by
      have g : (pendL R R.length).getD (pendL R j).length [] = [.int .i64 (j : Int)] := by rw [List.getD_eq_getElem?_getD, a]; rfl
      unfold celV
      rw [Int.toNat_natCast, g]; rfl
    rw [c]
    exact clamp_id (k := .i64) (n := (j : Int)) ⟨by show (-9223372036854775808 : Int) ≤ (j : Int); omega, by show (j : Int) ≤ (9223372036854775807 : Int); omega⟩
  · rw [show ((j : Int) + 1).toNat = j + 1 by omega, pendL, if_pos (show atB R (j : Int) 1 = true from hb)]
    simp
theorem pend_skip {R : LV} {J : Int} (hJ : 0 ≤ J) (hb : ¬ boolV (celV R J 1) = true) : pendL R (J + 1).toNat = pendL R J.toNat := by
  obtain ⟨j, rfl⟩ : ∃ j : Nat, J = (j : Int) := ⟨J.toNat, by omega⟩
  rw [show ((j : Int) + 1).toNat = j + 1 by omega, pendL, if_neg (show ¬ atB R (j : Int) 1 = true from hb), Int.toNat_natCast]
theorem pend_more {R : LV} {J : Int} (hJ : 0 ≤ J) (hb : boolV (celV R J 1) = true) : pendL R (J + 1).toNat = pendL R J.toNat ++ [[.int .i64 J]] := by
  obtain ⟨j, rfl⟩ : ∃ j : Nat, J = (j : Int) := ⟨J.toNat, by omega⟩
  rw [show ((j : Int) + 1).toNat = j + 1 by omega, pendL, if_pos (show atB R (j : Int) 1 = true from hb), Int.toNat_natCast]
theorem pend_end {R : LV} {J : Int} (h1 : J ≤ (R.length : Int)) (h2 : (R.length : Int) ≤ J) : pendL R R.length = pendL R J.toNat := by
  rw [show J.toNat = R.length by omega]
theorem pend_any {R : LV} {J : Int} (hJ : 0 ≤ J) (hl : J < (R.length : Int)) (hb : boolV (celV R J 1) = true) (he : pendL R R.length = []) : False := by
  obtain ⟨j, rfl⟩ : ∃ j : Nat, J = (j : Int) := ⟨J.toNat, by omega⟩
  have b := pend_lt (m := R.length) (show atB R (j : Int) 1 = true from hb) (by omega)
  rw [he] at b
  simp at b
end Go.Proofs.Ytjgkaimgocnkmab.pend
