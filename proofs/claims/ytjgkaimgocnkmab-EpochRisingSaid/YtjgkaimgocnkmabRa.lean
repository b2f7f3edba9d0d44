/- Layer epoch: the epochs that are later, as a list; the latest. No condition. -/
import Derived.Test.YtjgkaimgocnkmabSv
set_option linter.unusedVariables false
set_option linter.unusedSimpArgs false
set_option linter.deprecated false
namespace Go.Proofs.Ytjgkaimgocnkmab.rise
open Go Go.Proofs.Ytjgkaimgocnkmab.Sx
noncomputable section
def iv (n : Nat) : SV := .int .i64 (.var .i64 n)
def xv (n : Nat) : IE := .var .i64 n
def at1 (l : LV) (i : Int) (j : Nat) : Int := clampK .i64 (intV (celV l i j))
/-- Later. -/
def laterN (a b c d : Int) : Bool := decide (c < a) || (decide (a = c) && decide (d < b))
/-- The greatest of the first n, and n' (none: 0, 0). -/
def latA (l : LV) : Nat → Int × Int
  | 0 => (0, 0)
  | n + 1 => if laterN (at1 l n 0) (at1 l n 1) (latA l n).1 (latA l n).2 then (at1 l n 0, at1 l n 1) else latA l n
/-- The last of those that rise, of the first n + 1. -/
def topI (l : LV) : Nat → Nat
  | 0 => 0
  | n + 1 => if laterN (at1 l ((n + 1 : Nat) : Int) 0) (at1 l ((n + 1 : Nat) : Int) 1) (at1 l (topI l n : Int) 0) (at1 l (topI l n : Int) 1) then n + 1 else topI l n
def isR (l : LV) : Nat → Bool
  | 0 => true
  | n + 1 => laterN (at1 l ((n + 1 : Nat) : Int) 0) (at1 l ((n + 1 : Nat) : Int) 1) (at1 l (topI l n : Int) 0) (at1 l (topI l n : Int) 1)
/-- The places of those that rise, of the first n. -/
def risL (l : LV) : Nat → LV
  | 0 => []
  | n + 1 => if isR l n then risL l n ++ [[.int .i64 (n : Int)]] else risL l n
def fi : Nat → List AV → Int
  | 1, [.lst l] => (latA l l.length).1
  | 2, [.lst l] => (latA l l.length).2
  | _, _ => 0
def fb : Nat → List AV → Bool
  | 1, [.int _ a, .int _ b, .int _ c, .int _ d] => laterN a b c d
  | _, _ => false
def Φ : Fns := ⟨fi, fb, fun _ _ => [], []⟩
def ks2 : List CK := [.int .i64, .int .i64]
def rS : Roms := [(0, (2, ks2))]
def ln (r : Nat) : IE := .len (.rom r)
def sl0 (r : Nat) : SV := .rom r (.lit 0) (.len (.rom r)) none
def latE (a b c d : IE) : BE := .fn 1 (.int .i64 a (.int .i64 b (.int .i64 c (.int .i64 d .nil))))
def cWorks : Ctr := ⟨35, [], [], [], .bool (.lit true), [], 0, []⟩
def cLater : Ctr := ⟨67, [.agg [iv 1, iv 2], .agg [iv 3, iv 4]], [], [], .bool (latE (xv 1) (xv 2) (xv 3) (xv 4)), [], 0, []⟩
/-- How two stand. -/
def ordE : IE := .ite (latE (xv 1) (xv 2) (xv 3) (xv 4)) (.lit 1) (.ite (latE (xv 3) (xv 4) (xv 1) (xv 2)) (.lit (-1)) (.lit 0))
def cRefOrder : Ctr := ⟨34, [.agg [iv 1, iv 2], .agg [iv 3, iv 4]], [], [], .int .i64 ordE, [], 0, []⟩
def lat2 : SV := .agg [.int .i64 (.fn .i64 1 (.lst (.rom 0) .nil)), .int .i64 (.fn .i64 2 (.lst (.rom 0) .nil))]
def cRefLatest : Ctr := ⟨42, [sl0 0], rS, [], lat2, [], 0, []⟩
def cLatest : Ctr := ⟨41, [sl0 0], rS, [], lat2, [], 0, []⟩
def cLaw : Ctr := ⟨10, [.rom 0 (.lit 0) (.len (.rom 0)) none, iv 1], rS, [.le (.lit 1) (.len (.rom 0))], .bool (.lit true), [], 0, []⟩
def cLaw0 : Ctr := ⟨10, [.rom 0 (.lit 0) (.lit 0) none, iv 1], rS, [], .bool (.lit true), [], 0, []⟩
end
theorem pi1 (l : LV) : Φ.i 1 [.lst l] = (latA l l.length).1 := rfl
theorem pi2 (l : LV) : Φ.i 2 [.lst l] = (latA l l.length).2 := rfl
theorem pb1 (a b c d : Int) : Φ.b 1 [.int .i64 a, .int .i64 b, .int .i64 c, .int .i64 d] = laterN a b c d := rfl
theorem later_iff (a b c d : Int) : (laterN a b c d = true) = (c < a ∨ (a = c ∧ d < b)) := by simp [laterN]
theorem lat_s {l : LV} {i : Int} (h : 0 ≤ i) : latA l (i + 1).toNat = if laterN (clampK .i64 (intV (celV l i 0))) (clampK .i64 (intV (celV l i 1))) (latA l i.toNat).1 (latA l i.toNat).2 then (clampK .i64 (intV (celV l i 0)), clampK .i64 (intV (celV l i 1))) else latA l i.toNat := by
  rw [show (i + 1).toNat = i.toNat + 1 by omega, latA]
  simp only [at1, Int.toNat_of_nonneg h]
theorem clamp_in (ρ : Rho) (h : ρ.Ok) {n : Nat} : clampK .i64 (ρ.i .i64 n) = ρ.i .i64 n := by
  unfold clampK; rw [if_pos ⟨h.lo .i64 n, h.hi .i64 n⟩]
theorem ord_le {a b c d : Int} (h : (if laterN a b c d = true then (1 : Int) else if laterN c d a b = true then -1 else 0) ≤ 0) : ¬ laterN a b c d = true := by
  intro e; rw [if_pos e] at h; omega
theorem ord_gt {a b c d : Int} (h : ¬ (if laterN a b c d = true then (1 : Int) else if laterN c d a b = true then -1 else 0) ≤ 0) : laterN a b c d = true := by
  by_cases e : laterN a b c d = true
  · exact e
  · rw [if_neg e] at h; exact absurd (by split <;> omega) h
theorem top_s (l : LV) (n : Nat) : topI l (n + 1) = if isR l (n + 1) then n + 1 else topI l n := rfl
theorem top_le (l : LV) : ∀ n, topI l n ≤ n
  | 0 => Nat.le_refl _
  | n + 1 => by
    have := top_le l n
    rw [top_s]; split <;> omega
theorem ris_pre (l : LV) : ∀ {n m : Nat}, n ≤ m → ∃ t, risL l m = risL l n ++ t
  | n, 0, h => ⟨[], by rw [show n = 0 by omega]; simp [risL]⟩
  | n, m + 1, h => by
    by_cases e : n = m + 1
    · exact ⟨[], by rw [e]; simp⟩
    · obtain ⟨t, ht⟩ := ris_pre l (show n ≤ m by omega)
      simp only [risL]
      split
      · exact ⟨t ++ [[.int .i64 (m : Int)]], by rw [ht, List.append_assoc]⟩
      · exact ⟨t, ht⟩
theorem ris_at {l : LV} {j m : Nat} (h : isR l j = true) (hm : j < m) : (risL l m)[(risL l j).length]? = some [.int .i64 (j : Int)] := by
  obtain ⟨t, ht⟩ := ris_pre l (show j + 1 ≤ m by omega)
  rw [ht, risL, if_pos h, List.append_assoc, List.getElem?_append_right (Nat.le_refl _), Nat.sub_self]
  rfl
theorem ris_lt {l : LV} {j m : Nat} (h : isR l j = true) (hm : j < m) : (risL l j).length < (risL l m).length := by
  obtain ⟨t, ht⟩ := ris_pre l (show j + 1 ≤ m by omega)
  rw [ht, risL, if_pos h]
  simp
theorem ris_last (l : LV) : ∀ n, ∃ t, risL l (n + 1) = t ++ [[.int .i64 (topI l n : Int)]]
  | 0 => ⟨[], by simp [risL, isR, topI]⟩
  | n + 1 => by
    obtain ⟨t, ht⟩ := ris_last l n
    rw [risL, top_s]
    split
    · exact ⟨_, rfl⟩
    · exact ⟨t, ht⟩
theorem clampS {x : Int} (h : 0 ≤ x) (h2 : x ≤ 1000000) : clampK .i64 x = x := by
  unfold clampK
  rw [if_pos]
  exact ⟨by show (-9223372036854775808 : Int) ≤ _; omega, by show _ ≤ (9223372036854775807 : Int); omega⟩
theorem cel_of {l : LV} {n : Nat} {x : Int} (h : l[n]? = some [.int .i64 x]) (h0 : 0 ≤ x) (h1 : x ≤ 1000000) : clampK .i64 (intV (celV l (n : Int) 0)) = x := by
  have g : l.getD n [] = [.int .i64 x] := by rw [List.getD_eq_getElem?_getD, h]; rfl
  have c : celV l (n : Int) 0 = .int .i64 x := by
    unfold celV
    rw [Int.toNat_natCast, g]; rfl
  rw [c]; exact clampS h0 h1
theorem ris_lastc {R l : LV} {I X : Int} (h : l = risL R I.toNat) (h1 : 1 ≤ I) (hI : I ≤ (R.length : Int)) (hm : (R.length : Int) ≤ 60) (hx : X = (l.length : Int)) : clampK .i64 (intV (celV l (X - 1) 0)) = (topI R (I.toNat - 1) : Int) := by
  obtain ⟨n, rfl⟩ : ∃ n : Nat, I = ((n + 1 : Nat) : Int) := ⟨I.toNat - 1, by omega⟩
  rw [Int.toNat_natCast] at h ⊢
  obtain ⟨t, ht⟩ := ris_last R n
  rw [ht] at h
  subst h hx
  have e : ((t ++ [[Value.int .i64 (topI R n : Int)]]).length : Int) - 1 = (t.length : Int) := by simp
  rw [e, Nat.add_sub_cancel]
  have := top_le R n
  exact cel_of (by simp) (by omega) (by omega)
theorem isR_eq {R : LV} {I : Int} (h1 : 1 ≤ I) : isR R I.toNat = laterN (clampK .i64 (intV (celV R I 0))) (clampK .i64 (intV (celV R I 1))) (at1 R (topI R (I.toNat - 1) : Int) 0) (at1 R (topI R (I.toNat - 1) : Int) 1) := by
  obtain ⟨n, rfl⟩ : ∃ n : Nat, I = ((n + 1 : Nat) : Int) := ⟨I.toNat - 1, by omega⟩
  rw [Int.toNat_natCast, Nat.add_sub_cancel]; rfl
theorem ris_more {R : LV} {J : Int} (hJ : 0 ≤ J) (hb : isR R J.toNat = true) : risL R (J + 1).toNat = risL R J.toNat ++ [[.int .i64 J]] := by
  obtain ⟨j, rfl⟩ : ∃ j : Nat, J = (j : Int) := ⟨J.toNat, by omega⟩
  rw [Int.toNat_natCast] at hb ⊢
  rw [show ((j : Int) + 1).toNat = j + 1 by omega, risL, if_pos hb]
theorem ris_skip {R : LV} {J : Int} (hJ : 0 ≤ J) (hb : ¬ isR R J.toNat = true) : risL R (J + 1).toNat = risL R J.toNat := by
  obtain ⟨j, rfl⟩ : ∃ j : Nat, J = (j : Int) := ⟨J.toNat, by omega⟩
  rw [Int.toNat_natCast] at hb ⊢
  rw [show ((j : Int) + 1).toNat = j + 1 by omega, risL, if_neg hb]
theorem ris_end {R : LV} {J : Int} (h1 : J ≤ (R.length : Int)) (h2 : (R.length : Int) ≤ J) : risL R R.length = risL R J.toNat := by
  rw [show J.toNat = R.length by omega]
theorem ris_step {R l : LV} {J N X : Int} (h1 : l = risL R R.length) (h2 : N = ((risL R J.toNat).length : Int)) (hx : X = (l.length : Int)) (hJ : 0 ≤ J) (hl : J < (R.length : Int)) (hm : (R.length : Int) ≤ 60) (hb : isR R J.toNat = true) :
    N < X ∧ clampK .i64 (intV (celV l N 0)) = J ∧ ((risL R (J + 1).toNat).length : Int) = N + 1 := by
  have e := ris_more hJ hb
  obtain ⟨j, rfl⟩ : ∃ j : Nat, J = (j : Int) := ⟨J.toNat, by omega⟩
  rw [Int.toNat_natCast] at h2 hb e
  have a := ris_at (m := R.length) hb (by omega)
  have b := ris_lt (m := R.length) hb (by omega)
  subst h1 h2 hx
  refine ⟨by omega, cel_of a (by omega) (by omega), ?_⟩
  rw [e]; simp
/-- What was the last one that rose, ahead of place J. -/
def lastP (R : LV) (J x y : Int) : Prop := 1 ≤ J → x = at1 R (topI R (J.toNat - 1) : Int) 0 ∧ y = at1 R (topI R (J.toNat - 1) : Int) 1
theorem last_yes {R : LV} {J : Int} (hJ : 0 ≤ J) (hb : isR R J.toNat = true) : lastP R (J + 1) (clampK .i64 (intV (celV R J 0))) (clampK .i64 (intV (celV R J 1))) := by
  intro _
  obtain ⟨j, rfl⟩ : ∃ j : Nat, J = (j : Int) := ⟨J.toNat, by omega⟩
  rw [Int.toNat_natCast] at hb
  rw [show ((j : Int) + 1).toNat - 1 = j by omega]
  have : topI R j = j := by
    cases j with
    | zero => rfl
    | succ n => rw [top_s, if_pos hb]
  rw [this]; exact ⟨rfl, rfl⟩
theorem last_no {R : LV} {J x y : Int} (hJ : 1 ≤ J) (hb : ¬ isR R J.toNat = true) (h : lastP R J x y) : lastP R (J + 1) x y := by
  intro _
  obtain ⟨j, rfl⟩ : ∃ j : Nat, J = ((j + 1 : Nat) : Int) := ⟨J.toNat - 1, by omega⟩
  have h := h hJ
  rw [Int.toNat_natCast] at hb h
  rw [show (((j + 1 : Nat) : Int) + 1).toNat - 1 = j + 1 by omega, top_s, if_neg hb]
  exact h
theorem is_of {R : LV} {J x y : Int} (hJ : 1 ≤ J) (h : lastP R J x y) : isR R J.toNat = laterN (clampK .i64 (intV (celV R J 0))) (clampK .i64 (intV (celV R J 1))) x y := by
  rw [isR_eq hJ, (h hJ).1, (h hJ).2]
theorem is_zero {R : LV} {J : Int} (hJ : 0 ≤ J) (h0 : J ≤ 0) : isR R J.toNat = true := by rw [show J.toNat = 0 by omega]; rfl
theorem beq_of {a b : Bool} (h : (a = true) ↔ (b = true)) : a = b := Bool.eq_iff_iff.2 h
theorem told_law0' : True := trivial
theorem odd_ok : OddOk Φ := fun n a h => Typed.nil _
end Go.Proofs.Ytjgkaimgocnkmab.rise
