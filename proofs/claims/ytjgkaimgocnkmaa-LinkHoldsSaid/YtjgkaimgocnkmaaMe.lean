/- Layer link: what is sent, stamp by stamp. No condition. -/
import Derived.Test.YtjgkaimgocnkmaaMc
set_option linter.unusedVariables false
set_option linter.unusedSimpArgs false
set_option linter.deprecated false
namespace Go.Proofs.Ytjgkaimgocnkmaa.lnk
open Go Go.Proofs.Ytjgkaimgocnkmaa.Sx
def bO (R : LV) (n : Nat) : Bool := boolV (celV R (n : Int) 0)
/-- The link behind so many stamps: its life, the last number. -/
def stL (R : LV) : Nat → Int × Int
  | 0 => (1, 0)
  | n + 1 => if bO R n then ((stL R n).1 + 1, 0) else ((stL R n).1, (stL R n).2 + 1)
def rowS (R : LV) (k : Nat) : List Value := [.int .i64 (stL R k).1, .int .i64 ((stL R k).2 + 1)]
def sentP (R : LV) : Nat → LV
  | 0 => []
  | n + 1 => sentP R n ++ [rowS R n]
def outP (x : Int) : LV := [[.int .i64 0], [.int .i64 0], [.int .i64 x]]
def inP (R : LV) (k : Nat) : LV := [[.int .i64 0, .int .i64 0], rowS R k, [.int .i64 0, .int .i64 0]]
theorem st_t {R : LV} {n : Nat} (h : bO R n = true) : stL R (n + 1) = ((stL R n).1 + 1, 0) := by rw [stL, if_pos h]
theorem st_f {R : LV} {n : Nat} (h : ¬ bO R n = true) : stL R (n + 1) = ((stL R n).1, (stL R n).2 + 1) := by rw [stL, if_neg h]
theorem st_rng (R : LV) : ∀ n, 1 ≤ (stL R n).1 ∧ (stL R n).1 ≤ n + 1 ∧ 0 ≤ (stL R n).2 ∧ (stL R n).2 ≤ n
  | 0 => ⟨by simp [stL], by simp [stL], by simp [stL], by simp [stL]⟩
  | n + 1 => by
    have := st_rng R n
    by_cases h : bO R n = true
    · rw [st_t h]; refine ⟨?_, ?_, ?_, ?_⟩ <;> simp <;> omega
    · rw [st_f h]; refine ⟨?_, ?_, ?_, ?_⟩ <;> simp <;> omega
theorem st_lt (R : LV) {j : Nat} : ∀ {k : Nat}, j < k → (stL R j).1 < (stL R k).1 ∨ ((stL R j).1 = (stL R k).1 ∧ (stL R j).2 < (stL R k).2)
  | k + 1, hj => by
    have h0 : (stL R j).1 < (stL R k).1 ∨ ((stL R j).1 = (stL R k).1 ∧ (stL R j).2 ≤ (stL R k).2) := by
      by_cases e : j = k
      · rw [e]; exact .inr ⟨rfl, Int.le_refl _⟩
      · have := st_lt R (j := j) (k := k) (by omega); omega
    by_cases h : bO R k = true
    · rw [st_t h]; simp; omega
    · rw [st_f h]; simp; omega
theorem sent_len (R : LV) : ∀ n, (sentP R n).length = n
  | 0 => rfl
  | n + 1 => by simp [sentP, sent_len R n]
theorem sent_get (R : LV) : ∀ {n i : Nat}, i < n → (sentP R n)[i]? = some (rowS R i)
  | n + 1, i, hi => by
    rw [sentP]
    by_cases e : i = n
    · subst e
      rw [List.getElem?_append_right (by rw [sent_len]; exact Nat.le_refl _), sent_len, Nat.sub_self]; rfl
    · rw [List.getElem?_append_left (by rw [sent_len]; omega)]
      exact sent_get R (by omega)
theorem sent_cel {R : LV} {n : Nat} {x : Int} (h0 : 0 ≤ x) (hx : x < (n : Int)) (hn : n ≤ 40) : clampK .i64 (intV (celV (sentP R n) x 0)) = (stL R x.toNat).1 ∧ clampK .i64 (intV (celV (sentP R n) x 1)) = (stL R x.toNat).2 + 1 := by
  have g : (sentP R n).getD x.toNat [] = rowS R x.toNat := by rw [List.getD_eq_getElem?_getD, sent_get R (by omega)]; rfl
  have c0 : celV (sentP R n) x 0 = .int .i64 (stL R x.toNat).1 := by unfold celV; rw [g]; rfl
  have c1 : celV (sentP R n) x 1 = .int .i64 ((stL R x.toNat).2 + 1) := by unfold celV; rw [g]; rfl
  have := st_rng R x.toNat
  rw [c0, c1]
  exact ⟨clampS (by show 0 ≤ (stL R x.toNat).1; omega) (by show (stL R x.toNat).1 ≤ _; omega), clampS (by show 0 ≤ (stL R x.toNat).2 + 1; omega) (by show (stL R x.toNat).2 + 1 ≤ _; omega)⟩
theorem in_cel {R : LV} {k : Nat} (hk : k ≤ 40) : clampK .i64 (intV (celV (inP R k) 1 0)) = (stL R k).1 ∧ clampK .i64 (intV (celV (inP R k) 1 1)) = (stL R k).2 + 1 := by
  have := st_rng R k
  exact ⟨clampS (by show 0 ≤ (stL R k).1; omega) (by show (stL R k).1 ≤ _; omega), clampS (by show 0 ≤ (stL R k).2 + 1; omega) (by show (stL R k).2 + 1 ≤ _; omega)⟩
theorem out_cel {x : Int} (h : 0 ≤ x ∧ x ≤ 40) : clampK .i64 (intV (celV (outP x) 2 0)) = x := clampS (by show 0 ≤ x; omega) (by show x ≤ _; omega)
theorem out_ok {x : Int} (h : 0 ≤ x ∧ x ≤ 100) : Sx.allP (pO (outP x)) (outP x).length = true := by
  have e : Sx.atI (outP x) 2 0 = x := clampS (by show 0 ≤ x; omega) (by show x ≤ _; omega)
  have e2 : outN x = true := by rw [out_iff]; omega
  show (((true && outN (Sx.atI (outP x) 0 0)) && outN (Sx.atI (outP x) 1 0)) && outN (Sx.atI (outP x) 2 0)) = true
  rw [e, e2]; rfl
theorem in_ok {R : LV} {k : Nat} (hk : k ≤ 40) : Sx.allP (pI (inP R k)) (inP R k).length = true := by
  have := st_rng R k
  have e := in_cel (R := R) hk
  have e0 : Sx.atI (inP R k) 1 0 = (stL R k).1 := e.1
  have e1 : Sx.atI (inP R k) 1 1 = (stL R k).2 + 1 := e.2
  have e2 : inN (stL R k).1 ((stL R k).2 + 1) = true := by rw [in_iff]; omega
  show (((true && inN (Sx.atI (inP R k) 0 0) (Sx.atI (inP R k) 0 1)) && inN (Sx.atI (inP R k) 1 0) (Sx.atI (inP R k) 1 1)) && inN (Sx.atI (inP R k) 2 0) (Sx.atI (inP R k) 2 1)) = true
  rw [e0, e1, e2]; rfl
structure Inv (R : LV) (inc : Int) (o s : LV) (n : Nat) : Prop where
  inc : inc = (stL R n).1
  out : o = outP (stL R n).2
  sent : s = sentP R n
theorem inv_0 (R : LV) : Inv R 1 (outP 0) [] 0 := ⟨rfl, rfl, rfl⟩
def nx (o : LV) : Int := IntKind.wrap .i64 (clampK .i64 (intV (celV o 2 0)) + 1)
theorem nx_inv {R : LV} {inc : Int} {o s : LV} {n : Nat} (h : Inv R inc o s n) (hn : n ≤ 40) : nx o = (stL R n).2 + 1 := by
  have := st_rng R n
  unfold nx
  rw [h.out, out_cel (by omega)]
  exact wrapS (by omega) (by omega)
theorem inv_t {R : LV} {inc : Int} {o s : LV} {n m : Nat} (h : Inv R inc o s n) (hn : n ≤ 40) (hb : bO R n = true) (hm : m = 3) : Inv R (inc + 1) (List.replicate m [.int .i64 0]) (s ++ [[.int .i64 inc, .int .i64 (nx o)]]) (n + 1) := by
  subst hm
  refine ⟨?_, ?_, ?_⟩
  · rw [st_t hb, h.inc]
  · rw [st_t hb]; rfl
  · rw [nx_inv h hn, sentP, h.sent, h.inc]; rfl
theorem inv_f {R : LV} {inc : Int} {o s : LV} {n : Nat} (h : Inv R inc o s n) (hn : n ≤ 40) (hb : ¬ bO R n = true) : Inv R inc (o.set (2 : Int).toNat [.int .i64 (nx o)]) (s ++ [[.int .i64 inc, .int .i64 (nx o)]]) (n + 1) := by
  refine ⟨?_, ?_, ?_⟩
  · rw [st_f hb, h.inc]
  · rw [st_f hb, nx_inv h hn, h.out]; rfl
  · rw [nx_inv h hn, sentP, h.sent, h.inc]; rfl
theorem inv_rng {R : LV} {inc : Int} {o s : LV} {n : Nat} (h : Inv R inc o s n) (hn : n ≤ 40) : 1 ≤ inc ∧ inc ≤ 41 ∧ o.length = 3 ∧ clampK .i64 (intV (celV o 2 0)) ≤ 40 := by
  have := st_rng R n
  refine ⟨by rw [h.inc]; omega, by rw [h.inc]; omega, by rw [h.out]; rfl, ?_⟩
  rw [h.out, out_cel (by omega)]; omega
theorem inv_ok {R : LV} {inc : Int} {o s : LV} {n : Nat} (h : Inv R inc o s n) (hn : n ≤ 40) : Sx.allP (pO o) o.length = true ∧ Sx.allP (pO (o.set (2 : Int).toNat [.int .i64 (nx o)])) (o.set (2 : Int).toNat [.int .i64 (nx o)]).length = true := by
  have := st_rng R n
  refine ⟨by rw [h.out]; exact out_ok (by omega), ?_⟩
  rw [nx_inv h hn, h.out]
  exact out_ok (x := (stL R n).2 + 1) (by omega)
theorem lex3 (R : LV) (x l : Nat) : (x < l ∧ ((stL R x).1 < (stL R l).1 ∨ ((stL R x).1 = (stL R l).1 ∧ (stL R x).2 < (stL R l).2))) ∨ (x = l ∧ (stL R x).1 = (stL R l).1 ∧ (stL R x).2 = (stL R l).2) ∨ (l < x ∧ ((stL R l).1 < (stL R x).1 ∨ ((stL R l).1 = (stL R x).1 ∧ (stL R l).2 < (stL R x).2))) := by
  rcases Nat.lt_trichotomy x l with h | h | h
  · exact .inl ⟨h, st_lt R h⟩
  · exact .inr (.inl ⟨h, by rw [h], by rw [h]⟩)
  · exact .inr (.inr ⟨h, st_lt R h⟩)
theorem in_set (R : LV) (l x : Nat) : (inP R l).set (1 : Int).toNat (rowS R x) = inP R x := rfl
end Go.Proofs.Ytjgkaimgocnkmaa.lnk
