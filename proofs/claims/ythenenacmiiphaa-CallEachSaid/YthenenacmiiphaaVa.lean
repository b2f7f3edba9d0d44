/- Layer call: one ask behind the other. No condition. -/
import Derived.Test.YthenenacmiiphaaCs
set_option linter.unusedVariables false
set_option linter.unusedSimpArgs false
set_option linter.deprecated false
namespace Go.Proofs.Ythenenacmiiphaa.oct
open Go Go.Proofs.Ythenenacmiiphaa.Sx
def eA (n l s : Int) (R : LV) : Int := clampK .i64 (fiR 20 n l s R)
def cA (n l s : Int) (R : LV) : Int := clampK .i64 (fiR 29 n l s R)
def fA (j : Nat) (n l s : Int) (R : LV) : Int := clampK .i64 (fiR (21 + j) n l s R)
def posA (n l s : Int) (R : LV) : Nat → Nat
 | 0 => 0
 | m + 1 => posA n l s R m + (cA n l s (R.drop (posA n l s R m))).toNat
theorem ask1 {n l s : Int} {L : LV} (h : askE0 n l s L = 0) : eI L = 0 := by
 unfold askE0 at h
 split at h
 ·omega
 split at h
 ·rename_i c; simp at c; exact absurd h c
 ·rename_i c; simpa using c
theorem rdN_pos {L : LV} (h : eI L = 0) : 1 ≤ nI L := by
 have hk : okR L = true := by
  cases hk : okR L with
  | true => rfl
  | false =>
   unfold eI rdE at h
   rw [hk] at h
   rw [if_neg (by decide)] at h
   split at h
   ·exact absurd h (by decide)
   ·exact absurd h (by decide)
 have hr := rdN_rng L
 have e : rdN L = (atR L : Int) + 1 := by rw [rdN, hk, if_pos rfl]
 unfold nI
 rw [cl0 (by omega), e]; omega
variable {n l s : Int}
theorem cA_rng (R : LV) : 0 ≤ cA n l s R ∧ cA n l s R ≤ 50 ∧ cA n l s R ≤ (R.length : Int) := by
 obtain ⟨⟨a, b⟩, c⟩ := n29 n l s R
 exact ⟨a, b, c⟩
theorem cA_pos {R : LV} (h : eA n l s R = 0) : 1 ≤ cA n l s R := by
 have h0 : askE0 n l s R = 0 := by rw [← askE_in]; exact h
 have h1 := rdN_pos (ask1 h0)
 have q := q_rng R
 have h2 : q1 R = nI R := rfl
 have s2 := step_len (L := R) q.1.1 q.1.2
 have s3 := step_len (L := R) q.2.1.1 q.2.1.2
 have s4 := step_len (L := R) q.2.2.1.1 q.2.2.1.2
 have s5 := step_len (L := R) (q := q4 R) q.2.2.2.1.1 q.2.2.2.1.2.2
 change q1 R ≤ q2 R ∧ _ at s2
 change q2 R ≤ q3 R ∧ _ at s3
 change q3 R ≤ q4 R ∧ _ at s4
 change q4 R ≤ q5 R ∧ _ at s5
 have e : cA n l s R = if k17 R then q5 R else q4 R := by
  show clampK .i64 (onOk (askE0 n l s R) (if k17 R then q5 R else q4 R)) = _
  rw [h0]
  show clampK .i64 (if k17 R then q5 R else q4 R) = _
  exact cl0 (by split <;> omega)
 rw [e]; split <;> omega
theorem posA_le (R : LV) : ∀ m, posA n l s R m ≤ R.length
 | 0 => Nat.zero_le _
 | m + 1 => by
  have h1 := posA_le R m
  have h2 := cA_rng (n := n) (l := l) (s := s) (R.drop (posA n l s R m))
  rw [List.length_drop] at h2
  rw [posA]; omega
theorem celA_lt {a b : LV} {i : Int} {j : Nat} (h0 : 0 ≤ i) (h : i < (a.length : Int)) : celV (a ++ b) i j = celV a i j := by
 have e : (a ++ b).getD i.toNat [] = a.getD i.toNat [] := by
  rw [List.getD_eq_getElem?_getD, List.getD_eq_getElem?_getD, List.getElem?_append_left (by omega)]
 unfold celV
 rw [e]
theorem celA_last {a : LV} {e : List Value} {i : Int} {j : Nat} (h : i = (a.length : Int)) : celV (a ++ [e]) i j = e.getD j (.bool false) := by
 have e : (a ++ [e]).getD i.toNat [] = e := by
  rw [List.getD_eq_getElem?_getD, show i.toNat = a.length by omega, List.getElem?_append_right (Nat.le_refl _), Nat.sub_self]; rfl
 unfold celV
 rw [e]
structure Gath (n l s : Int) (R P W : LV) (f : Int) : Prop where
 lw : P.length = W.length
 pos : f = ((posA n l s R W.length : Nat) : Int)
 ok : ∀ j : Nat, j < W.length → eA n l s (R.drop (posA n l s R j)) = 0 ∧ (∀ c : Nat, c < 8 → clampK .i64 (intV (celV W (j : Int) c)) = fA c n l s (R.drop (posA n l s R j))) ∧ clampK .i64 (intV (celV P (j : Int) 0)) = ((posA n l s R j : Nat) : Int)
theorem gathA0 {R : LV} {f : Int} (h : f = 0) : Gath n l s R [] [] f := ⟨rfl, h, fun j hj => by cases hj⟩
def rowF (n l s : Int) (R : LV) : List Value := [.int .i64 (fA 0 n l s R), .int .i64 (fA 1 n l s R), .int .i64 (fA 2 n l s R), .int .i64 (fA 3 n l s R), .int .i64 (fA 4 n l s R), .int .i64 (fA 5 n l s R), .int .i64 (fA 6 n l s R), .int .i64 (fA 7 n l s R)]
theorem gathA {R P W : LV} {f : Int} (hl : (R.length : Int) ≤ 9223372036854775807) (g : Gath n l s R P W f) (h : eA n l s (R.drop f.toNat) = 0) : Gath n l s R (P ++ [[.int .i64 f]]) (W ++ [rowF n l s (R.drop f.toNat)]) (f + cA n l s (R.drop f.toNat)) := by
 have e : f.toNat = posA n l s R W.length := by have := g.pos; omega
 have hr := cA_rng (n := n) (l := l) (s := s) (R.drop f.toNat)
 have hb := posA_le (n := n) (l := l) (s := s) R W.length
 have l1 := g.lw
 refine ⟨?_, ?_, ?_⟩
 ·rw [List.length_append, List.length_append, g.lw]; rfl
 ·rw [List.length_append, List.length_cons, List.length_nil, posA, ← e]
  have := g.pos
  omega
 ·intro j hj
  rw [List.length_append, List.length_cons, List.length_nil] at hj
  by_cases c : j < W.length
  ·obtain ⟨a1, a2, a3⟩ := g.ok j c
   refine ⟨a1, fun k hk => ?_, ?_⟩
   ·rw [celA_lt (by omega) (by omega)]; exact a2 k hk
   ·rw [celA_lt (by omega) (by omega)]; exact a3
  ·obtain rfl : j = W.length := by omega
   refine ⟨by rw [← e]; exact h, fun k hk => ?_, ?_⟩
   ·rw [celA_last rfl, ← e]
    match k, hk with
    | 0, _ => exact clamp_clamp _ _
    | 1, _ => exact clamp_clamp _ _
    | 2, _ => exact clamp_clamp _ _
    | 3, _ => exact clamp_clamp _ _
    | 4, _ => exact clamp_clamp _ _
    | 5, _ => exact clamp_clamp _ _
    | 6, _ => exact clamp_clamp _ _
    | 7, _ => exact clamp_clamp _ _
   ·rw [celA_last (by omega), g.pos]
    show clampK .i64 ((posA n l s R W.length : Nat) : Int) = _
    exact cl0 (by omega)
structure Whole (n l s : Int) (R P W : LV) : Prop where
 g : Gath n l s R P W ((posA n l s R W.length : Nat) : Int)
 no : ¬ eA n l s (R.drop (posA n l s R W.length)) = 0
theorem whole_of {R P W : LV} {f : Int} (g : Gath n l s R P W f) (h : ¬ eA n l s (R.drop f.toNat) = 0) : Whole n l s R P W := by
 have e := g.pos
 subst e
 exact ⟨g, by simpa using h⟩
structure Und (n l s : Int) (R P W : LV) (k f : Int) : Prop where
 w : Whole n l s R P W
 k0 : 0 ≤ k
 k1 : k ≤ (W.length : Int)
 pos : f = ((posA n l s R k.toNat : Nat) : Int)
theorem undA0 {R P W : LV} {k f : Int} (w : Whole n l s R P W) (hk : k = 0) (hf : f = 0) : Und n l s R P W k f := ⟨w, by omega, by omega, by subst hk; exact hf⟩
variable {R P W : LV} {k f : Int}
theorem und_f (u : Und n l s R P W k f) : 0 ≤ f ∧ f ≤ (R.length : Int) := by
 have := posA_le (n := n) (l := l) (s := s) R k.toNat
 have := u.pos
 omega
theorem und_end (u : Und n l s R P W k f) (h : ¬ eA n l s (R.drop f.toNat) = 0) : k = (W.length : Int) := by
 have e : f.toNat = posA n l s R k.toNat := by have := u.pos; omega
 rw [e] at h
 have k1 := u.k1
 have k0 := u.k0
 rcases Int.lt_or_eq_of_le k1 with hh | hh
 ·exact absurd (u.w.g.ok k.toNat (by omega)).1 h
 ·exact hh
theorem und_lt (u : Und n l s R P W k f) (h : eA n l s (R.drop f.toNat) = 0) : k < (W.length : Int) := by
 have e : f.toNat = posA n l s R k.toNat := by have := u.pos; omega
 rw [e] at h
 have k1 := u.k1
 have k0 := u.k0
 rcases Int.lt_or_eq_of_le k1 with hh | hh
 ·exact hh
 ·have e2 : k.toNat = W.length := by omega
  rw [e2] at h
  exact absurd h u.w.no
theorem und_at (u : Und n l s R P W k f) (h : eA n l s (R.drop f.toNat) = 0) : clampK .i64 (intV (celV P k 0)) = f := by
 have hlt := und_lt u h
 have k0 := u.k0
 have := (u.w.g.ok k.toNat (by omega)).2.2
 rw [show ((k.toNat : Nat) : Int) = k by omega] at this
 rw [this, u.pos]
theorem und_x (u : Und n l s R P W k f) (h : eA n l s (R.drop f.toNat) = 0) (c : Nat) (hc : c < 8) : clampK .i64 (intV (celV W k c)) = fA c n l s (R.drop f.toNat) := by
 have hlt := und_lt u h
 have k0 := u.k0
 have e : f.toNat = posA n l s R k.toNat := by have := u.pos; omega
 have := (u.w.g.ok k.toNat (by omega)).2.1 c hc
 rw [show ((k.toNat : Nat) : Int) = k by omega] at this
 rw [this, e]
theorem und_next (u : Und n l s R P W k f) (h : eA n l s (R.drop f.toNat) = 0) : Und n l s R P W (k + 1) (f + cA n l s (R.drop f.toNat)) := by
 have hlt := und_lt u h
 have k0 := u.k0
 have e : f.toNat = posA n l s R k.toNat := by have := u.pos; omega
 have hc := cA_rng (n := n) (l := l) (s := s) (R.drop f.toNat)
 refine ⟨u.w, by omega, by omega, ?_⟩
 rw [show (k + 1).toNat = k.toNat + 1 by omega, posA, ← e]
 have := u.pos
 omega
end Go.Proofs.Ythenenacmiiphaa.oct
