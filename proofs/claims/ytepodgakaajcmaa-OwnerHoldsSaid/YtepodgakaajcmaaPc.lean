/- Layer owner: the token's way, and what each node guesses. No condition. -/
import Derived.Test.YtepodgakaajcmaaPa
set_option linter.unusedVariables false
set_option linter.unusedSimpArgs false
set_option linter.deprecated false
namespace Go.Proofs.Ytepodgakaajcmaa.own
open Go Go.Proofs.Ytepodgakaajcmaa.Sx
def wI (W : LV) (j : Nat) : Int := Sx.atI W j 0
structure WOk (W : LV) (nd : Int) : Prop where
  pos : 1 ≤ W.length
  rng : ∀ j, j < W.length → 0 ≤ wI W j ∧ wI W j < nd
  dif : ∀ j, j + 1 < W.length → ¬ wI W j = wI W (j + 1)
  zero : wI W 0 = 0
theorem w_app {W X : LV} {j : Nat} (h : j < W.length) : wI (W ++ X) j = wI W j := by
  have e : (W ++ X).getD (j : Int).toNat [] = W.getD (j : Int).toNat [] := by
    rw [List.getD_eq_getElem?_getD, List.getD_eq_getElem?_getD, List.getElem?_append_left (by rw [Int.toNat_natCast]; exact h)]
  unfold wI Sx.atI celV
  rw [e]
theorem w_last {W : LV} {x : Int} (h : 0 ≤ x ∧ x ≤ 1000) : wI (W ++ [[Value.int .i64 x]]) W.length = x := by
  have e : (W ++ [[Value.int .i64 x]]).getD (W.length : Int).toNat [] = [Value.int .i64 x] := by
    rw [List.getD_eq_getElem?_getD, Int.toNat_natCast, List.getElem?_append_right (Nat.le_refl _), Nat.sub_self]; rfl
  unfold wI Sx.atI celV
  rw [e]
  exact clampS h.1 (by show x ≤ _; omega)
theorem w_0 {nd : Int} (h : 1 ≤ nd) : WOk [[Value.int .i64 0]] nd :=
  ⟨Nat.le_refl _, fun j hj => by
    obtain rfl : j = 0 := by simp at hj; exact hj
    exact ⟨Int.le_refl 0, by show (0 : Int) < nd; omega⟩, fun j hj => by simp at hj, rfl⟩
theorem w_s {W : LV} {nd x : Int} (h : WOk W nd) (hn : nd ≤ 64) (h0 : 0 ≤ x) (h1 : x < nd) (hd : ¬ x = wI W (W.length - 1)) : WOk (W ++ [[Value.int .i64 x]]) nd := by
  have hp := h.pos
  have hl : (W ++ [[Value.int .i64 x]]).length = W.length + 1 := by simp
  refine ⟨by rw [hl]; omega, fun j hj => ?_, fun j hj => ?_, by rw [w_app (by omega)]; exact h.zero⟩
  · rw [hl] at hj
    by_cases e : j = W.length
    · rw [e, w_last ⟨h0, by omega⟩]; exact ⟨h0, h1⟩
    · rw [w_app (by omega)]; exact h.rng j (by omega)
  · rw [hl] at hj
    by_cases e : j + 1 = W.length
    · rw [e, w_last ⟨h0, by omega⟩, w_app (by omega), show j = W.length - 1 by omega]
      exact fun hh => hd hh.symm
    · rw [w_app (by omega), w_app (by omega)]; exact h.dif j (by omega)
structure LOk (W L : LV) (nd : Int) (i : Nat) : Prop where
  len : (L.length : Int) = nd
  node : ∀ n : Nat, (n : Int) < nd → ∃ k : Nat, k ≤ i ∧ k < W.length ∧ ndI L n = wI W k ∧ hpI L n = (k : Int) ∧ ∀ j, j < i → wI W j = (n : Int) → j < k
theorem l_0 {W : LV} {nd : Int} {m : Nat} (hw : WOk W nd) (hm : (m : Int) = nd) : LOk W (List.replicate m [Value.int .i64 0, Value.int .i64 0]) nd 0 := by
  refine ⟨by rw [List.length_replicate]; exact hm, fun n hn => ⟨0, Nat.le_refl _, hw.pos, ?_, ?_, fun j hj => by omega⟩⟩
  · have e : celV (List.replicate m [Value.int .i64 0, Value.int .i64 0]) (n : Int) 0 = .int .i64 0 := by
      unfold celV
      rw [List.getD_eq_getElem?_getD (l := List.replicate _ _), Int.toNat_natCast, List.getElem?_replicate, if_pos (by omega)]; rfl
    rw [ndI, e, hw.zero]; rfl
  · have e : celV (List.replicate m [Value.int .i64 0, Value.int .i64 0]) (n : Int) 1 = .int .i64 0 := by
      unfold celV
      rw [List.getD_eq_getElem?_getD (l := List.replicate _ _), Int.toNat_natCast, List.getElem?_replicate, if_pos (by omega)]; rfl
    rw [hpI, e]; rfl
theorem set_same {L : LV} {m : Nat} {a b : Int} (hm : m < L.length) (ha : 0 ≤ a ∧ a ≤ 1000) (hb : 0 ≤ b ∧ b ≤ 1000) : ndI (L.set m [.int .i64 a, .int .i64 b]) (m : Int) = a ∧ hpI (L.set m [.int .i64 a, .int .i64 b]) (m : Int) = b := by
  have e : ∀ c, celV (L.set m [.int .i64 a, .int .i64 b]) (m : Int) c = [Value.int .i64 a, Value.int .i64 b].getD c (.bool false) := fun c => by
    unfold celV
    rw [List.getD_eq_getElem?_getD (l := L.set _ _), Int.toNat_natCast, List.getElem?_set_self hm]; rfl
  refine ⟨?_, ?_⟩
  · rw [ndI, e]; exact clampS (by show 0 ≤ a; omega) (by show a ≤ _; omega)
  · rw [hpI, e]; exact clampS (by show 0 ≤ b; omega) (by show b ≤ _; omega)
theorem set_other {L : LV} {m n : Nat} {c : List Value} (h : ¬ n = m) : ndI (L.set m c) (n : Int) = ndI L n ∧ hpI (L.set m c) (n : Int) = hpI L n := by
  have e : ∀ j, celV (L.set m c) (n : Int) j = celV L n j := fun j => by
    unfold celV
    rw [List.getD_eq_getElem?_getD (l := L.set _ _), List.getD_eq_getElem?_getD (l := L), Int.toNat_natCast, List.getElem?_set_ne (by omega)]
  exact ⟨by rw [ndI, ndI, e], by rw [hpI, hpI, e]⟩
theorem l_s {W L : LV} {nd : Int} {i : Nat} (hw : WOk W nd) (hn : nd ≤ 64) (h : LOk W L nd i) (hi : i + 1 < W.length) (hlen : W.length ≤ 100) : LOk W (L.set (wI W i).toNat [.int .i64 (wI W (i + 1)), .int .i64 ((i : Int) + 1)]) nd (i + 1) := by
  have r := hw.rng i (by omega)
  have r2 := hw.rng (i + 1) hi
  have hl := h.len
  refine ⟨by rw [List.length_set]; exact hl, fun n hnn => ?_⟩
  by_cases e : n = (wI W i).toNat
  · obtain ⟨s1, s2⟩ := set_same (L := L) (m := n) (a := wI W (i + 1)) (b := (i : Int) + 1) (by omega) ⟨r2.1, by omega⟩ ⟨by omega, by omega⟩
    rw [← e]
    exact ⟨i + 1, Nat.le_refl _, hi, s1, by rw [s2]; omega, fun j hj _ => hj⟩
  · obtain ⟨s1, s2⟩ := set_other (L := L) (c := [.int .i64 (wI W (i + 1)), .int .i64 ((i : Int) + 1)]) e
    obtain ⟨k, k1, k2, k3, k4, k5⟩ := h.node n hnn
    rw [s1, s2]
    exact ⟨k, by omega, k2, k3, k4, fun j hj hw2 => by
      by_cases ej : j = i
      · rw [ej] at hw2; omega
      · exact k5 j (by omega) hw2⟩
theorem l_t {W L : LV} {nd : Int} {i m k : Nat} (hw : WOk W nd) (hn : nd ≤ 64) (h : LOk W L nd i) (hi : i + 1 = W.length) (hlen : W.length ≤ 100) (hm : (m : Int) < nd) (hk : k < W.length) (hg : hpI L m < (k : Int)) : LOk W (L.set m [.int .i64 (wI W k), .int .i64 (k : Int)]) nd i := by
  have r2 := hw.rng k hk
  have hl := h.len
  refine ⟨by rw [List.length_set]; exact hl, fun n hnn => ?_⟩
  by_cases e : n = m
  · subst e
    obtain ⟨s1, s2⟩ := set_same (L := L) (m := n) (a := wI W k) (b := (k : Int)) (by omega) ⟨r2.1, by omega⟩ ⟨by omega, by omega⟩
    obtain ⟨q, q1, q2, q3, q4, q5⟩ := h.node n hnn
    exact ⟨k, by omega, hk, s1, s2, fun j hj hw2 => by have := q5 j hj hw2; omega⟩
  · obtain ⟨s1, s2⟩ := set_other (L := L) (c := [.int .i64 (wI W k), .int .i64 (k : Int)]) e
    obtain ⟨q, q1, q2, q3, q4, q5⟩ := h.node n hnn
    rw [s1, s2]
    exact ⟨q, q1, q2, q3, q4, q5⟩
theorem l_guess {W L : LV} {nd : Int} {i : Nat} (hw : WOk W nd) (h1 : 1 ≤ nd) (hn : nd ≤ 64) (h : LOk W L nd i) (hlen : W.length ≤ 100) : guessN nd 1 1 L L.length = true := by
  refine all_of fun n hnn => ?_
  have hl := h.len
  obtain ⟨k, k1, k2, k3, k4, k5⟩ := h.node n (by omega)
  have r := hw.rng k k2
  have e0 : Sx.atI L n 0 = wI W k := k3
  have e1 : Sx.atI L n 1 = (k : Int) := k4
  simp only [Bool.and_eq_true, decide_eq_true_eq, ls_iff, gN, e0, e1, hop_iff]
  exact ⟨⟨⟨h1, hn⟩, by omega⟩, ⟨r.1, r.2⟩, by omega, by omega⟩
theorem ends_ok {W L : LV} {nd o : Int} {i : Nat} (hw : WOk W nd) (h1 : 1 ≤ nd) (hn : nd ≤ 64) (h : LOk W L nd i) (hi : i + 1 = W.length) (hlen : W.length ≤ 100) (h0 : 0 ≤ o) (ho : o < nd) :
    (0 ≤ (stP L o 0 (endP L o 0)).1 ∧ (stP L o 0 (endP L o 0)).1 < nd) ∧ ((stP L o 0 (endP L o 0)).1 = wI W (W.length - 1) ∨ ndI L (stP L o 0 (endP L o 0)).1 = o ∨ (stP L o 0 (endP L o 0)).1 = o) := by
  have hg := l_guess hw h1 hn h hlen
  have hl := h.len
  have rg := st_rng (h := 0) hg hl h0 ho
  obtain ⟨e1, e2⟩ := end_ok (h := 0) hg hl hn h0 ho
  have es : stayP L o 0 (endP L o 0) = true := by
    have := first_at (p := stayP L o 0) (n := 65) (by rw [← end_def]; omega)
    rw [← end_def] at this; exact this
  have r := rg (endP L o 0)
  refine ⟨⟨r.1, by omega⟩, ?_⟩
  generalize hT : endP L o 0 = T at *
  cases T with
  | zero => exact .inr (.inr rfl)
  | succ t =>
    have rt := rg t
    obtain ⟨c, c1, c2, c3, c4, c5⟩ := h.node (stP L o 0 t).1.toNat (by omega)
    have em : (((stP L o 0 t).1.toNat : Nat) : Int) = (stP L o 0 t).1 := by omega
    rw [em] at c3 c4
    have s1 : (stP L o 0 (t + 1)).1 = wI W c := c3
    have s2 : (stP L o 0 (t + 1)).2 = (c : Int) := c4
    obtain ⟨k, k1, k2, k3, k4, k5⟩ := h.node (stP L o 0 (t + 1)).1.toNat (by omega)
    have em2 : (((stP L o 0 (t + 1)).1.toNat : Nat) : Int) = (stP L o 0 (t + 1)).1 := by omega
    rw [em2] at k3 k4 k5
    simp only [stayP, stayI, Bool.or_eq_true, decide_eq_true_eq] at es
    rcases es with (es | es) | es
    · left
      have hk : k = W.length - 1 := by
        refine Nat.le_antisymm (by omega) (Nat.not_lt.1 fun hh => ?_)
        have := k5 k (by omega) (by rw [← k3]; exact es)
        omega
      rw [← hk, ← k3]; exact es.symm
    · exact .inr (.inl es)
    · left
      have hc : c = W.length - 1 := by
        refine Nat.le_antisymm (by omega) (Nat.not_lt.1 fun hh => ?_)
        have := k5 c (by omega) s1.symm
        rw [k4, s2] at es; omega
      rw [s1, hc]
end Go.Proofs.Ytepodgakaajcmaa.own
