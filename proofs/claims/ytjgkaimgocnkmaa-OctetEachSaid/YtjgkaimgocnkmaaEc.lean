/- Layer octet: one number behind the other, step by step. No condition. -/
import Derived.Test.YtjgkaimgocnkmaaEa
set_option linter.unusedVariables false
set_option linter.unusedSimpArgs false
set_option linter.deprecated false
namespace Go.Proofs.Ytjgkaimgocnkmaa.oct
open Go Go.Proofs.Ytjgkaimgocnkmaa.Sx
theorem rdN_pos {L : LV} (h : rdE L = 0) : 1 ≤ rdN L := by
  have hk : okR L = true := by
    cases hk : okR L with
    | true => rfl
    | false =>
      unfold rdE at h
      rw [hk] at h
      rw [if_neg (by decide)] at h
      split at h <;> omega
  rw [rdN, hk, if_pos rfl]; omega
theorem pos_le (R : LV) : ∀ m, posN R m ≤ R.length
  | 0 => Nat.zero_le _
  | m + 1 => by
    have h1 := pos_le R m
    have h2 := rdN_rng (R.drop (posN R m))
    rw [List.length_drop] at h2
    rw [posN]; omega
theorem cel_drop {R : LV} {a i : Int} {j : Nat} (ha : 0 ≤ a) (hi : 0 ≤ i) : celV (R.drop a.toNat) i j = celV R (a + i) j := by
  have e : (R.drop a.toNat).getD i.toNat [] = R.getD (a + i).toNat [] := by
    rw [List.getD_eq_getElem?_getD, List.getD_eq_getElem?_getD, List.getElem?_drop, show a.toNat + i.toNat = (a + i).toNat by omega]
  unfold celV
  rw [e]
theorem cel_lt {a b : LV} {i : Int} {j : Nat} (h0 : 0 ≤ i) (h : i < (a.length : Int)) : celV (a ++ b) i j = celV a i j := by
  have e : (a ++ b).getD i.toNat [] = a.getD i.toNat [] := by
    rw [List.getD_eq_getElem?_getD, List.getD_eq_getElem?_getD, List.getElem?_append_left (by omega)]
  unfold celV
  rw [e]
theorem cel_last {a : LV} {v : Value} {i : Int} (h : i = (a.length : Int)) : celV (a ++ [[v]]) i 0 = v := by
  have e : (a ++ [[v]]).getD i.toNat [] = [v] := by
    rw [List.getD_eq_getElem?_getD, show i.toNat = a.length by omega, List.getElem?_append_right (Nat.le_refl _), Nat.sub_self]; rfl
  unfold celV
  rw [e]; rfl
/-- What was gathered so far. -/
structure Gath (R W P : LV) (f : Int) : Prop where
  lw : P.length = W.length
  pos : f = ((posN R W.length : Nat) : Int)
  ok : ∀ j, j < W.length → rdE (R.drop (posN R j)) = 0 ∧ clampK .u64 (intV (celV W (j : Int) 0)) = rdV (R.drop (posN R j)) ∧ clampK .i64 (intV (celV P (j : Int) 0)) = ((posN R j : Nat) : Int)
theorem gath0 {R : LV} {f : Int} (h : f = 0) : Gath R [] [] f := ⟨rfl, h, fun j hj => by cases hj⟩
theorem gaths {R W P : LV} {f v p : Int} (hl : (R.length : Int) ≤ 9223372036854775807) (g : Gath R W P f) (h : rdE (R.drop f.toNat) = 0) (hv : v = rdV (R.drop f.toNat)) (hp : p = f) : Gath R (W ++ [[.int .u64 v]]) (P ++ [[.int .i64 p]]) (f + rdN (R.drop f.toNat)) := by
  have e : f.toNat = posN R W.length := by have := g.pos; omega
  have hr := rdN_rng (R.drop f.toNat)
  have hb := pos_le R W.length
  have l1 := g.lw
  refine ⟨?_, ?_, ?_⟩
  · rw [List.length_append, List.length_append, g.lw]; rfl
  · rw [List.length_append, List.length_cons, List.length_nil, posN, ← e]
    have := g.pos
    omega
  · intro j hj
    rw [List.length_append, List.length_cons, List.length_nil] at hj
    by_cases c : j < W.length
    · obtain ⟨a1, a2, a3⟩ := g.ok j c
      rw [cel_lt (by omega) (by omega), cel_lt (by omega) (by omega)]
      exact ⟨a1, a2, a3⟩
    · rw [cel_last (by omega), cel_last (by omega)]
      have ej : j = W.length := by omega
      subst ej
      rw [← e]
      refine ⟨h, ?_, ?_⟩
      · show clampK .u64 v = _
        rw [hv]; exact rdV_in _
      · show clampK .i64 p = _
        have := g.pos
        rw [hp, i64_in (by omega) (by omega), e]; exact g.pos
theorem gath_cnt {R W P : LV} {f : Int} (g : Gath R W P f) : (W.length : Int) ≤ f := by
  have : ∀ j, j ≤ W.length → j ≤ posN R j := by
    intro j
    induction j with
    | zero => intro _; exact Nat.zero_le _
    | succ j ih =>
      intro hj
      have h1 := ih (by omega)
      have h2 := rdN_pos (g.ok j (by omega)).1
      rw [posN]; omega
  have := this _ (Nat.le_refl _)
  have := g.pos
  omega
/-- All that is there was gathered. -/
structure Whole (R W P : LV) : Prop where
  g : Gath R W P ((posN R W.length : Nat) : Int)
  stop : ¬ rdE (R.drop (posN R W.length)) = 0
theorem whole_of {R W P : LV} {f : Int} (g : Gath R W P f) (h : ¬ rdE (R.drop f.toNat) = 0) : Whole R W P := by
  have e : f.toNat = posN R W.length := by have := g.pos; omega
  rw [e] at h
  exact ⟨⟨g.lw, rfl, g.ok⟩, h⟩
/-- A number is under way: the n-th, at a; the window begins at o; i of its bytes are read, x is what they tell. -/
structure Und (R W P : LV) (n a o i x : Int) : Prop where
  w : Whole R W P
  n0 : 0 ≤ n
  n1 : n ≤ (W.length : Int)
  ha : a = ((posN R n.toNat : Nat) : Int)
  ho : o = a ∨ a = (R.length : Int)
  hf : firstP (stopP (R.drop a.toNat)) i.toNat = i.toNat
  hx : x = valI (R.drop a.toNat) i.toNat
  le : i ≤ (R.length : Int) - a
theorem und0 {R W P : LV} {o : Int} (w : Whole R W P) (ho : o = 0) : Und R W P 0 0 o 0 0 := ⟨w, by omega, by omega, rfl, .inl ho, rfl, rfl, by omega⟩
theorem und_len {R W P : LV} {n a o i x : Int} (u : Und R W P n a o i x) : 0 ≤ a ∧ a ≤ (R.length : Int) := by
  have := u.ha
  have := pos_le R n.toNat
  omega
theorem und9 {R W P : LV} {n a o i x : Int} (u : Und R W P n a o i x) : i ≤ 9 := by
  have := run9 u.hf
  omega
theorem len_drop {R : LV} {a : Int} (h : 0 ≤ a ∧ a ≤ (R.length : Int)) : (((R.drop a.toNat).length : Nat) : Int) = (R.length : Int) - a := by
  rw [List.length_drop]; omega
/-- What is read at the end of the window, or of bytes that may not be: none; then all were told. -/
theorem und_end {R W P : LV} {n a o i x : Int} (u : Und R W P n a o i x) (h0 : 0 ≤ i) (h : (R.length : Int) - a ≤ i) : n = (W.length : Int) := by
  have hl := len_drop (und_len u)
  have h2 := u.le
  have k := r_end (R := R.drop a.toNat) (i := i) (by omega) (by omega) u.hf
  have e : a.toNat = posN R n.toNat := by have := u.ha; omega
  by_cases c : n.toNat < W.length
  · have := (u.w.g.ok _ c).1
    rw [← e, k.2.2] at this; omega
  · have := u.n0
    have := u.n1
    omega
theorem und_cell {R W P : LV} {n a o i x : Int} (u : Und R W P n a o i x) (h0 : 0 ≤ i) (h : i < (R.length : Int) - a) : celV R (o + i) 0 = celV (R.drop a.toNat) i 0 := by
  have := und_len u
  rcases u.ho with c | c
  · rw [c, cel_drop (by omega) h0]
  · omega
theorem und_bad {R W P : LV} {n a o i x : Int} (u : Und R W P n a o i x) (h0 : 0 ≤ i) (h : i < (R.length : Int) - a) {b : Int} (e : b = clampK .u8 (intV (celV R (o + i) 0))) (hb : (0 < i ∧ b = 0) ∨ (i = 9 ∧ 1 < b)) : n = (W.length : Int) := by
  have hl := len_drop (und_len u)
  subst e
  rw [und_cell u h0 h] at hb
  have k := r_bad (R := R.drop a.toNat) (i := i) h0 (by omega) u.hf (bad_t h0 hb)
  have e : a.toNat = posN R n.toNat := by have := u.ha; omega
  by_cases c : n.toNat < W.length
  · have := (u.w.g.ok _ c).1
    rw [← e, k.2.2] at this; omega
  · have := u.n0
    have := u.n1
    omega
theorem und_go {R W P : LV} {n a o i x : Int} (u : Und R W P n a o i x) (h0 : 0 ≤ i) (h : i < (R.length : Int) - a) {b : Int} (e : b = clampK .u8 (intV (celV R (o + i) 0))) (hb : ¬ (0 < i ∧ b = 0)) (hb2 : ¬ (i = 9 ∧ 1 < b)) (h8 : 128 ≤ b) : Und R W P n a o (i + 1) (binI .or .u64 x (binI .shl .u64 (binI .and .u8 b 127) (7 * i))) := by
  subst e
  rw [und_cell u h0 h] at hb hb2 h8 ⊢
  have bf := bad_f h0 hb hb2
  refine ⟨u.w, u.n0, u.n1, u.ha, u.ho, go_on h0 u.hf bf h8, ?_, by omega⟩
  rw [u.hx]; exact read_v h0 u.hf bf
/-- A number is read: it is the n-th one; the next begins behind it. -/
structure Read (R W P : LV) (n a i v : Int) : Prop where
  lt : n < (W.length : Int)
  w : clampK .u64 (intV (celV W n 0)) = v
  p : clampK .i64 (intV (celV P n 0)) = a
  next : ∀ o', (o' = a + (i + 1) ∨ a + (i + 1) = (R.length : Int)) → Und R W P (n + 1) (a + (i + 1)) o' 0 0
theorem und_read {R W P : LV} {n a o i x : Int} (u : Und R W P n a o i x) (h0 : 0 ≤ i) (h : i < (R.length : Int) - a) {b : Int} (e : b = clampK .u8 (intV (celV R (o + i) 0))) (hb : ¬ (0 < i ∧ b = 0)) (hb2 : ¬ (i = 9 ∧ 1 < b)) (h8 : b < 128) : Read R W P n a i (binI .or .u64 x (binI .shl .u64 (binI .and .u8 b 127) (7 * i))) := by
  have hl := len_drop (und_len u)
  subst e
  rw [und_cell u h0 h] at hb hb2 h8 ⊢
  have bf := bad_f h0 hb hb2
  have k := r_ok (R := R.drop a.toNat) (i := i) h0 (by omega) u.hf bf h8
  have e : a.toNat = posN R n.toNat := by have := u.ha; omega
  have n0 := u.n0
  have n1 := u.n1
  have lt : n.toNat < W.length := by
    refine Nat.lt_of_le_of_ne (by omega) fun c => u.w.stop ?_
    rw [← c, ← e, k.2.2]
  have en : ((n.toNat : Nat) : Int) = n := by omega
  obtain ⟨q1, q2, q3⟩ := u.w.g.ok _ lt
  rw [en] at q2 q3
  have rv := read_v h0 u.hf bf
  rw [← u.hx] at rv
  refine ⟨by omega, ?_, ?_, fun o' ho => ⟨u.w, by omega, by omega, ?_, ?_, rfl, rfl, by have := und_len u; omega⟩⟩
  · rw [q2, rv, ← e]; exact k.1
  · rw [q3]; exact u.ha.symm
  · rw [show (n + 1).toNat = n.toNat + 1 by omega, posN, ← e, k.2.1]
    have := und_len u
    omega
  · exact ho
theorem rdE_none {R : LV} {f : Int} (h : (R.length : Int) ≤ f) : ¬ rdE (R.drop f.toNat) = 0 := by
  rw [List.drop_eq_nil_of_le (by omega)]; decide
end Go.Proofs.Ytjgkaimgocnkmaa.oct
