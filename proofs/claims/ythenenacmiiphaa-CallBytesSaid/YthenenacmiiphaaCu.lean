/- Layer call: an ask's bytes, and an answer's, are read back. No condition. -/
import Derived.Test.YthenenacmiiphaaCr
import Derived.Test.YthenenacmiiphaaQl
set_option linter.unusedVariables false
set_option linter.unusedSimpArgs false
set_option linter.deprecated false
namespace Go.Proofs.Ythenenacmiiphaa.oct
open Go Go.Proofs.Ythenenacmiiphaa.Sx
theorem pr20 (n l s : Int) (L : LV) : Φ.i 20 [.int .i64 n, .int .i64 l, .int .i64 s, .lst L] = fiR 20 n l s L := rfl
theorem pr21 (n l s : Int) (L : LV) : Φ.i 21 [.int .i64 n, .int .i64 l, .int .i64 s, .lst L] = fiR 21 n l s L := rfl
theorem pr22 (n l s : Int) (L : LV) : Φ.i 22 [.int .i64 n, .int .i64 l, .int .i64 s, .lst L] = fiR 22 n l s L := rfl
theorem pr23 (n l s : Int) (L : LV) : Φ.i 23 [.int .i64 n, .int .i64 l, .int .i64 s, .lst L] = fiR 23 n l s L := rfl
theorem pr24 (n l s : Int) (L : LV) : Φ.i 24 [.int .i64 n, .int .i64 l, .int .i64 s, .lst L] = fiR 24 n l s L := rfl
theorem pr25 (n l s : Int) (L : LV) : Φ.i 25 [.int .i64 n, .int .i64 l, .int .i64 s, .lst L] = fiR 25 n l s L := rfl
theorem pr26 (n l s : Int) (L : LV) : Φ.i 26 [.int .i64 n, .int .i64 l, .int .i64 s, .lst L] = fiR 26 n l s L := rfl
theorem pr27 (n l s : Int) (L : LV) : Φ.i 27 [.int .i64 n, .int .i64 l, .int .i64 s, .lst L] = fiR 27 n l s L := rfl
theorem pr28 (n l s : Int) (L : LV) : Φ.i 28 [.int .i64 n, .int .i64 l, .int .i64 s, .lst L] = fiR 28 n l s L := rfl
theorem pr29 (n l s : Int) (L : LV) : Φ.i 29 [.int .i64 n, .int .i64 l, .int .i64 s, .lst L] = fiR 29 n l s L := rfl
theorem pr30 (n l s : Int) (L : LV) : Φ.i 30 [.int .i64 n, .int .i64 l, .int .i64 s, .lst L] = fiR 30 n l s L := rfl
theorem pr31 (n l s : Int) (L : LV) : Φ.i 31 [.int .i64 n, .int .i64 l, .int .i64 s, .lst L] = fiR 31 n l s L := rfl
theorem pr32 (n l s : Int) (L : LV) : Φ.i 32 [.int .i64 n, .int .i64 l, .int .i64 s, .lst L] = fiR 32 n l s L := rfl
theorem pr33 (n l s : Int) (L : LV) : Φ.i 33 [.int .i64 n, .int .i64 l, .int .i64 s, .lst L] = fiR 33 n l s L := rfl
theorem pr34 (n l s : Int) (L : LV) : Φ.i 34 [.int .i64 n, .int .i64 l, .int .i64 s, .lst L] = fiR 34 n l s L := rfl
theorem pr35 (n l s : Int) (L : LV) : Φ.i 35 [.int .i64 n, .int .i64 l, .int .i64 s, .lst L] = fiR 35 n l s L := rfl
theorem pr36 (n l s : Int) (L : LV) : Φ.i 36 [.int .i64 n, .int .i64 l, .int .i64 s, .lst L] = fiR 36 n l s L := rfl
theorem rb {n : Int} (h : 0 ≤ n ∧ n ≤ 18446744073709551615) (S : LV) : vI (numL n ++ S) = n ∧ nI (numL n ++ S) = ((numL n).length : Int) ∧ eI (numL n ++ S) = 0 := by
 obtain ⟨a, b, c⟩ := read_back h.1 h.2 S
 have l := num_len n
 refine ⟨?_, ?_, ?_⟩
 ·unfold vI; rw [a]; exact u64_in h
 ·unfold nI; rw [b]; exact cl0 (by omega)
 ·unfold eI; rw [c]; rfl
theorem drop_to {A S : LV} {q : Int} (h : q = (A.length : Int)) : (A ++ S).drop q.toNat = S := by
 rw [h, Int.toNat_natCast, List.drop_left]
theorem walk {n1 n2 n3 n4 : Int} (h1 : 0 ≤ n1 ∧ n1 ≤ 18446744073709551615) (h2 : 0 ≤ n2 ∧ n2 ≤ 18446744073709551615) (h3 : 0 ≤ n3 ∧ n3 ≤ 18446744073709551615) (h4 : 0 ≤ n4 ∧ n4 ≤ 18446744073709551615) {L X : LV} (hL : L = numL n1 ++ (numL n2 ++ (numL n3 ++ (numL n4 ++ X)))) :
  (vI L = n1 ∧ eI L = 0) ∧ L.drop (q1 L).toNat = numL n2 ++ (numL n3 ++ (numL n4 ++ X)) ∧ L.drop (q2 L).toNat = numL n3 ++ (numL n4 ++ X) ∧ L.drop (q3 L).toNat = numL n4 ++ X ∧ L.drop (q4 L).toNat = X ∧
   q4 L = ((numL n1).length : Int) + (numL n2).length + (numL n3).length + (numL n4).length := by
 obtain ⟨a1, a2, a3⟩ := rb h1 (numL n2 ++ (numL n3 ++ (numL n4 ++ X)))
 obtain ⟨b1, b2, b3⟩ := rb h2 (numL n3 ++ (numL n4 ++ X))
 obtain ⟨c1, c2, c3⟩ := rb h3 (numL n4 ++ X)
 obtain ⟨d1, d2, d3⟩ := rb h4 X
 rw [← hL] at a1 a2 a3
 have e1 : q1 L = ((numL n1).length : Int) := a2
 have f1 : L.drop (q1 L).toNat = numL n2 ++ (numL n3 ++ (numL n4 ++ X)) := by rw [hL, drop_to]; rw [← hL]; exact e1
 have e2 : q2 L = ((numL n1).length : Int) + (numL n2).length := by unfold q2; rw [f1, b2, e1]
 have f2 : L.drop (q2 L).toNat = numL n3 ++ (numL n4 ++ X) := by
  rw [hL, ← List.append_assoc, drop_to]; rw [List.append_assoc, ← hL, e2, List.length_append]; omega
 have e3 : q3 L = ((numL n1).length : Int) + (numL n2).length + (numL n3).length := by unfold q3; rw [f2, c2, e2]
 have f3 : L.drop (q3 L).toNat = numL n4 ++ X := by
  rw [hL, ← List.append_assoc, ← List.append_assoc, drop_to]
  rw [List.append_assoc, List.append_assoc, ← hL, e3]; simp only [List.length_append]; omega
 have e4 : q4 L = ((numL n1).length : Int) + (numL n2).length + (numL n3).length + (numL n4).length := by unfold q4; rw [f3, d2, e3]
 have f4 : L.drop (q4 L).toNat = X := by
  rw [hL, ← List.append_assoc, ← List.append_assoc, ← List.append_assoc, drop_to]
  rw [List.append_assoc, List.append_assoc, List.append_assoc, ← hL, e4]; simp only [List.length_append]; omega
 exact ⟨⟨a1, a3⟩, f1, f2, f3, f4, e4⟩
theorem sg {b : Int} (h : -9223372036854775808 ≤ b ∧ b ≤ 9223372036854775807) (S : LV) : sI2 (numL (twiceN b) ++ S) = b ∧ nI (numL (twiceN b) ++ S) = ((numL (twiceN b)).length : Int) ∧ eI (numL (twiceN b) ++ S) = 0 := by
 obtain ⟨a1, a2, a3⟩ := rb (twice_rng h) S
 refine ⟨?_, a2, a3⟩
 unfold sI2; rw [a1, half_twice]; exact cl0 h
theorem e2R_0 {n2 n3 n4 : Int} (h2 : 0 ≤ n2 ∧ n2 ≤ 18446744073709551615) (h3 : 0 ≤ n3 ∧ n3 ≤ 18446744073709551615) (h4 : 0 ≤ n4 ∧ n4 ≤ 18446744073709551615) {L X : LV} (f1 : L.drop (q1 L).toNat = numL n2 ++ (numL n3 ++ (numL n4 ++ X))) (f2 : L.drop (q2 L).toNat = numL n3 ++ (numL n4 ++ X)) (f3 : L.drop (q3 L).toNat = numL n4 ++ X) : e2R L = 0 := by
 unfold e2R
 rw [f1, f2, f3, (rb h2 _).2.2, (rb h3 _).2.2, (rb h4 _).2.2]
 rfl
theorem ask_of {n l s k lo m p t sl u b : Int} (h : askR n l s k lo m p t sl u b = true) {L : LV} {c : Int} (hk : vI L = k) (he : eI L = 0) (h2 : e2R L = 0) (hlo : vI (L.drop (q1 L).toNat) = lo) (hm : aM L = m) (hp : aP L = p) (ht : aT L = t) (hs : aS L = sl) (hu : aU L = u) (hb : aB L = b)
  (h5 : k17 L = true → eI (L.drop (q4 L).toNat) = 0) (hc : (if k17 L then q5 L else q4 L) = c) : clampK .i64 (fiR 20 n l s L) = 0 ∧ clampK .i64 (fiR 21 n l s L) = k ∧ clampK .i64 (fiR 22 n l s L) = lo ∧ clampK .i64 (fiR 23 n l s L) = m ∧ clampK .i64 (fiR 24 n l s L) = p ∧ clampK .i64 (fiR 25 n l s L) = t ∧ clampK .i64 (fiR 26 n l s L) = sl ∧ clampK .i64 (fiR 27 n l s L) = u ∧ clampK .i64 (fiR 28 n l s L) = b ∧ clampK .i64 (fiR 29 n l s L) = c := by
 have hok : aOk n l s L = true := by unfold aOk; rw [hk, hlo, hm, hp, ht, hs, hu, hb]; exact h
 obtain ⟨h0, q⟩ := ask_b h
 have e0 : askE0 n l s L = 0 := by
  unfold askE0
  rw [h0, he, h2, hk, hok]
  cases c17 : k17 L with
  | false => simp; omega
  | true => rw [h5 c17]; simp; omega
 have r := aOk_rng hok
 have qr := q_rng L
 have br : -9223372036854775808 ≤ aB L ∧ aB L ≤ 9223372036854775807 := by
  unfold aB; split
  ·exact i64L _
  ·omega
 have f : ∀ j x, askF j L = x → -9223372036854775808 ≤ x ∧ x ≤ 9223372036854775807 → clampK .i64 (onOk (askE0 n l s L) (askF j L)) = x := fun j x hx hr => by
  rw [e0, hx]; exact cl0 hr
 refine ⟨by show clampK .i64 (askE0 n l s L) = 0; rw [e0]; rfl, f 0 _ hk (by omega), f 1 _ hlo (by omega), f 2 _ hm (by omega), f 3 _ hp (by omega), f 4 _ ht (by omega), f 5 _ hs (by omega), f 6 _ hu (by omega), f 7 _ hb (by omega), f 8 _ hc ?_⟩
 rw [← hc]; split <;> omega
theorem ask_read {n l s k lo m p t sl u b : Int} (h : askR n l s k lo m p t sl u b = true) (hb : -9223372036854775808 ≤ b ∧ b ≤ 9223372036854775807) {L R : LV} (hL : L = askL k lo m p t sl u b ++ R) : clampK .i64 (fiR 20 n l s L) = 0 ∧ clampK .i64 (fiR 21 n l s L) = k ∧ clampK .i64 (fiR 22 n l s L) = lo ∧ clampK .i64 (fiR 23 n l s L) = m ∧ clampK .i64 (fiR 24 n l s L) = p ∧ clampK .i64 (fiR 25 n l s L) = t ∧ clampK .i64 (fiR 26 n l s L) = sl ∧ clampK .i64 (fiR 27 n l s L) = u ∧ clampK .i64 (fiR 28 n l s L) = b ∧ clampK .i64 (fiR 29 n l s L) = ((askL k lo m p t sl u b).length : Int) := by
 obtain ⟨h0, q⟩ := ask_b h
 have bb := shp_b h0
 have g := tw_rng hb
 by_cases k1 : k = 1
 ·have qq := q.2.2.2.2.1 (by omega)
  rw [askL_1 k1, u64_in (by omega), u64_in (by omega), u64_in (by omega), u64_in (by omega), u64_in (by omega)] at hL ⊢
  have hL' : L = numL k ++ (numL lo ++ (numL m ++ (numL p ++ (numL t ++ R)))) := by rw [hL]; simp only [List.append_assoc]
  obtain ⟨⟨w1, w2⟩, f1, f2, f3, f4, e4⟩ := walk (by omega) (by omega) (by omega) (by omega) hL'
  have x2 := rb (n := lo) (by omega) (numL m ++ (numL p ++ (numL t ++ R)))
  have x3 := rb (n := m) (by omega) (numL p ++ (numL t ++ R))
  have x4 := rb (n := p) (by omega) (numL t ++ R)
  have x5 := rb (n := t) (by omega) R
  have d17 : k17 L = true := by unfold k17; rw [w1, k1]; rfl
  refine ask_of h w1 w2 (e2R_0 (by omega) (by omega) (by omega) f1 f2 f3) (by rw [f1, x2.1]) ?_ ?_ ?_ ?_ ?_ ?_ (fun _ => by rw [f4, x5.2.2]) ?_
  ·unfold aM; rw [w1, f2, x3.1, k1]; rfl
  ·unfold aP; rw [w1, f3, x4.1, k1]; rfl
  ·unfold aT; rw [w1, f4, x5.1, k1]; rfl
  ·unfold aS; rw [w1, k1, qq.2.2.2.2.2.2.2.1]; rfl
  ·unfold aU; rw [w1, k1, qq.2.2.2.2.2.2.2.2.1]; rfl
  ·unfold aB; rw [w1, k1, qq.2.2.2.2.2.2.2.2.2]; rfl
  ·rw [d17, if_pos rfl]; unfold q5; rw [f4, x5.2.1, e4]; simp only [List.length_append]; omega
 ·by_cases k2 : k = 2
  ·have qq := q.2.2.2.2.1 (by omega)
   rw [askL_2 k2, u64_in (by omega), u64_in (by omega), u64_in (by omega), u64_in (by omega)] at hL ⊢
   have hL' : L = numL k ++ (numL lo ++ (numL m ++ (numL p ++ R))) := by rw [hL]; simp only [List.append_assoc]
   obtain ⟨⟨w1, w2⟩, f1, f2, f3, f4, e4⟩ := walk (by omega) (by omega) (by omega) (by omega) hL'
   have x2 := rb (n := lo) (by omega) (numL m ++ (numL p ++ R))
   have x3 := rb (n := m) (by omega) (numL p ++ R)
   have x4 := rb (n := p) (by omega) R
   have d17 : k17 L = false := by unfold k17; rw [w1, k2]; rfl
   refine ask_of h w1 w2 (e2R_0 (by omega) (by omega) (by omega) f1 f2 f3) (by rw [f1, x2.1]) ?_ ?_ ?_ ?_ ?_ ?_ (fun hh => by rw [d17] at hh; cases hh) ?_
   ·unfold aM; rw [w1, f2, x3.1, k2]; rfl
   ·unfold aP; rw [w1, f3, x4.1, k2]; rfl
   ·unfold aT; rw [w1, k2, qq.2.2.2.2.2.2.1 k2]; rfl
   ·unfold aS; rw [w1, k2, qq.2.2.2.2.2.2.2.1]; rfl
   ·unfold aU; rw [w1, k2, qq.2.2.2.2.2.2.2.2.1]; rfl
   ·unfold aB; rw [w1, k2, qq.2.2.2.2.2.2.2.2.2]; rfl
   ·rw [d17, e4]; simp only [List.length_append, Bool.false_eq_true, if_false]; omega
  ·have qq := q.2.2.2.2.2 (by omega)
   have c2 : decide (k ≤ 2) = false := decide_eq_false (by omega)
   have c1 : decide (k = 1) = false := decide_eq_false k1
   by_cases k7 : k = 7
   ·rw [askL_7 k7, u64_in (by omega), u64_in (by omega), u64_in (by omega), u64_in (by omega), g] at hL ⊢
    have hL' : L = numL k ++ (numL lo ++ (numL sl ++ (numL u ++ (numL (twiceN b) ++ R)))) := by rw [hL]; simp only [List.append_assoc]
    obtain ⟨⟨w1, w2⟩, f1, f2, f3, f4, e4⟩ := walk (by omega) (by omega) (by omega) (by omega) hL'
    have x2 := rb (n := lo) (by omega) (numL sl ++ (numL u ++ (numL (twiceN b) ++ R)))
    have x3 := rb (n := sl) (by omega) (numL u ++ (numL (twiceN b) ++ R))
    have x4 := rb (n := u) (by omega) (numL (twiceN b) ++ R)
    have x5 := sg hb R
    have d17 : k17 L = true := by unfold k17; rw [w1, k7]; rfl
    refine ask_of h w1 w2 (e2R_0 (by omega) (by omega) (by omega) f1 f2 f3) (by rw [f1, x2.1]) ?_ ?_ ?_ ?_ ?_ ?_ (fun _ => by rw [f4, x5.2.2]) ?_
    ·unfold aM; rw [w1, c2, qq.1]; rfl
    ·unfold aP; rw [w1, c2, qq.2.1]; rfl
    ·unfold aT; rw [w1, c1, qq.2.2.1]; rfl
    ·unfold aS; rw [w1, c2, f2, x3.1]; rfl
    ·unfold aU; rw [w1, c2, f3, x4.1]; rfl
    ·unfold aB; rw [w1, f4, x5.1, k7]; rfl
    ·rw [d17, if_pos rfl]; unfold q5; rw [f4, x5.2.1, e4]; simp only [List.length_append]; omega
   ·rw [askL_3 k1 k2 k7, u64_in (by omega), u64_in (by omega), u64_in (by omega), u64_in (by omega)] at hL ⊢
    have hL' : L = numL k ++ (numL lo ++ (numL sl ++ (numL u ++ R))) := by rw [hL]; simp only [List.append_assoc]
    obtain ⟨⟨w1, w2⟩, f1, f2, f3, f4, e4⟩ := walk (by omega) (by omega) (by omega) (by omega) hL'
    have x2 := rb (n := lo) (by omega) (numL sl ++ (numL u ++ R))
    have x3 := rb (n := sl) (by omega) (numL u ++ R)
    have x4 := rb (n := u) (by omega) R
    have c7 : decide (k = 7) = false := decide_eq_false k7
    have d17 : k17 L = false := by unfold k17; rw [w1, c1, c7]; rfl
    refine ask_of h w1 w2 (e2R_0 (by omega) (by omega) (by omega) f1 f2 f3) (by rw [f1, x2.1]) ?_ ?_ ?_ ?_ ?_ ?_ (fun hh => by rw [d17] at hh; cases hh) ?_
    ·unfold aM; rw [w1, c2, qq.1]; rfl
    ·unfold aP; rw [w1, c2, qq.2.1]; rfl
    ·unfold aT; rw [w1, c1, qq.2.2.1]; rfl
    ·unfold aS; rw [w1, c2, f2, x3.1]; rfl
    ·unfold aU; rw [w1, c2, f3, x4.1]; rfl
    ·unfold aB; rw [w1, c7, qq.2.2.2.2.2.2.2.2 k7]; rfl
    ·rw [d17, e4]; simp only [List.length_append, Bool.false_eq_true, if_false]; omega
theorem ask_first {n l s k lo m p t sl u b : Int} (h : askR n l s k lo m p t sl u b = true) {L R : LV} (hL : L = askL k lo m p t sl u b ++ R) : clampK .u64 (rdV L) = k ∧ clampK .i64 (rdE L) = 0 := by
 obtain ⟨h0, q⟩ := ask_b h
 obtain ⟨S, hS⟩ : ∃ S, L = numL k ++ S := by
  rw [hL]
  unfold askL numC
  rw [u64_in (n := k) (by omega)]
  exact ⟨_, by simp only [List.append_assoc]; rfl⟩
 obtain ⟨a, b, c⟩ := rb (n := k) (by omega) S
 rw [← hS] at a c
 exact ⟨a, c⟩
theorem ans_read {n l s e sl u st v : Int} (h : ansR n l s e sl u st = true) (hv : -9223372036854775808 ≤ v ∧ v ≤ 9223372036854775807) {L R : LV} (hL : L = ansL e sl u st v ++ R) : clampK .i64 (fiR 30 n l s L) = 0 ∧ clampK .i64 (fiR 31 n l s L) = e ∧ clampK .i64 (fiR 32 n l s L) = sl ∧ clampK .i64 (fiR 33 n l s L) = u ∧ clampK .i64 (fiR 34 n l s L) = st ∧ clampK .i64 (fiR 35 n l s L) = v ∧ clampK .i64 (fiR 36 n l s L) = ((ansL e sl u st v).length : Int) := by
 obtain ⟨h0, q⟩ := ans_b h
 have bb := shp_b h0
 have g := tw_rng hv
 rw [ansL_e, u64_in (by omega), u64_in (by omega), u64_in (by omega), u64_in (by omega), g] at hL ⊢
 have hL' : L = numL e ++ (numL sl ++ (numL u ++ (numL st ++ (numL (twiceN v) ++ R)))) := by rw [hL]; simp only [List.append_assoc]
 obtain ⟨⟨w1, w2⟩, f1, f2, f3, f4, e4⟩ := walk (by omega) (by omega) (by omega) (by omega) hL'
 have x2 := rb (n := sl) (by omega) (numL u ++ (numL st ++ (numL (twiceN v) ++ R)))
 have x3 := rb (n := u) (by omega) (numL st ++ (numL (twiceN v) ++ R))
 have x4 := rb (n := st) (by omega) (numL (twiceN v) ++ R)
 have x5 := sg hv R
 have hok : nOk n l s L = true := by unfold nOk; rw [w1, f1, x2.1, f2, x3.1, f3, x4.1]; exact h
 have e0 : ansE0 n l s L = 0 := by
  unfold ansE0
  rw [h0, w2, e2R_0 (by omega) (by omega) (by omega) f1 f2 f3, f4, x5.2.2, hok]; rfl
 have f : ∀ j x, ansF j L = x → -9223372036854775808 ≤ x ∧ x ≤ 9223372036854775807 → clampK .i64 (onOk (ansE0 n l s L) (ansF j L)) = x := fun j x hx hr => by
  rw [e0, hx]; exact cl0 hr
 have n1 := num_len e; have n2 := num_len sl; have n3 := num_len u; have n4 := num_len st; have n5 := num_len (twiceN v)
 refine ⟨by show clampK .i64 (ansE0 n l s L) = 0; rw [e0]; rfl, f 0 _ w1 (by omega), f 1 _ (by show vI _ = _; rw [f1, x2.1]) (by omega), f 2 _ (by show vI _ = _; rw [f2, x3.1]) (by omega), f 3 _ (by show vI _ = _; rw [f3, x4.1]) (by omega), f 4 _ (by show sI2 _ = _; rw [f4, x5.1]) hv, f 5 _ (by show q5 L = _; unfold q5; rw [f4, x5.2.1, e4]; simp only [List.length_append]; omega) (by simp only [List.length_append]; omega)⟩
end Go.Proofs.Ythenenacmiiphaa.oct
