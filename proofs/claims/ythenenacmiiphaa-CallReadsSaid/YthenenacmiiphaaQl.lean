/- Layer octet: no number's bytes begin another one's; a number is read back. No condition. -/
import Derived.Test.YthenenacmiiphaaQi
set_option linter.unusedVariables false
set_option linter.unusedSimpArgs false
set_option linter.deprecated false
namespace Go.Proofs.Ythenenacmiiphaa.oct
open Go Go.Proofs.Ythenenacmiiphaa.Sx
theorem numF_pre : ∀ (f : Nat) (a b : Int) (m : Nat), 0 ≤ a → 0 ≤ b → (numF f a).length ≤ m ∨ (numF f b).length ≤ m → (numF f a).take m = (numF f b).take m → a = b
 | 0, a, b, m, _, _, hm, h => by
  simp only [numF, List.length_cons, List.length_nil, or_self] at hm
  obtain ⟨k, rfl⟩ : ∃ k, m = k + 1 := ⟨m - 1, by omega⟩
  simp only [numF, List.take_succ_cons, List.cons.injEq] at h
  exact h.1
 | f + 1, a, b, m, ha, hb, hm, h => by
  have l1 := (numF_len (f + 1) a).1
  have l2 := (numF_len (f + 1) b).1
  obtain ⟨k, rfl⟩ : ∃ k, m = k + 1 := ⟨m - 1, by omega⟩
  by_cases ca : a < 128 <;> by_cases cb : b < 128
  ·rw [numF_low ca, numF_low cb] at h
   simp only [List.take_succ_cons, List.cons.injEq] at h
   exact h.1
  ·rw [numF_low ca, numF_up cb] at h
   simp only [List.take_succ_cons, List.cons.injEq] at h
   omega
  ·rw [numF_up ca, numF_low cb] at h
   simp only [List.take_succ_cons, List.cons.injEq] at h
   omega
  ·rw [numF_up ca, numF_up cb] at h hm
   simp only [List.take_succ_cons, List.cons.injEq] at h
   simp only [List.length_cons] at hm
   have := numF_pre f (a / 128) (b / 128) k (by omega) (by omega) (by omega) h.2
   omega
theorem rowB_inj {a b : List Int} (h : rowB a = rowB b) : a = b := by
  induction a generalizing b with
  | nil => cases b with
    | nil => rfl
    | cons y b => simp [rowB] at h
  | cons x a ih => cases b with
    | nil => simp [rowB] at h
    | cons y b =>
      simp only [rowB, List.map_cons, List.cons.injEq, Value.int.injEq, true_and, and_true] at h
      rw [h.1, ih h.2]
theorem take_rowB (a : List Int) (n : Nat) : (rowB a).take n = rowB (a.take n) := by simp [rowB, List.map_take]
theorem pre1 {a b : Int} (ha : 0 ≤ a) (hb : 0 ≤ b) (h : numL a = List.take (((numL a).length : Nat) : Int).toNat (numL b)) : a = b := by
 rw [Int.toNat_natCast] at h
 refine numF_pre 9 a b (numL a).length ha hb (.inl (by simp [numL, rowB])) (rowB_inj ?_)
 rw [← take_rowB, ← take_rowB]
 show List.take _ (numL a) = List.take _ (numL b)
 rw [← h, List.take_of_length_le (Nat.le_refl _)]
theorem pre2 {a b : Int} (ha : 0 ≤ a) (hb : 0 ≤ b) (h : List.take (((numL b).length : Nat) : Int).toNat (numL a) = numL b) : a = b := (pre1 hb ha h.symm).symm
theorem self1 (a : Int) : numL a = List.take (((numL a).length : Nat) : Int).toNat (numL a) := by
 rw [Int.toNat_natCast, List.take_of_length_le (Nat.le_refl _)]
theorem twice_inj {a b : Int} (h : twiceN a = twiceN b) : a = b := by
 unfold twiceN at h
 split at h <;> split at h <;> omega
theorem twice_rng {a : Int} (h : -9223372036854775808 ≤ a ∧ a ≤ 9223372036854775807) : 0 ≤ twiceN a ∧ twiceN a ≤ 18446744073709551615 := by
 unfold twiceN; split <;> omega
theorem half_twice {a : Int} : halfN (twiceN a) = a := by
 unfold twiceN halfN
 split <;> split <;> omega
theorem numF_get : ∀ (f : Nat) (n : Int) (i : Nat), i < (numF f n).length → (numF f n)[i]? = some (if i + 1 < (numF f n).length then 128 + divs n i % 128 else divs n i) ∧ (i + 1 < (numF f n).length → 128 ≤ divs n i) ∧ (i + 1 = (numF f n).length → f = i ∨ divs n i < 128)
 | 0, n, i, h => by
  simp only [numF, List.length_cons, List.length_nil] at h ⊢
  obtain rfl : i = 0 := by omega
  exact ⟨by simp [divs], fun h => by omega, fun _ => .inl rfl⟩
 | f + 1, n, i, h => by
  by_cases c : n < 128
  ·rw [numF_low c] at h ⊢
   simp only [List.length_cons, List.length_nil] at h ⊢
   obtain rfl : i = 0 := by omega
   exact ⟨by simp [divs], fun h => by omega, fun _ => .inr c⟩
  ·rw [numF_up c] at h ⊢
   have hl := (numF_len f (n / 128)).1
   simp only [List.length_cons] at h ⊢
   cases i with
   | zero =>
    refine ⟨?_, fun _ => by show 128 ≤ n; omega, fun e => by omega⟩
    rw [if_pos (by omega)]; rfl
   | succ i =>
    obtain ⟨h1, h2, h3⟩ := numF_get f (n / 128) i (by omega)
    rw [divs_s] at h1 h2 h3
    refine ⟨?_, fun e => h2 (by omega), fun e => ?_⟩
    ·rw [List.getElem?_cons_succ, h1]
     congr 1
     by_cases e : i + 1 < (numF f (n / 128)).length
     ·rw [if_pos e, if_pos (by omega)]
     ·rw [if_neg e, if_neg (by omega)]
    ·rcases h3 (by omega) with e2 | e2
     ·exact .inl (by omega)
     ·exact .inr e2
theorem bI_num {n : Int} (h0 : 0 ≤ n) (h1 : n ≤ 18446744073709551615) {S : LV} {i : Nat} (hi : i < (numL n).length) : bI (numL n ++ S) i = (if i + 1 < (numL n).length then 128 + divs n i % 128 else divs n i) := by
 have hl : (numL n).length = (numF 9 n).length := by simp [numL, rowB]
 have hg := (numF_get 9 n i (by omega)).1
 have hb : ∀ b, (numF 9 n)[i]? = some b → 0 ≤ b ∧ b ≤ 255 := fun b hb => by
  refine numF_byte (fun f => 128 ^ f) (by decide) (fun f => Int.pow_succ _ _) 9 n h0 ?_ b (List.mem_of_getElem? hb)
  show n < 128 ^ 9 * 256
  have e : (128 : Int) ^ 9 * 256 = 2361183241434822606848 := by decide
  omega
 have hr := hb _ hg
 rw [← hl] at hg hr
 have e1 : (numL n ++ S).getD (i : Int).toNat [] = [Value.int .u8 (if i + 1 < (numL n).length then 128 + divs n i % 128 else divs n i)] := by
  rw [List.getD_eq_getElem?_getD, Int.toNat_natCast, List.getElem?_append_left hi]
  show (rowB (numF 9 n))[i]?.getD [] = _
  rw [rowB, List.getElem?_map, hg]; rfl
 unfold bI celV
 rw [e1]
 show clampK .u8 (if i + 1 < (numL n).length then 128 + divs n i % 128 else divs n i) = _
 exact clamp_id (k := .u8) ⟨hr.1, hr.2⟩
theorem val_num {n : Int} (h0 : 0 ≤ n) (h1 : n ≤ 18446744073709551615) {S : LV} : ∀ i : Nat, i + 1 ≤ (numL n).length → valI (numL n ++ S) i + divs n i * 128 ^ i = n
 | 0, _ => by simp [valI, divs]
 | i + 1, h => by
  have ih := val_num h0 h1 (S := S) i (by omega)
  rw [valI, bI_num h0 h1 (by omega), if_pos (by omega), Int.pow_succ, divs]
  have e : (128 + divs n i % 128) % 128 = divs n i % 128 := by omega
  rw [e]
  have e2 : divs n i = divs n i % 128 + divs n i / 128 * 128 := by omega
  have e3 : divs n i * 128 ^ i = divs n i % 128 * 128 ^ i + divs n i / 128 * (128 ^ i * 128) := by
   rw [Int.mul_comm (128 ^ i) 128, ← Int.mul_assoc, ← Int.add_mul, ← e2]
  omega
theorem divs_big {n : Int} (h0 : 0 ≤ n) (h1 : n ≤ 18446744073709551615) : divs n 9 ≤ 1 := by
 simp only [divs]; omega
theorem read_back {n : Int} (h0 : 0 ≤ n) (h1 : n ≤ 18446744073709551615) (S : LV) : rdV (numL n ++ S) = n ∧ rdN (numL n ++ S) = ((numL n).length : Int) ∧ rdE (numL n ++ S) = 0 := by
 obtain ⟨l1, l2⟩ := num_len n
 obtain ⟨k, hk⟩ : ∃ k, (numL n).length = k + 1 := ⟨(numL n).length - 1, by omega⟩
 have hl : (numL n).length = (numF 9 n).length := by simp [numL, rowB]
 have hlast : bI (numL n ++ S) k = divs n k := by rw [bI_num h0 h1 (by omega), if_neg (by omega)]
 have hbelow : divs n k < 128 := by
  rcases (numF_get 9 n k (by omega)).2.2 (by omega) with e | e
  ·rw [← e]; have := divs_big h0 h1; omega
  ·exact e
 have hnn := divs_nn h0 k
 have hbad : badP (numL n ++ S) k = false := by
  simp only [badP, Bool.or_eq_false_iff, decide_eq_false_iff_not, hlast]
  refine ⟨fun ⟨a, b⟩ => ?_, fun ⟨a, b⟩ => ?_⟩
  ·obtain ⟨j, rfl⟩ : ∃ j, k = j + 1 := ⟨k - 1, by omega⟩
   have := (numF_get 9 n j (by omega)).2.1 (by omega)
   rw [divs] at b; omega
  ·subst a; have := divs_big h0 h1; omega
 have hrun : firstP (stopP (numL n ++ S)) k = k := first_none fun i hi => by
  have hb := bI_num h0 h1 (S := S) (i := i) (by omega)
  rw [if_pos (by omega)] at hb
  have hd := divs_nn h0 i
  simp only [stopP, badP, hb, Bool.or_eq_false_iff, decide_eq_false_iff_not]
  exact ⟨⟨fun ⟨_, b⟩ => by omega, fun ⟨a, _⟩ => by omega⟩, by omega⟩
 have hz : clampK .u8 (intV (celV (numL n ++ S) (k : Int) 0)) = bI (numL n ++ S) k := rfl
 obtain ⟨a, b, c⟩ := r_ok (R := numL n ++ S) (i := (k : Int)) (by omega) (by rw [List.length_append]; omega) (by rw [Int.toNat_natCast]; exact hrun) (by rw [Int.toNat_natCast]; exact hbad) (by rw [hz, hlast]; exact hbelow)
 refine ⟨?_, by rw [b]; omega, c⟩
 rw [a, show ((k : Int) + 1).toNat = k + 1 by omega, valI, hlast]
 have := val_num h0 h1 (S := S) k (by omega)
 rw [show divs n k % 128 = divs n k by omega]
 exact this
end Go.Proofs.Ythenenacmiiphaa.oct
