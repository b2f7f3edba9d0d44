/- Layer octet: bits and bytes as sums and quotients. No condition. -/
import Derived.Test.YthenenacmiiphaaQa
set_option linter.unusedVariables false
set_option linter.unusedSimpArgs false
set_option linter.deprecated false
namespace Go.Proofs.Ythenenacmiiphaa.oct
open Go Go.Proofs.Ythenenacmiiphaa.Sx
theorem byte_cases {p : Int → Prop} (h : ∀ b : Nat, b < 256 → p (b : Int)) {b : Int} (h0 : 0 ≤ b) (h1 : b ≤ 255) : p b := by
 have := h b.toNat (by omega)
 rwa [Int.toNat_of_nonneg h0] at this
theorem and_all : ∀ b : Nat, b < 256 → binI .and .u8 (b : Int) 127 = (b : Int) % 128 := by decide +kernel
theorem or_all : ∀ b : Nat, b < 256 → binI .or .u8 (b : Int) 128 = 128 + (b : Int) % 128 := by decide +kernel
theorem and_b {b : Int} (h0 : 0 ≤ b) (h1 : b ≤ 255) : binI .and .u8 b 127 = b % 128 := byte_cases (p := fun b => binI .and .u8 b 127 = b % 128) and_all h0 h1
theorem or_b {b : Int} (h0 : 0 ≤ b) (h1 : b ≤ 255) : binI .or .u8 b 128 = 128 + b % 128 := byte_cases (p := fun b => binI .or .u8 b 128 = 128 + b % 128) or_all h0 h1
theorem wrap8 (n : Int) : IntKind.wrap .u8 n = n % 256 := by
 unfold IntKind.wrap; simp [IntKind.bits, IntKind.signed]
theorem wrap64u (n : Int) : IntKind.wrap .u64 n = n % 18446744073709551616 := by
 unfold IntKind.wrap; simp [IntKind.bits, IntKind.signed]
theorem shr7 {n : Int} (h : 0 ≤ n) : binI .shr .u64 n 7 = n / 128 := by
 show n.fdiv (2 ^ (min (7 : Int).toNat 64)) = n / 128
 rw [show (2 : Int) ^ (min (7 : Int).toNat 64) = 128 by decide, Int.fdiv_eq_ediv_of_nonneg _ (by omega)]
theorem bI_rng (L : LV) (i : Nat) : 0 ≤ bI L i ∧ bI L i ≤ 255 := clamp_rng .u8 _
theorem b_z {L : LV} {i : Int} (h : 0 ≤ i) : clampK .u8 (intV (celV L i 0)) = bI L i.toNat := by
 unfold bI; rw [Int.toNat_of_nonneg h]
theorem pow7 (i : Nat) : (128 : Int) ^ i = ((2 ^ (7 * i) : Nat) : Int) := by
 rw [Nat.pow_mul, Int.natCast_pow]; rfl
theorem shl7 {X i : Nat} (hX : X < 128) (hi : i ≤ 9) (h9 : i = 9 → X ≤ 1) : binI .shl .u64 (X : Int) (7 * (i : Int)) = ((2 ^ (7 * i) * X : Nat) : Int) ∧ 2 ^ (7 * i) * X < 2 ^ 64 := by
 have hb : 2 ^ (7 * i) * X < 2 ^ 64 := by
  by_cases e : i = 9
  ·subst e
   have := h9 rfl
   calc 2 ^ (7 * 9) * X ≤ 2 ^ (7 * 9) * 1 := Nat.mul_le_mul_left _ this
    _ < 2 ^ 64 := by decide
  ·have h1 : 2 ^ (7 * i) ≤ 2 ^ 56 := Nat.pow_le_pow_right (by omega) (by omega)
   calc 2 ^ (7 * i) * X ≤ 2 ^ 56 * 127 := Nat.mul_le_mul h1 (by omega)
    _ < 2 ^ 64 := by decide
 refine ⟨?_, hb⟩
 show IntKind.wrap .u64 ((X : Int) * 2 ^ (min (7 * (i : Int)).toNat 64)) = _
 rw [show min (7 * (i : Int)).toNat 64 = 7 * i by omega, wrap64u]
 have e : (X : Int) * 2 ^ (7 * i) = ((2 ^ (7 * i) * X : Nat) : Int) := by
  rw [Int.natCast_mul, Int.natCast_pow, Int.mul_comm]; rfl
 rw [e]
 exact Int.emod_eq_of_lt (by omega) (by omega)
theorem or_nat {a b : Nat} (ha : a < 2 ^ 64) (hb : b < 2 ^ 64) : binI .or .u64 (a : Int) (b : Int) = ((a ||| b : Nat) : Int) := by
 show IntKind.wrap .u64 (((BitVec.ofInt 64 (a : Int) ||| BitVec.ofInt 64 (b : Int)).toNat : Nat) : Int) = _
 have h : (BitVec.ofInt 64 (a : Int) ||| BitVec.ofInt 64 (b : Int)).toNat = a ||| b := by
  rw [BitVec.toNat_or, BitVec.ofInt_natCast, BitVec.ofInt_natCast, BitVec.toNat_ofNat, BitVec.toNat_ofNat, Nat.mod_eq_of_lt ha, Nat.mod_eq_of_lt hb]
 rw [h, wrap64u]
 have := Nat.or_lt_two_pow ha hb
 exact Int.emod_eq_of_lt (by omega) (by omega)
theorem or64 {n b : Int} {i : Nat} (hn0 : 0 ≤ n) (hn : n < 128 ^ i) (hb0 : 0 ≤ b) (hb : b ≤ 255) (hi : i ≤ 9) (h9 : i = 9 → b ≤ 1) : binI .or .u64 n (binI .shl .u64 (b % 128) (7 * (i : Int))) = n + b % 128 * 128 ^ i := by
 obtain ⟨N, rfl⟩ : ∃ N : Nat, n = N := ⟨n.toNat, by omega⟩
 obtain ⟨X, hX⟩ : ∃ X : Nat, b % 128 = X := ⟨(b % 128).toNat, by omega⟩
 rw [hX]
 obtain ⟨h1, h2⟩ := shl7 (X := X) (i := i) (by omega) hi (fun e => by have := h9 e; omega)
 rw [pow7] at hn ⊢
 have hN : N < 2 ^ (7 * i) := by omega
 have hp : 2 ^ (7 * i) ≤ 2 ^ 63 := Nat.pow_le_pow_right (by omega) (by omega)
 rw [h1, or_nat (by omega) h2, Nat.or_comm, ← Nat.two_pow_add_eq_or_of_lt hN]
 rw [Int.natCast_add, Int.natCast_mul, Int.mul_comm, Int.add_comm]
theorem val_rng (L : LV) : ∀ i, 0 ≤ valI L i ∧ valI L i < 128 ^ i
 | 0 => ⟨by simp [valI], by simp [valI]⟩
 | i + 1 => by
  obtain ⟨h1, h2⟩ := val_rng L i
  have hb := bI_rng L i
  have hp : (0 : Int) < 128 ^ i := by rw [pow7]; have := Nat.two_pow_pos (7 * i); omega
  have h3 : bI L i % 128 * 128 ^ i ≤ 127 * 128 ^ i := Int.mul_le_mul_of_nonneg_right (by omega) (by omega)
  have h4 : 0 ≤ bI L i % 128 * 128 ^ i := Int.mul_nonneg (by omega) (by omega)
  rw [valI, Int.pow_succ]
  exact ⟨by omega, by omega⟩
theorem stop9 {L : LV} : stopP L 9 = true := by
 have := bI_rng L 9
 simp only [stopP, badP, Bool.or_eq_true, decide_eq_true_eq]
 by_cases h : bI L 9 < 128
 ·exact .inr h
 ·exact .inl (.inr ⟨trivial, by omega⟩)
theorem run9 {L : LV} {i : Nat} (h : firstP (stopP L) i = i) : i ≤ 9 := by
 refine Nat.not_lt.1 fun hh => ?_
 have := first_lt (p := stopP L) (n := i) (i := 9) (by omega)
 rw [stop9] at this; cases this
theorem val_top {L : LV} {i : Nat} (hf : firstP (stopP L) i = i) (hb : badP L i = false) : valI L (i + 1) ≤ 18446744073709551615 := by
 have h9 := run9 hf
 have hr := val_rng L i
 have hbi := bI_rng L i
 rw [valI]
 by_cases e : i = 9
 ·subst e
  simp only [badP, Bool.or_eq_false_iff, decide_eq_false_iff_not] at hb
  have : bI L 9 ≤ 1 := Int.not_lt.1 fun h => hb.2 ⟨trivial, h⟩
  have h2 : bI L 9 % 128 ≤ 1 := by omega
  have h3 : bI L 9 % 128 * 128 ^ 9 ≤ 1 * 128 ^ 9 := Int.mul_le_mul_of_nonneg_right h2 (by decide)
  have h4 : (128 : Int) ^ 9 = 9223372036854775808 := by decide
  rw [h4] at h3 hr ⊢
  omega
 ·have hr2 := (val_rng L (i + 1)).2
  rw [valI] at hr2
  have hp : (128 : Int) ^ (i + 1) ≤ 18446744073709551616 := by
   rw [pow7]
   have : 2 ^ (7 * (i + 1)) ≤ 2 ^ 63 := Nat.pow_le_pow_right (by omega) (by omega)
   omega
  omega
end Go.Proofs.Ythenenacmiiphaa.oct
