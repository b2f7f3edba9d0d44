/- Layer octet: signs. No condition. -/
import Derived.Test.YthenenacmiiphaaQf
set_option linter.unusedVariables false
set_option linter.unusedSimpArgs false
set_option linter.deprecated false
namespace Go.Proofs.Ythenenacmiiphaa.oct
open Go Go.Proofs.Ythenenacmiiphaa.Sx
theorem wrap64i (n : Int) (h0 : 0 ≤ n) (h1 : n < 18446744073709551616) : IntKind.wrap .i64 n = if n < 9223372036854775808 then n else n - 18446744073709551616 := by
 unfold IntKind.wrap; simp [IntKind.bits, IntKind.signed]; split <;> omega
theorem xor_zero (k : IntKind) (x : Int) : binI .xor k x 0 = k.wrap ((BitVec.ofInt k.bits x).toNat : Int) := by
 show k.wrap _ = _
 rw [show BitVec.ofInt k.bits 0 = 0#k.bits by simp, BitVec.xor_zero]
theorem ofInt_nat {x : Int} (h0 : 0 ≤ x) (h1 : x < 18446744073709551616) : ((BitVec.ofInt 64 x).toNat : Int) = x := by
 rw [BitVec.toNat_ofInt]
 have : (x % ((2 ^ 64 : Nat) : Int)) = x := Int.emod_eq_of_lt h0 (by simpa using h1)
 rw [this]; omega
theorem not_nat {x y : Int} (h0 : 0 ≤ x) (h1 : x < 18446744073709551616) (hy : BitVec.ofInt 64 y = BitVec.allOnes 64) : ((BitVec.ofInt 64 x ^^^ BitVec.ofInt 64 y).toNat : Int) = 18446744073709551615 - x := by
 rw [hy, BitVec.xor_allOnes, BitVec.toNat_not]
 have := ofInt_nat h0 h1
 omega
theorem shr63 {n : Int} (h0 : -9223372036854775808 ≤ n) (h1 : n ≤ 9223372036854775807) : binI .shr .i64 n 63 = if n < 0 then -1 else 0 := by
 show n.fdiv (2 ^ (min (63 : Int).toNat 64)) = _
 rw [show (2 : Int) ^ (min (63 : Int).toNat 64) = 9223372036854775808 by decide, Int.fdiv_eq_ediv_of_nonneg _ (by omega)]
 split <;> omega
theorem xor_twice {n : Int} (h0 : -9223372036854775808 ≤ n) (h1 : n ≤ 9223372036854775807) : binI .xor .u64 (binI .shl .u64 (IntKind.wrap .u64 n) 1) (IntKind.wrap .u64 (binI .shr .i64 n 63)) = twiceN n := by
 have e : binI .shl .u64 (IntKind.wrap .u64 n) 1 = (2 * n) % 18446744073709551616 := by
  show IntKind.wrap .u64 (IntKind.wrap .u64 n * 2 ^ (min (1 : Int).toNat 64)) = _
  rw [show (2 : Int) ^ (min (1 : Int).toNat 64) = 2 by decide, wrap64u, wrap64u]; omega
 rw [e, shr63 h0 h1]
 unfold twiceN
 by_cases h : n < 0
 ·rw [if_pos h, if_pos h]
  show IntKind.wrap .u64 ((BitVec.ofInt 64 ((2 * n) % 18446744073709551616) ^^^ BitVec.ofInt 64 (IntKind.wrap .u64 (-1))).toNat : Int) = _
  rw [not_nat (by omega) (by omega) (by rw [wrap64u]; decide), wrap64u]; omega
 ·rw [if_neg h, if_neg h, show IntKind.wrap .u64 0 = 0 by decide, xor_zero]
  show IntKind.wrap .u64 ((BitVec.ofInt 64 ((2 * n) % 18446744073709551616)).toNat : Int) = _
  rw [ofInt_nat (by omega) (by omega), wrap64u]; omega
theorem and1 {u : Int} (h0 : 0 ≤ u) (h1 : u ≤ 18446744073709551615) : binI .and .u64 u 1 = u % 2 := by
 show IntKind.wrap .u64 ((BitVec.ofInt 64 u &&& BitVec.ofInt 64 1).toNat : Int) = _
 have e : (BitVec.ofInt 64 u &&& BitVec.ofInt 64 1).toNat = (BitVec.ofInt 64 u).toNat % 2 := by
  rw [BitVec.toNat_and]
  exact Nat.and_one_is_mod _
 have := ofInt_nat h0 (by omega)
 rw [e, wrap64u]; omega
theorem shr1 {u : Int} (h0 : 0 ≤ u) : binI .shr .u64 u 1 = u / 2 := by
 show u.fdiv (2 ^ (min (1 : Int).toNat 64)) = _
 rw [show (2 : Int) ^ (min (1 : Int).toNat 64) = 2 by decide, Int.fdiv_eq_ediv_of_nonneg _ (by omega)]
theorem xor_half {u : Int} (h0 : 0 ≤ u) (h1 : u ≤ 18446744073709551615) : binI .xor .i64 (IntKind.wrap .i64 (binI .shr .u64 u 1)) (0 - binI .and .u64 u 1) = halfN u := by
 rw [and1 h0 h1, shr1 h0, wrap64i _ (by omega) (by omega), if_pos (by omega)]
 unfold halfN
 by_cases h : u % 2 = 1
 ·rw [if_pos h, h]
  show IntKind.wrap .i64 ((BitVec.ofInt 64 (u / 2) ^^^ BitVec.ofInt 64 (0 - 1)).toNat : Int) = _
  rw [not_nat (by omega) (by omega) (by decide), wrap64i _ (by omega) (by omega)]
  split <;> omega
 ·rw [if_neg h, show (0 : Int) - u % 2 = 0 by omega, xor_zero]
  show IntKind.wrap .i64 ((BitVec.ofInt 64 (u / 2)).toNat : Int) = _
  rw [ofInt_nat (by omega) (by omega), wrap64i _ (by omega) (by omega), if_pos (by omega)]
theorem half_in {u : Int} (h0 : 0 ≤ u) (h1 : u ≤ 18446744073709551615) : clampK .i64 (halfN u) = halfN u := by
 refine clamp_id ?_
 show (-9223372036854775808 : Int) ≤ halfN u ∧ halfN u ≤ (9223372036854775807 : Int)
 unfold halfN; split <;> omega
theorem rd_none {R : LV} (h : ¬ clampK .i64 (rdE R) = 0) : rdV R = 0 ∧ rdN R = 0 := by
 have e : okR R = false := Bool.eq_false_iff.2 fun hh => h (by rw [rdE, hh]; rfl)
 exact ⟨by rw [rdV, e]; rfl, by rw [rdN, e]; rfl⟩
theorem rd_rng (R : LV) : 0 ≤ clampK .u64 (rdV R) ∧ clampK .u64 (rdV R) ≤ 18446744073709551615 := clamp_rng .u64 _
end Go.Proofs.Ythenenacmiiphaa.oct
