/- Layer octet: bytes that a number has, by their steps. No condition. -/
import Derived.Test.YthenenacmiiphaaQc
set_option linter.unusedVariables false
set_option linter.unusedSimpArgs false
set_option linter.deprecated false
namespace Go.Proofs.Ythenenacmiiphaa.oct
open Go Go.Proofs.Ythenenacmiiphaa.Sx
theorem or_low {n : Int} (h : 0 ≤ n) : binI .or .u8 (IntKind.wrap .u8 n) 128 = 128 + n % 128 := by
 rw [wrap8, or_b (by omega) (by omega)]; omega
theorem wrap_low {n : Int} (h0 : 0 ≤ n) (h1 : n < 256) : IntKind.wrap .u8 n = n := by
 rw [wrap8]; omega
theorem rowB_len (l : List Int) : (rowB l).length = l.length := by simp [rowB]
theorem rowB_cons (a : Int) (l : List Int) : rowB (a :: l) = [[Value.int .u8 a]] ++ rowB l := rfl
theorem rowB_app (a b : List Int) : rowB (a ++ b) = rowB a ++ rowB b := by simp [rowB]
theorem rowB_one (a : Int) : rowB [a] = [[Value.int .u8 a]] := rfl
theorem u64_in {n : Int} (h : 0 ≤ n ∧ n ≤ 18446744073709551615) : clampK .u64 n = n := clamp_id h
theorem numF_end {n : Int} (h : n < 128) : ∀ f, numF f n = [n]
 | 0 => rfl
 | f + 1 => numF_low h
def divs (n : Int) : Nat → Int
 | 0 => n
 | f + 1 => divs n f / 128
theorem divs_s (n : Int) : ∀ f, divs (n / 128) f = divs n (f + 1)
 | 0 => rfl
 | f + 1 => by rw [divs, divs_s n f]; rfl
theorem divs_nn {n : Int} (h : 0 ≤ n) : ∀ f, 0 ≤ divs n f
 | 0 => h
 | f + 1 => by have := divs_nn h f; rw [divs]; omega
theorem divs9 {n : Int} (h0 : 0 ≤ n) (h1 : n ≤ 18446744073709551615) : divs n 9 < 128 := by
 simp only [divs]; omega
structure Mid (N n : Int) (l : LV) (p : List Int) : Prop where
 l : l = rowB p
 few : p.length ≤ 9
 num : numF 9 N = p ++ numF (9 - p.length) n
 div : n = divs N p.length
theorem mid_s {N n : Int} {l : LV} {p : List Int} (m : Mid N n l p) (h0 : 0 ≤ N) (h1 : N ≤ 18446744073709551615) (h : ¬ n < 128) : Mid N (n / 128) (l ++ [[Value.int .u8 (128 + n % 128)]]) (p ++ [128 + n % 128]) := by
 have hl : p.length < 9 := by
  refine Nat.lt_of_le_of_ne m.few fun e => h ?_
  rw [m.div, e]; exact divs9 h0 h1
 refine ⟨?_, ?_, ?_, ?_⟩
 ·rw [m.l, rowB_app, rowB_one]
 ·simp only [List.length_append, List.length_cons, List.length_nil]; omega
 ·rw [m.num, List.append_assoc]
  have e : 9 - p.length = (9 - (p ++ [128 + n % 128]).length) + 1 := by simp only [List.length_append, List.length_cons, List.length_nil]; omega
  rw [e, numF_up h]; rfl
 ·rw [show (p ++ [128 + n % 128]).length = p.length + 1 by simp, divs, ← m.div]
theorem mid_e {N n : Int} {l : LV} {p : List Int} (m : Mid N n l p) (h : n < 128) : rowB (numF 9 N) = l ++ [[Value.int .u8 n]] := by
 rw [m.num, numF_end h, rowB_app, rowB_one, m.l]
theorem mid_0 (N : Int) : Mid N N [] [] := ⟨rfl, by simp, rfl, rfl⟩
end Go.Proofs.Ythenenacmiiphaa.oct
