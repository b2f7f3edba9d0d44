/- Layer site: sites as numbers. No condition. -/
import Derived.Test.YtdfgidogiacmnaaDoorSd
set_option linter.unusedVariables false
set_option linter.unusedSimpArgs false
set_option linter.deprecated false
namespace Go.Proofs.YtdfgidogiacmnaaDoor.sit
open Go Go.Proofs.YtdfgidogiacmnaaDoor.Sx
theorem wr {x : Int} (h0 : -1000000 ≤ x) (h1 : x ≤ 1000000) : IntKind.i64.wrap x = x := wrap_in .i64 _ (by show (-9223372036854775808 : Int) ≤ _; omega) (by show _ ≤ (9223372036854775807 : Int); omega)
theorem prod_in {n s : Int} (h1 : 1 ≤ n) (h2 : n ≤ 64) (h3 : 1 ≤ s) (h4 : s ≤ 4) : IntKind.i64.wrap (n * s) = n * s ∧ IntKind.i64.wrap (IntKind.i64.wrap (n * s) - 1) = n * s - 1 ∧ 1 ≤ n * s ∧ n * s ≤ 256 := by
  have m1 : (1 : Int) * 1 ≤ n * s := Int.mul_le_mul h1 h3 (by omega) (by omega)
  have m2 : n * s ≤ 64 * 4 := Int.mul_le_mul h2 h4 (by omega) (by omega)
  have w := wr (x := n * s) (by omega) (by omega)
  refine ⟨w, ?_, by omega, by omega⟩
  rw [w, wr (by omega) (by omega)]
theorem div_at {a b s : Int} (h0 : 0 ≤ a * s) (h1 : 0 ≤ b) (h2 : b < s) : (a * s + b).tdiv s = a ∧ (a * s + b).tmod s = b := by
  have hs : 0 < s := by omega
  have ht : (a * s + b).tdiv s = (a * s + b) / s := Int.tdiv_eq_ediv_of_nonneg (by omega)
  have hm : (a * s + b).tmod s = (a * s + b) % s := Int.tmod_eq_emod_of_nonneg (by omega)
  refine ⟨?_, ?_⟩
  · rw [ht, Int.add_comm, Int.add_mul_ediv_right _ _ (by omega), Int.ediv_eq_zero_of_lt h1 h2]; omega
  · rw [hm, Int.add_comm, Int.add_mul_emod_self_right, Int.emod_eq_of_lt h1 h2]
theorem site_at {n s a b : Int} (h1 : 1 ≤ n) (h2 : n ≤ 64) (h3 : 1 ≤ s) (h4 : s ≤ 4) (a0 : 0 ≤ a) (a1 : a ≤ n - 1) (b0 : 0 ≤ b) (b1 : b ≤ s - 1) : IntKind.i64.wrap (IntKind.i64.wrap (a * s) + b) = a * s + b ∧ 0 ≤ a * s ∧ a * s + b ≤ n * s - 1 ∧ binI .quo .i64 (IntKind.i64.wrap (IntKind.i64.wrap (a * s) + b)) s = a ∧ binI .rem .i64 (IntKind.i64.wrap (IntKind.i64.wrap (a * s) + b)) s = b := by
  have m0 : 0 ≤ a * s := Int.mul_nonneg a0 (by omega)
  have m1 : a * s ≤ (n - 1) * s := Int.mul_le_mul_of_nonneg_right a1 (by omega)
  have m2 : (n - 1) * s = n * s - s := by rw [Int.sub_mul, Int.one_mul]
  have m3 := (prod_in h1 h2 h3 h4).2.2.2
  have w : IntKind.i64.wrap (IntKind.i64.wrap (a * s) + b) = a * s + b := by rw [wr (x := a * s) (by omega) (by omega), wr (by omega) (by omega)]
  have d := div_at (a := a) m0 b0 (by omega)
  refine ⟨w, m0, by omega, ?_, ?_⟩
  · rw [w]
    show IntKind.i64.wrap ((a * s + b).tdiv s) = a
    rw [d.1, wr (by omega) (by omega)]
  · rw [w]
    exact d.2
theorem each_at {N s a b n : Int} (h1 : 1 ≤ N) (h2 : N ≤ 64) (h3 : 1 ≤ s) (h4 : s ≤ 4) (a0 : 0 ≤ a) (a1 : a ≤ N - 1) (b0 : 0 ≤ b) (b1 : b ≤ s - 1) (hn : n = a * s + b) : 0 ≤ n ∧ n ≤ N * s - 1 ∧ binI .quo .i64 n s = a ∧ binI .rem .i64 n s = b := by
  obtain ⟨w, d1, d2, d3, d4⟩ := site_at h1 h2 h3 h4 a0 a1 b0 b1
  rw [w, ← hn] at d3 d4
  exact ⟨by omega, by omega, d3, d4⟩
theorem row_next (a s : Int) : (a + 1) * s = a * s + s := by rw [Int.add_mul, Int.one_mul]
end Go.Proofs.YtdfgidogiacmnaaDoor.sit
