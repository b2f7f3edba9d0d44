/- Run of a bad counter, Spare, the number drawer and the works of a law answer as written. -/
import Derived.Test.YtgcejfcfaaidhaaRn
set_option linter.unusedSimpArgs false
set_option linter.unusedVariables false
namespace Go.Proofs.Ytgcejfcfaaidhaa
open Go.RowKit

set_option maxRecDepth 100000 in
set_option maxHeartbeats 1000000 in
theorem run_bad (v f n : Int) (m cap : Nat) (ao : Option Addr) (w : World) (hr : ¬ (f ≤ v ∧ n ≤ 4611686018427387904)) :
    Calls Try.prog 20 #[.agg #[.int .i64 v, .int .i64 f, .int .u64 n], .slice ao m cap] w fun e w' => e = .returned (runV 0 (0, 0, 0, 2)) ∧ w.grownBy w' none := by
  go_enter Try.func20, Try.ntmps20
  go_wp2
  refine wp_scope_fwd ?_
  go_wp2_with fail
  refine (right_f _ v f n _ (by go_simp) (by go_simp) (by go_simp) hr).mono ?_
  rintro e w1 ⟨rfl, k1, rfl⟩
  clear hr
  go_wp2_with fail
  apply wp_goto
  simp only [Exit.then, Exit.inBlock]
  refine ⟨_, rfl, ?_⟩
  go_wp2_with fail
  try rw [Exit.noGoto_ret]
  refine bodyPost_ret (v := .tuple #[.agg #[.int .i64 0, .int .i64 0, .int .u64 0], .int .i64 0, .int .i64 2]) (by simp [results, Try.results20, go_sem]) rfl ?_
  exact ⟨rfl, by (repeat' (first | (with_reducible exact World.grownBy.refl _ _) | (with_reducible refine galloc ?_ _) | (with_reducible refine gdrewN ?_ _) | (with_reducible refine gset ?_ (.inl (by simp; try omega)) _)))⟩

set_option maxHeartbeats 400000 in
theorem spareF_any (v f n : Int) (w : World) (hB : Bd v f n) :
    Calls Try.prog 18 #[.agg #[.int .i64 v, .int .i64 f, .int .u64 n]] w fun e w' => e = .returned (if rightB v f n then .tuple #[.int .u64 (v - f), .int .i64 0] else .tuple #[.int .u64 0, .int .i64 2]) ∧ w.grownBy w' none := by
  cases hr : rightB v f n
  · have hf := rightB_f hr
    clear hr
    go_enter Try.func18, Try.ntmps18
    go_wp2_with fail
    refine (right_f _ v f n _ (by go_simp) (by go_simp) (by go_simp) hf).mono ?_
    rintro e w1 ⟨rfl, k1, rfl⟩
    clear hf
    go_wp2_with fail
    go_ret2
    exact ⟨by simp, by (repeat' (first | (with_reducible exact World.grownBy.refl _ _) | (with_reducible refine galloc ?_ _) | (with_reducible refine gdrewN ?_ _) | (with_reducible refine gset ?_ (.inl (by simp; try omega)) _)))⟩
  · obtain ⟨hf, hn⟩ := rightB_t hr
    clear hr
    go_enter Try.func18, Try.ntmps18
    go_wp2_with fail
    refine (right_t _ v f n _ (by go_simp) (by go_simp) (by go_simp) hf hn).mono ?_
    rintro e w1 ⟨rfl, k1, rfl⟩
    go_wp2_with fail
    refine (spare_any _ v f _ (by go_simp) (by go_simp) hB.v1 hB.f0 hf).mono ?_
    rintro e w2 ⟨rfl, k2, rfl⟩
    go_wp2_with fail
    go_ret2
    exact ⟨by simp, by (repeat' (first | (with_reducible exact World.grownBy.refl _ _) | (with_reducible refine galloc ?_ _) | (with_reducible refine gdrewN ?_ _) | (with_reducible refine gset ?_ (.inl (by simp; try omega)) _)))⟩

set_option maxHeartbeats 400000 in
theorem num_any (x : Int) (w : World) (h0 : -9223372036854775808 ≤ x) (h1 : x ≤ 9223372036854775807) : Calls Try.prog 14 #[.int .i64 x] w fun e w' => e = .returned (.int .i64 x) ∧ w = w' := by
  go_enter Try.func14, Try.ntmps14
  go_wp2
  go_ret
  exact ⟨rfl, rfl⟩

/-! ### The chapter's rows -/
theorem d1 (W : World) : Calls Try.prog 8 #[.agg #[.int .i64 5, .int .i64 2, .int .u64 0], .int .i64 3] W fun e w' => e = .returned (.tuple #[.agg #[.int .i64 2, .int .i64 2, .int .u64 1], .int .i64 0]) ∧ W.grownBy w' none := by
  have := debit_pos 5 2 0 3 W ⟨by decide, by decide, by decide, by decide, by decide, by decide⟩ (by decide) (by decide) (by decide)
  exact this
theorem d2 (W : World) : Calls Try.prog 8 #[.agg #[.int .i64 5, .int .i64 2, .int .u64 0], .int .i64 4] W fun e w' => e = .returned (.tuple #[.agg #[.int .i64 0, .int .i64 0, .int .u64 0], .int .i64 140]) ∧ W.grownBy w' none :=
  debit_pos 5 2 0 4 W ⟨by decide, by decide, by decide, by decide, by decide, by decide⟩ (by decide) (by decide) (by decide)
theorem d3 (W : World) : Calls Try.prog 9 #[.agg #[.int .i64 9223372036854775807, .int .i64 0, .int .u64 0], .int .i64 1] W fun e w' => e = .returned (.tuple #[.agg #[.int .i64 0, .int .i64 0, .int .u64 0], .int .i64 141]) ∧ W.grownBy w' none :=
  credit_pos 9223372036854775807 0 0 1 W ⟨by decide, by decide, by decide, by decide, by decide, by decide⟩ (by decide) (by decide) (by decide)
theorem d4 (b : Nat) (W : World) (h : W.heap[b]? = some (.cells #[.int .i64 (-2), .int .i64 4, .int .i64 (-6), .int .i64 1] 2 (0, 0))) :
    Calls Try.prog 20 #[.agg #[.int .i64 5, .int .i64 2, .int .u64 0], .slice (some ⟨b, 0, none⟩) 4 4] W fun e w' => e = .returned (.tuple #[.agg #[.int .i64 7, .int .i64 2, .int .u64 2], .int .i64 2, .int .i64 140]) ∧ W.grownBy w' none := by
  have := run_good 5 2 0 b 0 4 (some ⟨b, 0, none⟩) [-2, 4, -6, 1] W ⟨by decide, by decide, by decide, by decide, by decide, by decide⟩ (by decide) (by decide) (.inl (Array.getElem?_eq_some_iff.1 h).1) (by
    intro k hk
    refine ⟨rfl, ?_, ?_⟩
    · rw [bcell h]
      match k, hk with
      | 0, _ => rfl
      | 1, _ => rfl
      | 2, _ => rfl
      | 3, _ => rfl
    · match k, hk with
      | 0, _ => decide
      | 1, _ => decide
      | 2, _ => decide
      | 3, _ => decide)
  exact this
theorem d5 (W : World) : Calls Try.prog 18 #[.agg #[.int .i64 9223372036854775807, .int .i64 (-9223372036854775808), .int .u64 0]] W fun e w' => e = .returned (.tuple #[.int .u64 18446744073709551615, .int .i64 0]) ∧ W.grownBy w' none :=
  spareF_any 9223372036854775807 (-9223372036854775808) 0 W ⟨by decide, by decide, by decide, by decide, by decide, by decide⟩

set_option maxRecDepth 100000 in
set_option maxHeartbeats 2000000 in
theorem works_any (w : World) : Calls Try.prog 17 #[] w fun e w' => e = .returned (.bool true) ∧ w.grownBy w' none := by
  go_enter Try.func17, Try.ntmps17
  go_wp2_with fail
  refine (d1 _).mono ?_
  rintro e w1 ⟨rfl, hg1⟩
  have f0 : w1.cell? ⟨w.heap.size, 0, none⟩ = some (.int .i64 5) := hg1.cell (by go_simp) (by simp)
  have f1 : w1.cell? ⟨w.heap.size, 1, none⟩ = some (.int .i64 2) := hg1.cell (by go_simp) (by simp)
  have f2 : w1.cell? ⟨w.heap.size, 2, none⟩ = some (.int .u64 0) := hg1.cell (by go_simp) (by simp)
  have g1 : w.grownBy w1 none := by refine gtrans ?_ hg1; (repeat' (first | (with_reducible exact World.grownBy.refl _ _) | (with_reducible assumption) | (with_reducible refine galloc ?_ _) | (with_reducible refine gdrewN ?_ _) | (with_reducible refine gset ?_ (.inl (by simp; try omega)) _)))
  have s1 : w.heap.size < w1.heap.size := by have := hg1.size; simp at this; omega
  clear hg1
  go_wp2_with fail
  refine (d2 _).mono ?_
  rintro e w2 ⟨rfl, hg2⟩
  have f0 : w2.cell? ⟨w.heap.size, 0, none⟩ = some (.int .i64 5) := hg2.cell (by go_simp) (by simp)
  have f1 : w2.cell? ⟨w.heap.size, 1, none⟩ = some (.int .i64 2) := hg2.cell (by go_simp) (by simp)
  have f2 : w2.cell? ⟨w.heap.size, 2, none⟩ = some (.int .u64 0) := hg2.cell (by go_simp) (by simp)
  have a0 : w2.cell? ⟨w1.heap.size, 0, none⟩ = some (.int .i64 2) := hg2.cell (by go_simp) (by simp)
  have a1 : w2.cell? ⟨w1.heap.size, 1, none⟩ = some (.int .i64 2) := hg2.cell (by go_simp) (by simp)
  have a2 : w2.cell? ⟨w1.heap.size, 2, none⟩ = some (.int .u64 1) := hg2.cell (by go_simp) (by simp)
  have g2 : w.grownBy w2 none := by refine gtrans ?_ hg2; (repeat' (first | (with_reducible exact World.grownBy.refl _ _) | (with_reducible assumption) | (with_reducible refine galloc ?_ _) | (with_reducible refine gdrewN ?_ _) | (with_reducible refine gset ?_ (.inl (by simp; try omega)) _)))
  have s2 : w1.heap.size < w2.heap.size := by have := hg2.size; simp at this; omega
  have s2' : w.heap.size < w2.heap.size := by omega
  clear hg2 g1
  go_wp2_with fail
  refine (d3 _).mono ?_
  rintro e w3 ⟨rfl, hg3⟩
  have f0 : w3.cell? ⟨w.heap.size, 0, none⟩ = some (.int .i64 5) := hg3.cell (by go_simp) (by simp)
  have f1 : w3.cell? ⟨w.heap.size, 1, none⟩ = some (.int .i64 2) := hg3.cell (by go_simp) (by simp)
  have f2 : w3.cell? ⟨w.heap.size, 2, none⟩ = some (.int .u64 0) := hg3.cell (by go_simp) (by simp)
  have a0 : w3.cell? ⟨w1.heap.size, 0, none⟩ = some (.int .i64 2) := hg3.cell (by go_simp) (by simp)
  have a1 : w3.cell? ⟨w1.heap.size, 1, none⟩ = some (.int .i64 2) := hg3.cell (by go_simp) (by simp)
  have a2 : w3.cell? ⟨w1.heap.size, 2, none⟩ = some (.int .u64 1) := hg3.cell (by go_simp) (by simp)
  have g3 : w.grownBy w3 none := by refine gtrans ?_ hg3; (repeat' (first | (with_reducible exact World.grownBy.refl _ _) | (with_reducible assumption) | (with_reducible refine galloc ?_ _) | (with_reducible refine gdrewN ?_ _) | (with_reducible refine gset ?_ (.inl (by simp; try omega)) _)))
  have s3 : w2.heap.size < w3.heap.size := by have := hg3.size; simp at this; omega
  have s3' : w1.heap.size < w3.heap.size := by omega
  have s3'' : w.heap.size < w3.heap.size := by omega
  have s4 : w1.heap.size < w3.heap.size + 1 := by omega
  have s4' : w.heap.size < w3.heap.size + 1 := by omega
  clear hg3 g2
  go_wp2_with fail
  refine (d4 (w3.heap.size + 1) _ (hnewAt (by simp))).mono ?_
  rintro e w4 ⟨rfl, hg4⟩
  have a0 : w4.cell? ⟨w1.heap.size, 0, none⟩ = some (.int .i64 2) := hg4.cell (by go_simp) (by simp)
  have a1 : w4.cell? ⟨w1.heap.size, 1, none⟩ = some (.int .i64 2) := hg4.cell (by go_simp) (by simp)
  have a2 : w4.cell? ⟨w1.heap.size, 2, none⟩ = some (.int .u64 1) := hg4.cell (by go_simp) (by simp)
  have g4 : w.grownBy w4 none := by refine gtrans ?_ hg4; (repeat' (first | (with_reducible exact World.grownBy.refl _ _) | (with_reducible assumption) | (with_reducible refine galloc ?_ _) | (with_reducible refine gdrewN ?_ _) | (with_reducible refine gset ?_ (.inl (by simp; try omega)) _)))
  have s5 : w1.heap.size < w4.heap.size := by have := hg4.size; simp at this; omega
  clear hg4 g3
  go_wp2_with fail
  refine (d5 _).mono ?_
  rintro e w5 ⟨rfl, hg5⟩
  have a0 : w5.cell? ⟨w1.heap.size, 0, none⟩ = some (.int .i64 2) := hg5.cell (by go_simp) (by simp)
  have a1 : w5.cell? ⟨w1.heap.size, 1, none⟩ = some (.int .i64 2) := hg5.cell (by go_simp) (by simp)
  have a2 : w5.cell? ⟨w1.heap.size, 2, none⟩ = some (.int .u64 1) := hg5.cell (by go_simp) (by simp)
  have b0 : w5.cell? ⟨w4.heap.size, 0, none⟩ = some (.int .i64 7) := hg5.cell (by go_simp) (by simp)
  have b1 : w5.cell? ⟨w4.heap.size, 1, none⟩ = some (.int .i64 2) := hg5.cell (by go_simp) (by simp)
  have b2 : w5.cell? ⟨w4.heap.size, 2, none⟩ = some (.int .u64 2) := hg5.cell (by go_simp) (by simp)
  have g5 : w.grownBy w5 none := by refine gtrans ?_ hg5; (repeat' (first | (with_reducible exact World.grownBy.refl _ _) | (with_reducible assumption) | (with_reducible refine galloc ?_ _) | (with_reducible refine gdrewN ?_ _) | (with_reducible refine gset ?_ (.inl (by simp; try omega)) _)))
  clear hg5 g4
  go_wp2_with (go_at_call 14; refine (num_any _ _ (by decide) (by decide)).mono ?_; rintro e w' ⟨rfl, rfl⟩)
  go_ret
  exact ⟨rfl, g5⟩
end Go.Proofs.Ytgcejfcfaaidhaa
