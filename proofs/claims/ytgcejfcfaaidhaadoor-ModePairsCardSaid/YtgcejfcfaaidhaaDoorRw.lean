/- Reads and Writes tell which modes read and write. No condition. -/
import Derived.Test.YtgcejfcfaaidhaaDoorTx
set_option linter.unusedSimpArgs false
set_option linter.unusedVariables false
namespace Go.Proofs.YtgcejfcfaaidhaaDoor
open Go.RowKit

set_option maxRecDepth 100000 in
set_option maxHeartbeats 2000000 in
theorem among_bad (a n : Int) (w : World) (h : isM a = false) : Calls Tryd.prog 54 #[.agg #[.int .i64 a], .int .u64 n] w fun e w' => e = .returned (.bool false) ∧ w.grownBy w' none := by
  have R := fun W => right_any a W
  rw [h] at R
  have R' := Lib.hid R
  clear R h
  go_enter Tryd.func54, Tryd.ntmps54
  go_wp2_with (go_at_call 69; refine (R'.out _).mono ?_; rintro e w2 ⟨rfl, hg⟩)
  go_ret
  exact ⟨rfl, gtrans (galloc (World.grownBy.refl _ _) _) hg⟩

set_option maxRecDepth 100000 in
set_option maxHeartbeats 4000000 in
theorem among_56 (i : Nat) (hi : i < 6) (w : World) : Calls Tryd.prog 54 #[.agg #[.int .i64 i], .int .u64 56] w fun e w' => e = .returned (.bool (decide (3 ≤ i))) ∧ w.grownBy w' none := by
  have R := Lib.hid (fun W => right_any i W)
  have hi' : i = 0 ∨ i = 1 ∨ i = 2 ∨ i = 3 ∨ i = 4 ∨ i = 5 := by omega
  rcases hi' with rfl | rfl | rfl | rfl | rfl | rfl
  all_goals
    go_enter Tryd.func54, Tryd.ntmps54
    go_wp2_with fail
    refine (R.out _).mono ?_
    rintro e w2 ⟨rfl, hg⟩
    have c0 := gcell (b := w.heap.size) (o := 0) hg (by go_simp; rfl) (by simp)
    have g2 := gtrans (galloc (World.grownBy.refl w none) _) hg
    clear hg R
    go_wp2_with fail
    go_ret
    exact ⟨by first | rfl | (simp; done), g2⟩
set_option maxRecDepth 100000 in
set_option maxHeartbeats 4000000 in
theorem among_32 (i : Nat) (hi : i < 6) (w : World) : Calls Tryd.prog 54 #[.agg #[.int .i64 i], .int .u64 32] w fun e w' => e = .returned (.bool (decide (5 ≤ i))) ∧ w.grownBy w' none := by
  have R := Lib.hid (fun W => right_any i W)
  have hi' : i = 0 ∨ i = 1 ∨ i = 2 ∨ i = 3 ∨ i = 4 ∨ i = 5 := by omega
  rcases hi' with rfl | rfl | rfl | rfl | rfl | rfl
  all_goals
    go_enter Tryd.func54, Tryd.ntmps54
    go_wp2_with fail
    refine (R.out _).mono ?_
    rintro e w2 ⟨rfl, hg⟩
    have c0 := gcell (b := w.heap.size) (o := 0) hg (by go_simp; rfl) (by simp)
    have g2 := gtrans (galloc (World.grownBy.refl w none) _) hg
    clear hg R
    go_wp2_with fail
    go_ret
    exact ⟨by first | rfl | (simp; done), g2⟩

set_option maxRecDepth 100000 in
set_option maxHeartbeats 400000 in
theorem reads_any (a : Int) (w : World) : Calls Tryd.prog 26 #[.int .i64 a] w fun e w' => e = .returned (.bool (isM a && decide (3 ≤ a))) ∧ w.grownBy w' none := by
  have A : ∀ W : World, Calls Tryd.prog 54 #[.agg #[.int .i64 a], .int .u64 56] W fun e w' => e = .returned (.bool (isM a && decide (3 ≤ a))) ∧ W.grownBy w' none := by
    intro W
    cases h : isM a
    · exact among_bad a 56 W h
    · simp only [isM, Bool.and_eq_true, decide_eq_true_eq] at h
      obtain ⟨i, rfl⟩ := Int.eq_ofNat_of_zero_le h.1
      have := among_56 i (by omega) W
      have e : decide ((3 : Int) ≤ (i : Int)) = decide (3 ≤ i) := decide_eq_decide.2 (by omega)
      rw [Bool.true_and, e]
      exact this
  have A' := Lib.hid A
  clear A
  go_enter Tryd.func26, Tryd.ntmps26
  go_wp2_with (go_at_call 54; refine (A'.out _).mono ?_; rintro e w2 ⟨rfl, hg⟩)
  go_ret
  exact ⟨rfl, hg⟩

set_option maxRecDepth 100000 in
set_option maxHeartbeats 400000 in
theorem writes_any (a : Int) (w : World) : Calls Tryd.prog 28 #[.int .i64 a] w fun e w' => e = .returned (.bool (isM a && decide (5 ≤ a))) ∧ w.grownBy w' none := by
  have A : ∀ W : World, Calls Tryd.prog 54 #[.agg #[.int .i64 a], .int .u64 32] W fun e w' => e = .returned (.bool (isM a && decide (5 ≤ a))) ∧ W.grownBy w' none := by
    intro W
    cases h : isM a
    · exact among_bad a 32 W h
    · simp only [isM, Bool.and_eq_true, decide_eq_true_eq] at h
      obtain ⟨i, rfl⟩ := Int.eq_ofNat_of_zero_le h.1
      have := among_32 i (by omega) W
      have e : decide ((5 : Int) ≤ (i : Int)) = decide (5 ≤ i) := decide_eq_decide.2 (by omega)
      rw [Bool.true_and, e]
      exact this
  have A' := Lib.hid A
  clear A
  go_enter Tryd.func28, Tryd.ntmps28
  go_wp2_with (go_at_call 54; refine (A'.out _).mono ?_; rintro e w2 ⟨rfl, hg⟩)
  go_ret
  exact ⟨rfl, hg⟩
end Go.Proofs.YtgcejfcfaaidhaaDoor
