/- The reference's Right, Fits, Covers, Reads and Writes answer as the tables. No condition. -/
import Derived.Test.YtgcejfcfaaidhaaDoorRw
set_option linter.unusedSimpArgs false
set_option linter.unusedVariables false
namespace Go.Proofs.YtgcejfcfaaidhaaDoor.ref
open Go.RowKit

set_option maxRecDepth 100000 in
set_option maxHeartbeats 400000 in
theorem right (a : Int) (w : World) : Calls Tryd.prog 14 #[.int .i64 a] w fun e w' => e = .returned (.bool (isM a)) ∧ w.grownBy w' none := by
  by_cases h1 : 0 ≤ a
  · by_cases h2 : a < 6
    · rw [show isM a = true by simp [isM, h1, h2]]
      have h3 : a ≤ 5 := by omega
      go_enter Tryd.func14, Tryd.ntmps14
      go_wp2
      go_ret
      exact ⟨by first | rfl | (simp; done) | (simp; omega), World.grownBy.refl _ _⟩
    · rw [show isM a = false by simp [isM, h1, h2]]
      have h3 : ¬ a ≤ 5 := by omega
      go_enter Tryd.func14, Tryd.ntmps14
      go_wp2
      go_ret
      exact ⟨by first | rfl | (simp; done) | (simp; omega), World.grownBy.refl _ _⟩
  · rw [show isM a = false by simp [isM, h1]]
    go_enter Tryd.func14, Tryd.ntmps14
    go_wp2
    go_ret
    exact ⟨by first | rfl | (simp; done) | (simp; omega), World.grownBy.refl _ _⟩

set_option maxRecDepth 100000 in
set_option maxHeartbeats 8000000 in
theorem fits (i j : Nat) (hi : i < 6) (hj : j < 6) (w : World) : Calls Tryd.prog 16 #[.int .i64 i, .int .i64 j] w fun e w' => e = .returned (.bool (fitB i j)) ∧ w.grownBy w' none := by
  have hi' : i = 0 ∨ i = 1 ∨ i = 2 ∨ i = 3 ∨ i = 4 ∨ i = 5 := by omega
  have hj' : j = 0 ∨ j = 1 ∨ j = 2 ∨ j = 3 ∨ j = 4 ∨ j = 5 := by omega
  rcases hi' with rfl | rfl | rfl | rfl | rfl | rfl <;> rcases hj' with rfl | rfl | rfl | rfl | rfl | rfl
  all_goals
    go_enter Tryd.func16, Tryd.ntmps16
    go_wp2
    go_ret
    exact ⟨rfl, World.grownBy.refl _ _⟩
set_option maxRecDepth 100000 in
set_option maxHeartbeats 8000000 in
theorem covers (i j : Nat) (hi : i < 6) (hj : j < 6) (w : World) : Calls Tryd.prog 17 #[.int .i64 i, .int .i64 j] w fun e w' => e = .returned (.bool (covB i j)) ∧ w.grownBy w' none := by
  have hi' : i = 0 ∨ i = 1 ∨ i = 2 ∨ i = 3 ∨ i = 4 ∨ i = 5 := by omega
  have hj' : j = 0 ∨ j = 1 ∨ j = 2 ∨ j = 3 ∨ j = 4 ∨ j = 5 := by omega
  rcases hi' with rfl | rfl | rfl | rfl | rfl | rfl <;> rcases hj' with rfl | rfl | rfl | rfl | rfl | rfl
  all_goals
    go_enter Tryd.func17, Tryd.ntmps17
    go_wp2
    go_ret
    exact ⟨rfl, World.grownBy.refl _ _⟩

set_option maxRecDepth 100000 in
set_option maxHeartbeats 400000 in
theorem reads (a : Int) (w : World) : Calls Tryd.prog 27 #[.int .i64 a] w fun e w' => e = .returned (.bool (isM a && decide (3 ≤ a))) ∧ w.grownBy w' none := by
  by_cases h1 : 3 ≤ a
  · by_cases h2 : a ≤ 5
    · rw [show (isM a && decide (3 ≤ a)) = true by simp [isM, h1]; omega]
      by_cases h3 : a = 5
      · subst h3
        go_enter Tryd.func27, Tryd.ntmps27
        go_wp2
        go_ret
        exact ⟨by first | rfl | (simp; done) | (simp; omega), World.grownBy.refl _ _⟩
      · first
          | (exfalso; omega)
          | (go_enter Tryd.func27, Tryd.ntmps27
             go_wp2
             go_ret
             exact ⟨by first | rfl | (simp; done) | (simp; omega), World.grownBy.refl _ _⟩)
    · rw [show (isM a && decide (3 ≤ a)) = false by simp [isM]; omega]
      have h3 : ¬ a = 5 := by omega
      go_enter Tryd.func27, Tryd.ntmps27
      go_wp2
      go_ret
      exact ⟨by first | rfl | (simp; done) | (simp; omega), World.grownBy.refl _ _⟩
  · rw [show (isM a && decide (3 ≤ a)) = false by simp [h1]]
    have h3 : ¬ a = 5 := by omega
    go_enter Tryd.func27, Tryd.ntmps27
    go_wp2
    go_ret
    exact ⟨by first | rfl | (simp; done) | (simp; omega), World.grownBy.refl _ _⟩

set_option maxRecDepth 100000 in
set_option maxHeartbeats 400000 in
theorem writes (a : Int) (w : World) : Calls Tryd.prog 29 #[.int .i64 a] w fun e w' => e = .returned (.bool (isM a && decide (5 ≤ a))) ∧ w.grownBy w' none := by
  by_cases h1 : 5 ≤ a
  · by_cases h2 : a ≤ 5
    · rw [show (isM a && decide (5 ≤ a)) = true by simp [isM, h1]; omega]
      by_cases h3 : a = 5
      · subst h3
        go_enter Tryd.func29, Tryd.ntmps29
        go_wp2
        go_ret
        exact ⟨by first | rfl | (simp; done) | (simp; omega), World.grownBy.refl _ _⟩
      · first
          | (exfalso; omega)
          | (go_enter Tryd.func29, Tryd.ntmps29
             go_wp2
             go_ret
             exact ⟨by first | rfl | (simp; done) | (simp; omega), World.grownBy.refl _ _⟩)
    · rw [show (isM a && decide (5 ≤ a)) = false by simp [isM]; omega]
      have h3 : ¬ a = 5 := by omega
      go_enter Tryd.func29, Tryd.ntmps29
      go_wp2
      go_ret
      exact ⟨by first | rfl | (simp; done) | (simp; omega), World.grownBy.refl _ _⟩
  · rw [show (isM a && decide (5 ≤ a)) = false by simp [h1]]
    have h3 : ¬ a = 5 := by omega
    go_enter Tryd.func29, Tryd.ntmps29
    go_wp2
    go_ret
    exact ⟨by first | rfl | (simp; done) | (simp; omega), World.grownBy.refl _ _⟩
end Go.Proofs.YtgcejfcfaaidhaaDoor.ref
