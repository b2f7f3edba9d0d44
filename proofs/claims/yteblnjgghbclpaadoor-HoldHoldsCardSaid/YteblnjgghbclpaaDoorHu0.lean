/- Layer hold: what is laid into new room, three pieces; one hold more. No condition. -/
import Derived.Test.YteblnjgghbclpaaDoorHt
import Derived.Test.YteblnjgghbclpaaDoorHp
set_option linter.unusedVariables false
set_option linter.unusedSimpArgs false
set_option linter.deprecated false
namespace Go.Proofs.YteblnjgghbclpaaDoor.hold
open Go Go.Proofs.YteblnjgghbclpaaDoor.Sx
theorem put3 {Z A H B : LV} {z a a1 n1 : Nat} (hz : z = 0) (hZ : Z.length = n1) (hA : A.length = a) (hH : H.length = 1) (ha : a1 = a + 1) (hn : n1 = a + 1 + B.length) :
    (List.take a1 ((List.take a ((List.take z Z ++ A) ++ List.drop a Z) ++ H) ++ List.drop a1 ((List.take z Z ++ A) ++ List.drop a Z)) ++ B) ++ List.drop n1 ((List.take a ((List.take z Z ++ A) ++ List.drop a Z) ++ H) ++ List.drop a1 ((List.take z Z ++ A) ++ List.drop a Z)) = (A ++ H) ++ B := by
  subst hz
  have e1 : List.take a ((List.take 0 Z ++ A) ++ List.drop a Z) = A := by
    rw [List.take_zero, List.nil_append, List.take_append_of_le_length (by omega), List.take_of_length_le (by omega)]
  have l1 : ((List.take 0 Z ++ A) ++ List.drop a Z).length = n1 := by
    rw [List.take_zero, List.nil_append, List.length_append, List.length_drop]; omega
  rw [e1]
  generalize (List.take 0 Z ++ A) ++ List.drop a Z = Y at l1
  have e2 : List.take a1 ((A ++ H) ++ List.drop a1 Y) = A ++ H := by
    rw [List.take_append_of_le_length (by rw [List.length_append]; omega), List.take_of_length_le (by rw [List.length_append]; omega)]
  have e3 : List.drop n1 ((A ++ H) ++ List.drop a1 Y) = [] := List.drop_eq_nil_of_le (by rw [List.length_append, List.length_append, List.length_drop]; omega)
  rw [e2, e3, List.append_nil]
theorem ins_len {R H : LV} {k : Nat} (hH : H.length = 1) (hk : k ≤ R.length) : ((((R.take k ++ H) ++ R.drop k).length : Nat) : Int) = ((R.length : Nat) : Int) + 1 := by
  rw [List.length_append, List.length_append, List.length_take, List.length_drop]; omega
theorem find_ne {R : LV} {s i : Int} (h : (R.length : Int) ≤ ((findN R s R.length : Nat) : Int)) (h0 : 0 ≤ i) (hl : i < (R.length : Int)) : ¬ clampK .i64 (intV (celV R i 0)) = s := by
  rw [at_z h0]
  have := first_all (p := fun k => decide (atI R k 0 = s)) (n := R.length) (by unfold findN at h; omega) (i := i.toNat) (by omega)
  simpa using this
theorem over_cl {R : LV} {s : Int} (hm : (R.length : Int) ≤ 1000000) : clampK .i64 ((overN R s R.length : Nat) : Int) = ((overN R s R.length : Nat) : Int) ∧ overN R s R.length ≤ R.length := by
  have : overN R s R.length ≤ R.length := first_le _ _
  exact ⟨clampS (by omega) (by omega), this⟩
theorem post_add (ρ : Rho) (hF : ρ.z.F = Φ) (hp : Holds ρ preA) : Holds ρ postA := by
  have hm := hp (.le (ln 0) (.lit 1000)) (by simp [preA])
  simp only [ln, d_le, IE.den, LE.den, lenV] at hm
  obtain ⟨c1, c2⟩ := over_cl (R := ρ.z.rl 0) (s := ρ.i .i64 1) (by omega)
  show Holds ρ [_, _, _]
  simp only [h_nil, h_cons, d_le, d_eq, IE.den, LE.den, AL.den, ADD, F3i, ln, lenV, xv, hF, pi3, and_true, c1]
  exact ⟨ins_len rfl (by omega), by omega, by omega⟩
theorem post_addZ (ρ : Rho) (hF : ρ.z.F = Φ) (hp : Holds ρ preZ) : Holds ρ postA := by
  have hm := hp (.le (ln 0) (.lit 0)) (by simp [preZ])
  simp only [ln, d_le, IE.den, LE.den, lenV] at hm
  obtain ⟨c1, c2⟩ := over_cl (R := ρ.z.rl 0) (s := ρ.i .i64 1) (by omega)
  show Holds ρ [_, _, _]
  simp only [h_nil, h_cons, d_le, d_eq, IE.den, LE.den, AL.den, ADD, F3i, ln, lenV, xv, hF, pi3, and_true, c1]
  exact ⟨ins_len rfl (by omega), by omega, by omega⟩
theorem post_addF0 : PostOk Φ cAddF0 := post_addZ
theorem post_addR0 : PostOk Φ cAddR0 := post_addZ
theorem post_addF : PostOk Φ cAddF := post_add
theorem post_addR : PostOk Φ cAddR := post_add
end Go.Proofs.YteblnjgghbclpaaDoor.hold
