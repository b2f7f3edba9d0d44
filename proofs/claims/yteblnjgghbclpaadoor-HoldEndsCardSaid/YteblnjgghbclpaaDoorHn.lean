/- Layer hold: rows that are cut and joined. No condition. -/
import Derived.Test.YteblnjgghbclpaaDoorHk
set_option linter.unusedVariables false
set_option linter.unusedSimpArgs false
set_option linter.deprecated false
namespace Go.Proofs.YteblnjgghbclpaaDoor.hold
open Go Go.Proofs.YteblnjgghbclpaaDoor.Sx
theorem take_app {R S : LV} {f : Nat} (h : f ≤ R.length) : (R ++ S).take f = R.take f := List.take_append_of_le_length h
/-- What is laid behind one another in new room. -/
theorem concat_cut {R S Z W : LV} {f : Nat} (hf : f < R.length) : List.take (R.length - 1) (((List.take f (((List.take 0 Z) ++ List.take f (R ++ S)) ++ List.drop f Z)) ++ List.take (R.length - (f + 1)) (List.drop (f + 1) (R ++ S))) ++ W) = R.take f ++ R.drop (f + 1) := by
  have h1 : (R ++ S).take f = R.take f := take_app (by omega)
  have h2 : (R ++ S).drop (f + 1) = R.drop (f + 1) ++ S := List.drop_append_of_le_length (by omega)
  have h3 : (R.drop (f + 1) ++ S).take (R.length - (f + 1)) = R.drop (f + 1) := by
    rw [take_app (by rw [List.length_drop]; exact Nat.le_refl _)]
    exact List.take_of_length_le (by rw [List.length_drop]; exact Nat.le_refl _)
  have h4 : (R.take f).length = f := by rw [List.length_take]; omega
  have h6 : (R.take f ++ Z.drop f).take f = R.take f := by rw [take_app (by omega), List.take_of_length_le (by omega)]
  rw [h1, h2, h3, List.take_zero, List.nil_append, h6]
  have h5 : (R.take f ++ R.drop (f + 1)).length = R.length - 1 := by rw [List.length_append, List.length_drop, h4]; omega
  rw [take_app (by omega), List.take_of_length_le (by omega)]
end Go.Proofs.YteblnjgghbclpaaDoor.hold
