/- Layer call: one ask behind the other: more words. No condition. -/
import Derived.Test.YthenenacmiiphaaVa
set_option linter.unusedVariables false
set_option linter.unusedSimpArgs false
set_option linter.deprecated false
namespace Go.Proofs.Ythenenacmiiphaa.oct
open Go Go.Proofs.Ythenenacmiiphaa.Sx
theorem posA_ge {n l s : Int} {R : LV} : ∀ m : Nat, (∀ j : Nat, j < m → eA n l s (R.drop (posA n l s R j)) = 0) → m ≤ posA n l s R m
 | 0, _ => Nat.le_refl _
 | m + 1, h => by
  have h1 := posA_ge m (fun j hj => h j (by omega))
  have h2 := cA_pos (h m (by omega))
  rw [posA]; omega
theorem gath_le {n l s : Int} {R P W : LV} {f : Int} (g : Gath n l s R P W f) : (W.length : Int) ≤ f ∧ f ≤ (R.length : Int) := by
 have h1 := posA_ge W.length (fun j hj => (g.ok j hj).1)
 have h2 := posA_le (n := n) (l := l) (s := s) R W.length
 have := g.pos
 omega
theorem pr20 (n l s : Int) (L : LV) : Φ.i 20 [.int .i64 n, .int .i64 l, .int .i64 s, .lst L] = fiR 20 n l s L := rfl
theorem pr21 (n l s : Int) (L : LV) : Φ.i 21 [.int .i64 n, .int .i64 l, .int .i64 s, .lst L] = fiR 21 n l s L := rfl
theorem pr22 (n l s : Int) (L : LV) : Φ.i 22 [.int .i64 n, .int .i64 l, .int .i64 s, .lst L] = fiR 22 n l s L := rfl
theorem pr23 (n l s : Int) (L : LV) : Φ.i 23 [.int .i64 n, .int .i64 l, .int .i64 s, .lst L] = fiR 23 n l s L := rfl
theorem pr24 (n l s : Int) (L : LV) : Φ.i 24 [.int .i64 n, .int .i64 l, .int .i64 s, .lst L] = fiR 24 n l s L := rfl
theorem pr25 (n l s : Int) (L : LV) : Φ.i 25 [.int .i64 n, .int .i64 l, .int .i64 s, .lst L] = fiR 25 n l s L := rfl
theorem pr26 (n l s : Int) (L : LV) : Φ.i 26 [.int .i64 n, .int .i64 l, .int .i64 s, .lst L] = fiR 26 n l s L := rfl
theorem pr27 (n l s : Int) (L : LV) : Φ.i 27 [.int .i64 n, .int .i64 l, .int .i64 s, .lst L] = fiR 27 n l s L := rfl
theorem pr28 (n l s : Int) (L : LV) : Φ.i 28 [.int .i64 n, .int .i64 l, .int .i64 s, .lst L] = fiR 28 n l s L := rfl
theorem pr29 (n l s : Int) (L : LV) : Φ.i 29 [.int .i64 n, .int .i64 l, .int .i64 s, .lst L] = fiR 29 n l s L := rfl
variable {n l s : Int}
theorem eA_is (R : LV) : clampK .i64 (fiR 20 n l s R) = eA n l s R := rfl
theorem cA_is (R : LV) : clampK .i64 (fiR 29 n l s R) = cA n l s R := rfl
theorem fA_0 (R : LV) : clampK .i64 (fiR 21 n l s R) = fA 0 n l s R := rfl
theorem fA_1 (R : LV) : clampK .i64 (fiR 22 n l s R) = fA 1 n l s R := rfl
theorem fA_2 (R : LV) : clampK .i64 (fiR 23 n l s R) = fA 2 n l s R := rfl
theorem fA_3 (R : LV) : clampK .i64 (fiR 24 n l s R) = fA 3 n l s R := rfl
theorem fA_4 (R : LV) : clampK .i64 (fiR 25 n l s R) = fA 4 n l s R := rfl
theorem fA_5 (R : LV) : clampK .i64 (fiR 26 n l s R) = fA 5 n l s R := rfl
theorem fA_6 (R : LV) : clampK .i64 (fiR 27 n l s R) = fA 6 n l s R := rfl
theorem fA_7 (R : LV) : clampK .i64 (fiR 28 n l s R) = fA 7 n l s R := rfl
theorem eA_nil (h : eA n l s [] = 0) : False := by
 have h1 := cA_pos h
 have h2 := cA_rng (n := n) (l := l) (s := s) []
 have h3 : (([] : LV).length : Int) = 0 := rfl
 omega
theorem drop_nil {R : LV} {k : Nat} (h : R.length ≤ k) : R.drop k = [] := List.drop_of_length_le h
theorem und_less {R P W : LV} {k f : Int} (u : Und n l s R P W k f) (h : eA n l s (R.drop f.toNat) = 0) : f.toNat < R.length ∧ f.toNat < (f + cA n l s (R.drop f.toNat)).toNat ∧ 1 ≤ cA n l s (R.drop f.toNat) := by
 have h1 := cA_pos h
 have h2 := cA_rng (n := n) (l := l) (s := s) (R.drop f.toNat)
 have h3 := und_f u
 rw [List.length_drop] at h2
 omega
theorem gath_less {R P W : LV} {f : Int} (g : Gath n l s R P W f) (h : eA n l s (R.drop f.toNat) = 0) : f.toNat < R.length ∧ f.toNat < (f + cA n l s (R.drop f.toNat)).toNat ∧ 1 ≤ cA n l s (R.drop f.toNat) := by
 have h1 := cA_pos h
 have h2 := cA_rng (n := n) (l := l) (s := s) (R.drop f.toNat)
 have h3 := gath_le g
 rw [List.length_drop] at h2
 omega
end Go.Proofs.Ythenenacmiiphaa.oct
