/- The law EscrowHolds returns true at every counter, number and list of changes, and leaves them as they were. No condition. -/
import Derived.Test.YtgcejfcfaaidhaaRow
set_option linter.unusedSimpArgs false
set_option linter.unusedVariables false
namespace Go.Proofs.Ytgcejfcfaaidhaa.holds
open Go.ChangeShapes Go.WideShapes Go.ChangeAt Go.RowKit Go.Joins

/-- What one call of Debit or Credit tells: an error, or the counter. -/
def Tells (fn : Nat) (v f n k E v' n' : Int) : Prop := ∀ W : World, Calls Try.prog fn #[.agg #[.int .i64 v, .int .i64 f, .int .u64 n], .int .i64 k] W fun e w' =>
  e = .returned (.tuple #[.agg #[.int .i64 (if E = 0 then v' else 0), .int .i64 (if E = 0 then f else 0), .int .u64 (if E = 0 then n' else 0)], .int .i64 E]) ∧ W.grownBy w' none

theorem chgV_eq (E v f n : Int) : chgV E v f n = .tuple #[.agg #[.int .i64 (if E = 0 then v else 0), .int .i64 (if E = 0 then f else 0), .int .u64 (if E = 0 then n else 0)], .int .i64 E] := by
  unfold chgV
  by_cases h : E = 0 <;> simp [h]

theorem debit_tells (v f n k : Int) (hB : Bd v f n) (hk : -9223372036854775808 ≤ k) (hk' : k ≤ 9223372036854775807) : Tells 8 v f n k (moveE true v f n (pos k)) (v - pos k) (n + 1) := by
  intro W
  rw [← chgV_eq]
  by_cases h : k < 0
  · have := debit_neg v f n k W hB hk hk' h
    simpa [pos, h] using this
  · have := debit_pos v f n k W hB hk hk' (by omega)
    simpa [pos, h] using this
theorem credit_tells (v f n k : Int) (hB : Bd v f n) (hk : -9223372036854775808 ≤ k) (hk' : k ≤ 9223372036854775807) : Tells 9 v f n k (moveE false v f n (pos k)) (v + pos k) (n + 1) := by
  intro W
  rw [← chgV_eq]
  by_cases h : k < 0
  · have := credit_neg v f n k W hB hk hk' h
    simpa [pos, h] using this
  · have := credit_pos v f n k W hB hk hk' (by omega)
    simpa [pos, h] using this

theorem moveE_zero {d : Bool} {v f n m : Int} (h : moveE d v f n m = 0) : f ≤ v ∧ n ≤ 4611686018427387904 ∧ n ≠ 4611686018427387904 ∧ m ≠ 0 ∧ (d = true → m ≤ v - f) ∧ (d = false → m ≤ 9223372036854775807 - v) := by
  rcases moveE_cases d v f n m with ⟨h0, _⟩ | ⟨_, e1, e2, e3⟩
  · exact absurd h h0
  · simp at e1 e3
    have hr := rightB_t e1.1
    refine ⟨hr.1, hr.2, e3, e1.2, fun hd => ?_, fun hd => ?_⟩ <;> subst hd <;> simp [askB] at e2 <;> omega
theorem moveE_range (d : Bool) (v f n m : Int) : 0 ≤ moveE d v f n m ∧ moveE d v f n m ≤ 142 := by
  unfold moveE lowE
  split <;> (try split) <;> (try split) <;> (try split) <;> omega
/-- Back again: the same, or the version is the greatest. -/
theorem moveE_back {d : Bool} {v f n m : Int} (h1 : f ≤ v) (h2 : n ≤ 4611686018427387904) (h3 : 0 < m) (h4 : d = true → m ≤ v - f) (h5 : d = false → m ≤ 9223372036854775807 - v) : moveE d v f n m = 0 ∨ moveE d v f n m = 142 := by
  have hr : rightB v f n = true := by simp [rightB, h1, h2]
  have ha : askB d v f m = false := by
    cases d
    · have := h5 rfl; simp [askB]; omega
    · have := h4 rfl; simp [askB]; omega
  have hm : (m == 0) = false := by simp; omega
  unfold moveE
  simp only [hr, ha, hm]
  by_cases hn : n = 4611686018427387904 <;> simp [hn]

theorem runS_ge (f : Int) : ∀ (zs : List Int) (v n d : Int), Bd v f n → f ≤ v → (∀ z ∈ zs, -9223372036854775808 ≤ z ∧ z ≤ 9223372036854775807) → f ≤ (runS f v n d zs).1 ∧ -9223372036854775808 ≤ (runS f v n d zs).1 ∧ (runS f v n d zs).1 ≤ 9223372036854775807
  | [], v, n, d, hB, h, _ => ⟨h, hB.v0, hB.v1⟩
  | z :: zs, v, n, d, hB, h, hz => by
    unfold runS
    split
    · rename_i he
      have hb := hB.step (hz z (by simp)).1 (hz z (by simp)).2 he
      refine runS_ge f zs _ _ _ hb ?_ (fun x hx => hz x (by simp [hx]))
      have := moveE_zero he
      unfold chD chM at this
      by_cases hn : z < 0
      · simp [hn] at this; omega
      · omega
    · exact ⟨h, hB.v0, hB.v1⟩
set_option maxRecDepth 100000 in
set_option maxHeartbeats 4000000 in
theorem walk_NN (v f n k : Int) (len cap : Nat) (ao : Option Addr) (w : World) (hl : (len : Int) ≤ 30) (E1 E3 a na b nb f4 n4 x fx nx dx ex : Int) (T1 : ∀ W, Calls Try.prog 8 #[.agg #[.int .i64 (v), .int .i64 (f), .int .u64 (n)], .int .i64 k] W fun e w' => e = .returned (.tuple #[.agg #[.int .i64 (0), .int .i64 (0), .int .u64 (0)], .int .i64 (E1)]) ∧ W.grownBy w' none) (hE1 : (E1 == 0) = false) (hE1a : 0 ≤ E1) (hE1b : E1 ≤ 142) (T3 : ∀ W, Calls Try.prog 9 #[.agg #[.int .i64 (v), .int .i64 (f), .int .u64 (n)], .int .i64 k] W fun e w' => e = .returned (.tuple #[.agg #[.int .i64 (0), .int .i64 (0), .int .u64 (0)], .int .i64 (E3)]) ∧ W.grownBy w' none) (hE3 : (E3 == 0) = false) (hE3a : 0 ≤ E3) (hE3b : E3 ≤ 142)
    (TR : ∀ W, w.grownBy W none → Calls Try.prog 20 #[.agg #[.int .i64 v, .int .i64 f, .int .u64 n], .slice ao len cap] W fun e w' => e = .returned (.tuple #[.agg #[.int .i64 x, .int .i64 fx, .int .u64 nx], .int .i64 dx, .int .i64 ex]) ∧ W.grownBy w' none) (hx : fx ≤ x) :
    Calls Try.prog 7 #[.agg #[.int .i64 v, .int .i64 f, .int .u64 n], .int .i64 k, .slice ao len cap] w fun e w' => e = .returned (.bool true) ∧ w.grownBy w' none := by
  have T1' := Lib.hid T1
  have T3' := Lib.hid T3
  have TR' := Lib.hid TR
  clear T1 T3 TR
  go_enter Try.func7, Try.ntmps7
  go_wp2_with fail
  refine (T1'.out _).mono ?_
  rintro e w1 ⟨rfl, hg⟩
  have g1 : w.grownBy w1 none := by refine gtrans ?_ hg; (repeat' (first | (with_reducible exact World.grownBy.refl _ _) | (with_reducible assumption) | (with_reducible refine galloc ?_ _) | (with_reducible refine gdrewN ?_ _) | (with_reducible refine gset ?_ (.inl (by simp; try omega)) _)))
  have c0 : w1.cell? ⟨w.heap.size, 0, none⟩ = some (.int .i64 v) := hg.cell (by go_simp) (by simp)
  have c1 : w1.cell? ⟨w.heap.size, 1, none⟩ = some (.int .i64 f) := hg.cell (by go_simp) (by simp)
  have c2 : w1.cell? ⟨w.heap.size, 2, none⟩ = some (.int .u64 n) := hg.cell (by go_simp) (by simp)
  have cl1 : w.heap.size < w1.heap.size := by have := hg.size; simp at this; omega
  have cm1 : w.heap.size < w1.heap.size + 1 := by omega
  clear hg
  go_wp2_with (go_at_call 14; refine (num_any _ _ (by omega) (by omega)).mono ?_; rintro e w' ⟨rfl, rfl⟩)
  refine (T3'.out _).mono ?_
  rintro e w3 ⟨rfl, hg⟩
  have g3 : w.grownBy w3 none := by refine gtrans ?_ hg; (repeat' (first | (with_reducible exact World.grownBy.refl _ _) | (with_reducible assumption) | (with_reducible refine galloc ?_ _) | (with_reducible refine gdrewN ?_ _) | (with_reducible refine gset ?_ (.inl (by simp; try omega)) _)))
  have c0 : w3.cell? ⟨w.heap.size, 0, none⟩ = some (.int .i64 v) := hg.cell (by go_simp) (by simp)
  have c1 : w3.cell? ⟨w.heap.size, 1, none⟩ = some (.int .i64 f) := hg.cell (by go_simp) (by simp)
  have c2 : w3.cell? ⟨w.heap.size, 2, none⟩ = some (.int .u64 n) := hg.cell (by go_simp) (by simp)
  have cl3 : w.heap.size < w3.heap.size := by have := hg.size; simp at this; omega
  have cm3 : w.heap.size < w3.heap.size + 1 := by omega
  clear hg
  go_wp2_with (go_at_call 14; refine (num_any _ _ (by omega) (by omega)).mono ?_; rintro e w' ⟨rfl, rfl⟩)
  refine (TR'.out _ (by (repeat' (first | (with_reducible exact World.grownBy.refl _ _) | (with_reducible assumption) | (with_reducible refine galloc ?_ _) | (with_reducible refine gdrewN ?_ _) | (with_reducible refine gset ?_ (.inl (by simp; try omega)) _))))).mono ?_
  rintro e w5 ⟨rfl, hg⟩
  have g5 : w.grownBy w5 none := by refine gtrans ?_ hg; (repeat' (first | (with_reducible exact World.grownBy.refl _ _) | (with_reducible assumption) | (with_reducible refine galloc ?_ _) | (with_reducible refine gdrewN ?_ _) | (with_reducible refine gset ?_ (.inl (by simp; try omega)) _)))
  clear hg
  go_wp2_with (go_at_call 17; refine (works_any _).mono ?_; rintro e w6 ⟨rfl, hg⟩)
  go_ret
  exact ⟨rfl, by refine gtrans ?_ hg; (repeat' (first | (with_reducible exact World.grownBy.refl _ _) | (with_reducible assumption) | (with_reducible refine galloc ?_ _) | (with_reducible refine gdrewN ?_ _) | (with_reducible refine gset ?_ (.inl (by simp; try omega)) _)))⟩

set_option maxRecDepth 100000 in
set_option maxHeartbeats 4000000 in
theorem walk_NZ (v f n k : Int) (len cap : Nat) (ao : Option Addr) (w : World) (hl : (len : Int) ≤ 30) (E1 E3 a na b nb f4 n4 x fx nx dx ex : Int) (T1 : ∀ W, Calls Try.prog 8 #[.agg #[.int .i64 (v), .int .i64 (f), .int .u64 (n)], .int .i64 k] W fun e w' => e = .returned (.tuple #[.agg #[.int .i64 (0), .int .i64 (0), .int .u64 (0)], .int .i64 (E1)]) ∧ W.grownBy w' none) (hE1 : (E1 == 0) = false) (hE1a : 0 ≤ E1) (hE1b : E1 ≤ 142) (T3 : ∀ W, Calls Try.prog 9 #[.agg #[.int .i64 (v), .int .i64 (f), .int .u64 (n)], .int .i64 k] W fun e w' => e = .returned (.tuple #[.agg #[.int .i64 (b), .int .i64 (f), .int .u64 (nb)], .int .i64 (0)]) ∧ W.grownBy w' none) (hb : f ≤ b) (T4 : ∀ W, Calls Try.prog 8 #[.agg #[.int .i64 (b), .int .i64 (f), .int .u64 (nb)], .int .i64 k] W fun e w' => e = .returned (.tuple #[.agg #[.int .i64 (v), .int .i64 (f4), .int .u64 (n4)], .int .i64 (0)]) ∧ W.grownBy w' none)
    (TR : ∀ W, w.grownBy W none → Calls Try.prog 20 #[.agg #[.int .i64 v, .int .i64 f, .int .u64 n], .slice ao len cap] W fun e w' => e = .returned (.tuple #[.agg #[.int .i64 x, .int .i64 fx, .int .u64 nx], .int .i64 dx, .int .i64 ex]) ∧ W.grownBy w' none) (hx : fx ≤ x) :
    Calls Try.prog 7 #[.agg #[.int .i64 v, .int .i64 f, .int .u64 n], .int .i64 k, .slice ao len cap] w fun e w' => e = .returned (.bool true) ∧ w.grownBy w' none := by
  have T1' := Lib.hid T1
  have T3' := Lib.hid T3
  have TR' := Lib.hid TR
  have T4' := Lib.hid T4
  clear T1 T3 TR T4
  go_enter Try.func7, Try.ntmps7
  go_wp2_with fail
  refine (T1'.out _).mono ?_
  rintro e w1 ⟨rfl, hg⟩
  have g1 : w.grownBy w1 none := by refine gtrans ?_ hg; (repeat' (first | (with_reducible exact World.grownBy.refl _ _) | (with_reducible assumption) | (with_reducible refine galloc ?_ _) | (with_reducible refine gdrewN ?_ _) | (with_reducible refine gset ?_ (.inl (by simp; try omega)) _)))
  have c0 : w1.cell? ⟨w.heap.size, 0, none⟩ = some (.int .i64 v) := hg.cell (by go_simp) (by simp)
  have c1 : w1.cell? ⟨w.heap.size, 1, none⟩ = some (.int .i64 f) := hg.cell (by go_simp) (by simp)
  have c2 : w1.cell? ⟨w.heap.size, 2, none⟩ = some (.int .u64 n) := hg.cell (by go_simp) (by simp)
  have cl1 : w.heap.size < w1.heap.size := by have := hg.size; simp at this; omega
  have cm1 : w.heap.size < w1.heap.size + 1 := by omega
  clear hg
  go_wp2_with (go_at_call 14; refine (num_any _ _ (by omega) (by omega)).mono ?_; rintro e w' ⟨rfl, rfl⟩)
  refine (T3'.out _).mono ?_
  rintro e w3 ⟨rfl, hg⟩
  have g3 : w.grownBy w3 none := by refine gtrans ?_ hg; (repeat' (first | (with_reducible exact World.grownBy.refl _ _) | (with_reducible assumption) | (with_reducible refine galloc ?_ _) | (with_reducible refine gdrewN ?_ _) | (with_reducible refine gset ?_ (.inl (by simp; try omega)) _)))
  have c0 : w3.cell? ⟨w.heap.size, 0, none⟩ = some (.int .i64 v) := hg.cell (by go_simp) (by simp)
  have c1 : w3.cell? ⟨w.heap.size, 1, none⟩ = some (.int .i64 f) := hg.cell (by go_simp) (by simp)
  have c2 : w3.cell? ⟨w.heap.size, 2, none⟩ = some (.int .u64 n) := hg.cell (by go_simp) (by simp)
  have cl3 : w.heap.size < w3.heap.size := by have := hg.size; simp at this; omega
  have cm3 : w.heap.size < w3.heap.size + 1 := by omega
  clear hg
  go_wp2_with (go_at_call 14; refine (num_any _ _ (by omega) (by omega)).mono ?_; rintro e w' ⟨rfl, rfl⟩)
  refine (T4'.out _).mono ?_
  rintro e w4 ⟨rfl, hg⟩
  have g4 : w.grownBy w4 none := by refine gtrans ?_ hg; (repeat' (first | (with_reducible exact World.grownBy.refl _ _) | (with_reducible assumption) | (with_reducible refine galloc ?_ _) | (with_reducible refine gdrewN ?_ _) | (with_reducible refine gset ?_ (.inl (by simp; try omega)) _)))
  have c0 : w4.cell? ⟨w.heap.size, 0, none⟩ = some (.int .i64 v) := hg.cell (by go_simp) (by simp)
  have c1 : w4.cell? ⟨w.heap.size, 1, none⟩ = some (.int .i64 f) := hg.cell (by go_simp) (by simp)
  have c2 : w4.cell? ⟨w.heap.size, 2, none⟩ = some (.int .u64 n) := hg.cell (by go_simp) (by simp)
  have cl4 : w.heap.size < w4.heap.size := by have := hg.size; simp at this; omega
  have cm4 : w.heap.size < w4.heap.size + 1 := by omega
  have b0 : w4.cell? ⟨w3.heap.size, 0, none⟩ = some (.int .i64 b) := hg.cell (by go_simp) (by simp)
  have b1 : w4.cell? ⟨w3.heap.size, 1, none⟩ = some (.int .i64 f) := hg.cell (by go_simp) (by simp)
  have b2 : w4.cell? ⟨w3.heap.size, 2, none⟩ = some (.int .u64 nb) := hg.cell (by go_simp) (by simp)
  have bl4 : w3.heap.size < w4.heap.size := by have := hg.size; simp at this; omega
  have bm4 : w3.heap.size < w4.heap.size + 1 := by omega
  clear hg
  go_wp2_with (go_at_call 14; refine (num_any _ _ (by omega) (by omega)).mono ?_; rintro e w' ⟨rfl, rfl⟩)
  refine (TR'.out _ (by (repeat' (first | (with_reducible exact World.grownBy.refl _ _) | (with_reducible assumption) | (with_reducible refine galloc ?_ _) | (with_reducible refine gdrewN ?_ _) | (with_reducible refine gset ?_ (.inl (by simp; try omega)) _))))).mono ?_
  rintro e w5 ⟨rfl, hg⟩
  have g5 : w.grownBy w5 none := by refine gtrans ?_ hg; (repeat' (first | (with_reducible exact World.grownBy.refl _ _) | (with_reducible assumption) | (with_reducible refine galloc ?_ _) | (with_reducible refine gdrewN ?_ _) | (with_reducible refine gset ?_ (.inl (by simp; try omega)) _)))
  clear hg
  go_wp2_with (go_at_call 17; refine (works_any _).mono ?_; rintro e w6 ⟨rfl, hg⟩)
  go_ret
  exact ⟨rfl, by refine gtrans ?_ hg; (repeat' (first | (with_reducible exact World.grownBy.refl _ _) | (with_reducible assumption) | (with_reducible refine galloc ?_ _) | (with_reducible refine gdrewN ?_ _) | (with_reducible refine gset ?_ (.inl (by simp; try omega)) _)))⟩

set_option maxRecDepth 100000 in
set_option maxHeartbeats 4000000 in
theorem walk_NM (v f n k : Int) (len cap : Nat) (ao : Option Addr) (w : World) (hl : (len : Int) ≤ 30) (E1 E3 a na b nb f4 n4 x fx nx dx ex : Int) (T1 : ∀ W, Calls Try.prog 8 #[.agg #[.int .i64 (v), .int .i64 (f), .int .u64 (n)], .int .i64 k] W fun e w' => e = .returned (.tuple #[.agg #[.int .i64 (0), .int .i64 (0), .int .u64 (0)], .int .i64 (E1)]) ∧ W.grownBy w' none) (hE1 : (E1 == 0) = false) (hE1a : 0 ≤ E1) (hE1b : E1 ≤ 142) (T3 : ∀ W, Calls Try.prog 9 #[.agg #[.int .i64 (v), .int .i64 (f), .int .u64 (n)], .int .i64 k] W fun e w' => e = .returned (.tuple #[.agg #[.int .i64 (b), .int .i64 (f), .int .u64 (nb)], .int .i64 (0)]) ∧ W.grownBy w' none) (hb : f ≤ b) (T4 : ∀ W, Calls Try.prog 8 #[.agg #[.int .i64 (b), .int .i64 (f), .int .u64 (nb)], .int .i64 k] W fun e w' => e = .returned (.tuple #[.agg #[.int .i64 (0), .int .i64 (0), .int .u64 (0)], .int .i64 (142)]) ∧ W.grownBy w' none)
    (TR : ∀ W, w.grownBy W none → Calls Try.prog 20 #[.agg #[.int .i64 v, .int .i64 f, .int .u64 n], .slice ao len cap] W fun e w' => e = .returned (.tuple #[.agg #[.int .i64 x, .int .i64 fx, .int .u64 nx], .int .i64 dx, .int .i64 ex]) ∧ W.grownBy w' none) (hx : fx ≤ x) :
    Calls Try.prog 7 #[.agg #[.int .i64 v, .int .i64 f, .int .u64 n], .int .i64 k, .slice ao len cap] w fun e w' => e = .returned (.bool true) ∧ w.grownBy w' none := by
  have T1' := Lib.hid T1
  have T3' := Lib.hid T3
  have TR' := Lib.hid TR
  have T4' := Lib.hid T4
  clear T1 T3 TR T4
  go_enter Try.func7, Try.ntmps7
  go_wp2_with fail
  refine (T1'.out _).mono ?_
  rintro e w1 ⟨rfl, hg⟩
  have g1 : w.grownBy w1 none := by refine gtrans ?_ hg; (repeat' (first | (with_reducible exact World.grownBy.refl _ _) | (with_reducible assumption) | (with_reducible refine galloc ?_ _) | (with_reducible refine gdrewN ?_ _) | (with_reducible refine gset ?_ (.inl (by simp; try omega)) _)))
  have c0 : w1.cell? ⟨w.heap.size, 0, none⟩ = some (.int .i64 v) := hg.cell (by go_simp) (by simp)
  have c1 : w1.cell? ⟨w.heap.size, 1, none⟩ = some (.int .i64 f) := hg.cell (by go_simp) (by simp)
  have c2 : w1.cell? ⟨w.heap.size, 2, none⟩ = some (.int .u64 n) := hg.cell (by go_simp) (by simp)
  have cl1 : w.heap.size < w1.heap.size := by have := hg.size; simp at this; omega
  have cm1 : w.heap.size < w1.heap.size + 1 := by omega
  clear hg
  go_wp2_with (go_at_call 14; refine (num_any _ _ (by omega) (by omega)).mono ?_; rintro e w' ⟨rfl, rfl⟩)
  refine (T3'.out _).mono ?_
  rintro e w3 ⟨rfl, hg⟩
  have g3 : w.grownBy w3 none := by refine gtrans ?_ hg; (repeat' (first | (with_reducible exact World.grownBy.refl _ _) | (with_reducible assumption) | (with_reducible refine galloc ?_ _) | (with_reducible refine gdrewN ?_ _) | (with_reducible refine gset ?_ (.inl (by simp; try omega)) _)))
  have c0 : w3.cell? ⟨w.heap.size, 0, none⟩ = some (.int .i64 v) := hg.cell (by go_simp) (by simp)
  have c1 : w3.cell? ⟨w.heap.size, 1, none⟩ = some (.int .i64 f) := hg.cell (by go_simp) (by simp)
  have c2 : w3.cell? ⟨w.heap.size, 2, none⟩ = some (.int .u64 n) := hg.cell (by go_simp) (by simp)
  have cl3 : w.heap.size < w3.heap.size := by have := hg.size; simp at this; omega
  have cm3 : w.heap.size < w3.heap.size + 1 := by omega
  clear hg
  go_wp2_with (go_at_call 14; refine (num_any _ _ (by omega) (by omega)).mono ?_; rintro e w' ⟨rfl, rfl⟩)
  refine (T4'.out _).mono ?_
  rintro e w4 ⟨rfl, hg⟩
  have g4 : w.grownBy w4 none := by refine gtrans ?_ hg; (repeat' (first | (with_reducible exact World.grownBy.refl _ _) | (with_reducible assumption) | (with_reducible refine galloc ?_ _) | (with_reducible refine gdrewN ?_ _) | (with_reducible refine gset ?_ (.inl (by simp; try omega)) _)))
  have c0 : w4.cell? ⟨w.heap.size, 0, none⟩ = some (.int .i64 v) := hg.cell (by go_simp) (by simp)
  have c1 : w4.cell? ⟨w.heap.size, 1, none⟩ = some (.int .i64 f) := hg.cell (by go_simp) (by simp)
  have c2 : w4.cell? ⟨w.heap.size, 2, none⟩ = some (.int .u64 n) := hg.cell (by go_simp) (by simp)
  have cl4 : w.heap.size < w4.heap.size := by have := hg.size; simp at this; omega
  have cm4 : w.heap.size < w4.heap.size + 1 := by omega
  have b0 : w4.cell? ⟨w3.heap.size, 0, none⟩ = some (.int .i64 b) := hg.cell (by go_simp) (by simp)
  have b1 : w4.cell? ⟨w3.heap.size, 1, none⟩ = some (.int .i64 f) := hg.cell (by go_simp) (by simp)
  have b2 : w4.cell? ⟨w3.heap.size, 2, none⟩ = some (.int .u64 nb) := hg.cell (by go_simp) (by simp)
  have bl4 : w3.heap.size < w4.heap.size := by have := hg.size; simp at this; omega
  have bm4 : w3.heap.size < w4.heap.size + 1 := by omega
  clear hg
  go_wp2_with (go_at_call 14; refine (num_any _ _ (by omega) (by omega)).mono ?_; rintro e w' ⟨rfl, rfl⟩)
  refine (TR'.out _ (by (repeat' (first | (with_reducible exact World.grownBy.refl _ _) | (with_reducible assumption) | (with_reducible refine galloc ?_ _) | (with_reducible refine gdrewN ?_ _) | (with_reducible refine gset ?_ (.inl (by simp; try omega)) _))))).mono ?_
  rintro e w5 ⟨rfl, hg⟩
  have g5 : w.grownBy w5 none := by refine gtrans ?_ hg; (repeat' (first | (with_reducible exact World.grownBy.refl _ _) | (with_reducible assumption) | (with_reducible refine galloc ?_ _) | (with_reducible refine gdrewN ?_ _) | (with_reducible refine gset ?_ (.inl (by simp; try omega)) _)))
  clear hg
  go_wp2_with (go_at_call 17; refine (works_any _).mono ?_; rintro e w6 ⟨rfl, hg⟩)
  go_ret
  exact ⟨rfl, by refine gtrans ?_ hg; (repeat' (first | (with_reducible exact World.grownBy.refl _ _) | (with_reducible assumption) | (with_reducible refine galloc ?_ _) | (with_reducible refine gdrewN ?_ _) | (with_reducible refine gset ?_ (.inl (by simp; try omega)) _)))⟩

set_option maxRecDepth 100000 in
set_option maxHeartbeats 4000000 in
theorem walk_ZN (v f n k : Int) (len cap : Nat) (ao : Option Addr) (w : World) (hl : (len : Int) ≤ 30) (E1 E3 a na b nb f4 n4 x fx nx dx ex : Int) (T1 : ∀ W, Calls Try.prog 8 #[.agg #[.int .i64 (v), .int .i64 (f), .int .u64 (n)], .int .i64 k] W fun e w' => e = .returned (.tuple #[.agg #[.int .i64 (a), .int .i64 (f), .int .u64 (na)], .int .i64 (0)]) ∧ W.grownBy w' none) (ha : f ≤ a) (T2 : ∀ W, Calls Try.prog 9 #[.agg #[.int .i64 (a), .int .i64 (f), .int .u64 (na)], .int .i64 k] W fun e w' => e = .returned (.tuple #[.agg #[.int .i64 (v), .int .i64 (f), .int .u64 (IntKind.u64.wrap (n + 2))], .int .i64 (0)]) ∧ W.grownBy w' none) (T3 : ∀ W, Calls Try.prog 9 #[.agg #[.int .i64 (v), .int .i64 (f), .int .u64 (n)], .int .i64 k] W fun e w' => e = .returned (.tuple #[.agg #[.int .i64 (0), .int .i64 (0), .int .u64 (0)], .int .i64 (E3)]) ∧ W.grownBy w' none) (hE3 : (E3 == 0) = false) (hE3a : 0 ≤ E3) (hE3b : E3 ≤ 142)
    (TR : ∀ W, w.grownBy W none → Calls Try.prog 20 #[.agg #[.int .i64 v, .int .i64 f, .int .u64 n], .slice ao len cap] W fun e w' => e = .returned (.tuple #[.agg #[.int .i64 x, .int .i64 fx, .int .u64 nx], .int .i64 dx, .int .i64 ex]) ∧ W.grownBy w' none) (hx : fx ≤ x) :
    Calls Try.prog 7 #[.agg #[.int .i64 v, .int .i64 f, .int .u64 n], .int .i64 k, .slice ao len cap] w fun e w' => e = .returned (.bool true) ∧ w.grownBy w' none := by
  have T1' := Lib.hid T1
  have T3' := Lib.hid T3
  have TR' := Lib.hid TR
  have T2' := Lib.hid T2
  clear T1 T3 TR T2
  go_enter Try.func7, Try.ntmps7
  go_wp2_with fail
  refine (T1'.out _).mono ?_
  rintro e w1 ⟨rfl, hg⟩
  have g1 : w.grownBy w1 none := by refine gtrans ?_ hg; (repeat' (first | (with_reducible exact World.grownBy.refl _ _) | (with_reducible assumption) | (with_reducible refine galloc ?_ _) | (with_reducible refine gdrewN ?_ _) | (with_reducible refine gset ?_ (.inl (by simp; try omega)) _)))
  have c0 : w1.cell? ⟨w.heap.size, 0, none⟩ = some (.int .i64 v) := hg.cell (by go_simp) (by simp)
  have c1 : w1.cell? ⟨w.heap.size, 1, none⟩ = some (.int .i64 f) := hg.cell (by go_simp) (by simp)
  have c2 : w1.cell? ⟨w.heap.size, 2, none⟩ = some (.int .u64 n) := hg.cell (by go_simp) (by simp)
  have cl1 : w.heap.size < w1.heap.size := by have := hg.size; simp at this; omega
  have cm1 : w.heap.size < w1.heap.size + 1 := by omega
  clear hg
  go_wp2_with (go_at_call 14; refine (num_any _ _ (by omega) (by omega)).mono ?_; rintro e w' ⟨rfl, rfl⟩)
  refine (T2'.out _).mono ?_
  rintro e w2 ⟨rfl, hg⟩
  have g2 : w.grownBy w2 none := by refine gtrans ?_ hg; (repeat' (first | (with_reducible exact World.grownBy.refl _ _) | (with_reducible assumption) | (with_reducible refine galloc ?_ _) | (with_reducible refine gdrewN ?_ _) | (with_reducible refine gset ?_ (.inl (by simp; try omega)) _)))
  have c0 : w2.cell? ⟨w.heap.size, 0, none⟩ = some (.int .i64 v) := hg.cell (by go_simp) (by simp)
  have c1 : w2.cell? ⟨w.heap.size, 1, none⟩ = some (.int .i64 f) := hg.cell (by go_simp) (by simp)
  have c2 : w2.cell? ⟨w.heap.size, 2, none⟩ = some (.int .u64 n) := hg.cell (by go_simp) (by simp)
  have cl2 : w.heap.size < w2.heap.size := by have := hg.size; simp at this; omega
  have cm2 : w.heap.size < w2.heap.size + 1 := by omega
  have a0 : w2.cell? ⟨w1.heap.size, 0, none⟩ = some (.int .i64 a) := hg.cell (by go_simp) (by simp)
  have a1 : w2.cell? ⟨w1.heap.size, 1, none⟩ = some (.int .i64 f) := hg.cell (by go_simp) (by simp)
  have a2 : w2.cell? ⟨w1.heap.size, 2, none⟩ = some (.int .u64 na) := hg.cell (by go_simp) (by simp)
  have al2 : w1.heap.size < w2.heap.size := by have := hg.size; simp at this; omega
  have am2 : w1.heap.size < w2.heap.size + 1 := by omega
  clear hg
  go_wp2_with (go_at_call 14; refine (num_any _ _ (by omega) (by omega)).mono ?_; rintro e w' ⟨rfl, rfl⟩)
  refine (T3'.out _).mono ?_
  rintro e w3 ⟨rfl, hg⟩
  have g3 : w.grownBy w3 none := by refine gtrans ?_ hg; (repeat' (first | (with_reducible exact World.grownBy.refl _ _) | (with_reducible assumption) | (with_reducible refine galloc ?_ _) | (with_reducible refine gdrewN ?_ _) | (with_reducible refine gset ?_ (.inl (by simp; try omega)) _)))
  have c0 : w3.cell? ⟨w.heap.size, 0, none⟩ = some (.int .i64 v) := hg.cell (by go_simp) (by simp)
  have c1 : w3.cell? ⟨w.heap.size, 1, none⟩ = some (.int .i64 f) := hg.cell (by go_simp) (by simp)
  have c2 : w3.cell? ⟨w.heap.size, 2, none⟩ = some (.int .u64 n) := hg.cell (by go_simp) (by simp)
  have cl3 : w.heap.size < w3.heap.size := by have := hg.size; simp at this; omega
  have cm3 : w.heap.size < w3.heap.size + 1 := by omega
  clear hg
  go_wp2_with (go_at_call 14; refine (num_any _ _ (by omega) (by omega)).mono ?_; rintro e w' ⟨rfl, rfl⟩)
  refine (TR'.out _ (by (repeat' (first | (with_reducible exact World.grownBy.refl _ _) | (with_reducible assumption) | (with_reducible refine galloc ?_ _) | (with_reducible refine gdrewN ?_ _) | (with_reducible refine gset ?_ (.inl (by simp; try omega)) _))))).mono ?_
  rintro e w5 ⟨rfl, hg⟩
  have g5 : w.grownBy w5 none := by refine gtrans ?_ hg; (repeat' (first | (with_reducible exact World.grownBy.refl _ _) | (with_reducible assumption) | (with_reducible refine galloc ?_ _) | (with_reducible refine gdrewN ?_ _) | (with_reducible refine gset ?_ (.inl (by simp; try omega)) _)))
  clear hg
  go_wp2_with (go_at_call 17; refine (works_any _).mono ?_; rintro e w6 ⟨rfl, hg⟩)
  go_ret
  exact ⟨rfl, by refine gtrans ?_ hg; (repeat' (first | (with_reducible exact World.grownBy.refl _ _) | (with_reducible assumption) | (with_reducible refine galloc ?_ _) | (with_reducible refine gdrewN ?_ _) | (with_reducible refine gset ?_ (.inl (by simp; try omega)) _)))⟩

set_option maxRecDepth 100000 in
set_option maxHeartbeats 4000000 in
theorem walk_ZZ (v f n k : Int) (len cap : Nat) (ao : Option Addr) (w : World) (hl : (len : Int) ≤ 30) (E1 E3 a na b nb f4 n4 x fx nx dx ex : Int) (T1 : ∀ W, Calls Try.prog 8 #[.agg #[.int .i64 (v), .int .i64 (f), .int .u64 (n)], .int .i64 k] W fun e w' => e = .returned (.tuple #[.agg #[.int .i64 (a), .int .i64 (f), .int .u64 (na)], .int .i64 (0)]) ∧ W.grownBy w' none) (ha : f ≤ a) (T2 : ∀ W, Calls Try.prog 9 #[.agg #[.int .i64 (a), .int .i64 (f), .int .u64 (na)], .int .i64 k] W fun e w' => e = .returned (.tuple #[.agg #[.int .i64 (v), .int .i64 (f), .int .u64 (IntKind.u64.wrap (n + 2))], .int .i64 (0)]) ∧ W.grownBy w' none) (T3 : ∀ W, Calls Try.prog 9 #[.agg #[.int .i64 (v), .int .i64 (f), .int .u64 (n)], .int .i64 k] W fun e w' => e = .returned (.tuple #[.agg #[.int .i64 (b), .int .i64 (f), .int .u64 (nb)], .int .i64 (0)]) ∧ W.grownBy w' none) (hb : f ≤ b) (T4 : ∀ W, Calls Try.prog 8 #[.agg #[.int .i64 (b), .int .i64 (f), .int .u64 (nb)], .int .i64 k] W fun e w' => e = .returned (.tuple #[.agg #[.int .i64 (v), .int .i64 (f4), .int .u64 (n4)], .int .i64 (0)]) ∧ W.grownBy w' none)
    (TR : ∀ W, w.grownBy W none → Calls Try.prog 20 #[.agg #[.int .i64 v, .int .i64 f, .int .u64 n], .slice ao len cap] W fun e w' => e = .returned (.tuple #[.agg #[.int .i64 x, .int .i64 fx, .int .u64 nx], .int .i64 dx, .int .i64 ex]) ∧ W.grownBy w' none) (hx : fx ≤ x) :
    Calls Try.prog 7 #[.agg #[.int .i64 v, .int .i64 f, .int .u64 n], .int .i64 k, .slice ao len cap] w fun e w' => e = .returned (.bool true) ∧ w.grownBy w' none := by
  have T1' := Lib.hid T1
  have T3' := Lib.hid T3
  have TR' := Lib.hid TR
  have T2' := Lib.hid T2
  have T4' := Lib.hid T4
  clear T1 T3 TR T2 T4
  go_enter Try.func7, Try.ntmps7
  go_wp2_with fail
  refine (T1'.out _).mono ?_
  rintro e w1 ⟨rfl, hg⟩
  have g1 : w.grownBy w1 none := by refine gtrans ?_ hg; (repeat' (first | (with_reducible exact World.grownBy.refl _ _) | (with_reducible assumption) | (with_reducible refine galloc ?_ _) | (with_reducible refine gdrewN ?_ _) | (with_reducible refine gset ?_ (.inl (by simp; try omega)) _)))
  have c0 : w1.cell? ⟨w.heap.size, 0, none⟩ = some (.int .i64 v) := hg.cell (by go_simp) (by simp)
  have c1 : w1.cell? ⟨w.heap.size, 1, none⟩ = some (.int .i64 f) := hg.cell (by go_simp) (by simp)
  have c2 : w1.cell? ⟨w.heap.size, 2, none⟩ = some (.int .u64 n) := hg.cell (by go_simp) (by simp)
  have cl1 : w.heap.size < w1.heap.size := by have := hg.size; simp at this; omega
  have cm1 : w.heap.size < w1.heap.size + 1 := by omega
  clear hg
  go_wp2_with (go_at_call 14; refine (num_any _ _ (by omega) (by omega)).mono ?_; rintro e w' ⟨rfl, rfl⟩)
  refine (T2'.out _).mono ?_
  rintro e w2 ⟨rfl, hg⟩
  have g2 : w.grownBy w2 none := by refine gtrans ?_ hg; (repeat' (first | (with_reducible exact World.grownBy.refl _ _) | (with_reducible assumption) | (with_reducible refine galloc ?_ _) | (with_reducible refine gdrewN ?_ _) | (with_reducible refine gset ?_ (.inl (by simp; try omega)) _)))
  have c0 : w2.cell? ⟨w.heap.size, 0, none⟩ = some (.int .i64 v) := hg.cell (by go_simp) (by simp)
  have c1 : w2.cell? ⟨w.heap.size, 1, none⟩ = some (.int .i64 f) := hg.cell (by go_simp) (by simp)
  have c2 : w2.cell? ⟨w.heap.size, 2, none⟩ = some (.int .u64 n) := hg.cell (by go_simp) (by simp)
  have cl2 : w.heap.size < w2.heap.size := by have := hg.size; simp at this; omega
  have cm2 : w.heap.size < w2.heap.size + 1 := by omega
  have a0 : w2.cell? ⟨w1.heap.size, 0, none⟩ = some (.int .i64 a) := hg.cell (by go_simp) (by simp)
  have a1 : w2.cell? ⟨w1.heap.size, 1, none⟩ = some (.int .i64 f) := hg.cell (by go_simp) (by simp)
  have a2 : w2.cell? ⟨w1.heap.size, 2, none⟩ = some (.int .u64 na) := hg.cell (by go_simp) (by simp)
  have al2 : w1.heap.size < w2.heap.size := by have := hg.size; simp at this; omega
  have am2 : w1.heap.size < w2.heap.size + 1 := by omega
  clear hg
  go_wp2_with (go_at_call 14; refine (num_any _ _ (by omega) (by omega)).mono ?_; rintro e w' ⟨rfl, rfl⟩)
  refine (T3'.out _).mono ?_
  rintro e w3 ⟨rfl, hg⟩
  have g3 : w.grownBy w3 none := by refine gtrans ?_ hg; (repeat' (first | (with_reducible exact World.grownBy.refl _ _) | (with_reducible assumption) | (with_reducible refine galloc ?_ _) | (with_reducible refine gdrewN ?_ _) | (with_reducible refine gset ?_ (.inl (by simp; try omega)) _)))
  have c0 : w3.cell? ⟨w.heap.size, 0, none⟩ = some (.int .i64 v) := hg.cell (by go_simp) (by simp)
  have c1 : w3.cell? ⟨w.heap.size, 1, none⟩ = some (.int .i64 f) := hg.cell (by go_simp) (by simp)
  have c2 : w3.cell? ⟨w.heap.size, 2, none⟩ = some (.int .u64 n) := hg.cell (by go_simp) (by simp)
  have cl3 : w.heap.size < w3.heap.size := by have := hg.size; simp at this; omega
  have cm3 : w.heap.size < w3.heap.size + 1 := by omega
  clear hg
  go_wp2_with (go_at_call 14; refine (num_any _ _ (by omega) (by omega)).mono ?_; rintro e w' ⟨rfl, rfl⟩)
  refine (T4'.out _).mono ?_
  rintro e w4 ⟨rfl, hg⟩
  have g4 : w.grownBy w4 none := by refine gtrans ?_ hg; (repeat' (first | (with_reducible exact World.grownBy.refl _ _) | (with_reducible assumption) | (with_reducible refine galloc ?_ _) | (with_reducible refine gdrewN ?_ _) | (with_reducible refine gset ?_ (.inl (by simp; try omega)) _)))
  have c0 : w4.cell? ⟨w.heap.size, 0, none⟩ = some (.int .i64 v) := hg.cell (by go_simp) (by simp)
  have c1 : w4.cell? ⟨w.heap.size, 1, none⟩ = some (.int .i64 f) := hg.cell (by go_simp) (by simp)
  have c2 : w4.cell? ⟨w.heap.size, 2, none⟩ = some (.int .u64 n) := hg.cell (by go_simp) (by simp)
  have cl4 : w.heap.size < w4.heap.size := by have := hg.size; simp at this; omega
  have cm4 : w.heap.size < w4.heap.size + 1 := by omega
  have b0 : w4.cell? ⟨w3.heap.size, 0, none⟩ = some (.int .i64 b) := hg.cell (by go_simp) (by simp)
  have b1 : w4.cell? ⟨w3.heap.size, 1, none⟩ = some (.int .i64 f) := hg.cell (by go_simp) (by simp)
  have b2 : w4.cell? ⟨w3.heap.size, 2, none⟩ = some (.int .u64 nb) := hg.cell (by go_simp) (by simp)
  have bl4 : w3.heap.size < w4.heap.size := by have := hg.size; simp at this; omega
  have bm4 : w3.heap.size < w4.heap.size + 1 := by omega
  clear hg
  go_wp2_with (go_at_call 14; refine (num_any _ _ (by omega) (by omega)).mono ?_; rintro e w' ⟨rfl, rfl⟩)
  refine (TR'.out _ (by (repeat' (first | (with_reducible exact World.grownBy.refl _ _) | (with_reducible assumption) | (with_reducible refine galloc ?_ _) | (with_reducible refine gdrewN ?_ _) | (with_reducible refine gset ?_ (.inl (by simp; try omega)) _))))).mono ?_
  rintro e w5 ⟨rfl, hg⟩
  have g5 : w.grownBy w5 none := by refine gtrans ?_ hg; (repeat' (first | (with_reducible exact World.grownBy.refl _ _) | (with_reducible assumption) | (with_reducible refine galloc ?_ _) | (with_reducible refine gdrewN ?_ _) | (with_reducible refine gset ?_ (.inl (by simp; try omega)) _)))
  clear hg
  go_wp2_with (go_at_call 17; refine (works_any _).mono ?_; rintro e w6 ⟨rfl, hg⟩)
  go_ret
  exact ⟨rfl, by refine gtrans ?_ hg; (repeat' (first | (with_reducible exact World.grownBy.refl _ _) | (with_reducible assumption) | (with_reducible refine galloc ?_ _) | (with_reducible refine gdrewN ?_ _) | (with_reducible refine gset ?_ (.inl (by simp; try omega)) _)))⟩

set_option maxRecDepth 100000 in
set_option maxHeartbeats 4000000 in
theorem walk_ZM (v f n k : Int) (len cap : Nat) (ao : Option Addr) (w : World) (hl : (len : Int) ≤ 30) (E1 E3 a na b nb f4 n4 x fx nx dx ex : Int) (T1 : ∀ W, Calls Try.prog 8 #[.agg #[.int .i64 (v), .int .i64 (f), .int .u64 (n)], .int .i64 k] W fun e w' => e = .returned (.tuple #[.agg #[.int .i64 (a), .int .i64 (f), .int .u64 (na)], .int .i64 (0)]) ∧ W.grownBy w' none) (ha : f ≤ a) (T2 : ∀ W, Calls Try.prog 9 #[.agg #[.int .i64 (a), .int .i64 (f), .int .u64 (na)], .int .i64 k] W fun e w' => e = .returned (.tuple #[.agg #[.int .i64 (v), .int .i64 (f), .int .u64 (IntKind.u64.wrap (n + 2))], .int .i64 (0)]) ∧ W.grownBy w' none) (T3 : ∀ W, Calls Try.prog 9 #[.agg #[.int .i64 (v), .int .i64 (f), .int .u64 (n)], .int .i64 k] W fun e w' => e = .returned (.tuple #[.agg #[.int .i64 (b), .int .i64 (f), .int .u64 (nb)], .int .i64 (0)]) ∧ W.grownBy w' none) (hb : f ≤ b) (T4 : ∀ W, Calls Try.prog 8 #[.agg #[.int .i64 (b), .int .i64 (f), .int .u64 (nb)], .int .i64 k] W fun e w' => e = .returned (.tuple #[.agg #[.int .i64 (0), .int .i64 (0), .int .u64 (0)], .int .i64 (142)]) ∧ W.grownBy w' none)
    (TR : ∀ W, w.grownBy W none → Calls Try.prog 20 #[.agg #[.int .i64 v, .int .i64 f, .int .u64 n], .slice ao len cap] W fun e w' => e = .returned (.tuple #[.agg #[.int .i64 x, .int .i64 fx, .int .u64 nx], .int .i64 dx, .int .i64 ex]) ∧ W.grownBy w' none) (hx : fx ≤ x) :
    Calls Try.prog 7 #[.agg #[.int .i64 v, .int .i64 f, .int .u64 n], .int .i64 k, .slice ao len cap] w fun e w' => e = .returned (.bool true) ∧ w.grownBy w' none := by
  have T1' := Lib.hid T1
  have T3' := Lib.hid T3
  have TR' := Lib.hid TR
  have T2' := Lib.hid T2
  have T4' := Lib.hid T4
  clear T1 T3 TR T2 T4
  go_enter Try.func7, Try.ntmps7
  go_wp2_with fail
  refine (T1'.out _).mono ?_
  rintro e w1 ⟨rfl, hg⟩
  have g1 : w.grownBy w1 none := by refine gtrans ?_ hg; (repeat' (first | (with_reducible exact World.grownBy.refl _ _) | (with_reducible assumption) | (with_reducible refine galloc ?_ _) | (with_reducible refine gdrewN ?_ _) | (with_reducible refine gset ?_ (.inl (by simp; try omega)) _)))
  have c0 : w1.cell? ⟨w.heap.size, 0, none⟩ = some (.int .i64 v) := hg.cell (by go_simp) (by simp)
  have c1 : w1.cell? ⟨w.heap.size, 1, none⟩ = some (.int .i64 f) := hg.cell (by go_simp) (by simp)
  have c2 : w1.cell? ⟨w.heap.size, 2, none⟩ = some (.int .u64 n) := hg.cell (by go_simp) (by simp)
  have cl1 : w.heap.size < w1.heap.size := by have := hg.size; simp at this; omega
  have cm1 : w.heap.size < w1.heap.size + 1 := by omega
  clear hg
  go_wp2_with (go_at_call 14; refine (num_any _ _ (by omega) (by omega)).mono ?_; rintro e w' ⟨rfl, rfl⟩)
  refine (T2'.out _).mono ?_
  rintro e w2 ⟨rfl, hg⟩
  have g2 : w.grownBy w2 none := by refine gtrans ?_ hg; (repeat' (first | (with_reducible exact World.grownBy.refl _ _) | (with_reducible assumption) | (with_reducible refine galloc ?_ _) | (with_reducible refine gdrewN ?_ _) | (with_reducible refine gset ?_ (.inl (by simp; try omega)) _)))
  have c0 : w2.cell? ⟨w.heap.size, 0, none⟩ = some (.int .i64 v) := hg.cell (by go_simp) (by simp)
  have c1 : w2.cell? ⟨w.heap.size, 1, none⟩ = some (.int .i64 f) := hg.cell (by go_simp) (by simp)
  have c2 : w2.cell? ⟨w.heap.size, 2, none⟩ = some (.int .u64 n) := hg.cell (by go_simp) (by simp)
  have cl2 : w.heap.size < w2.heap.size := by have := hg.size; simp at this; omega
  have cm2 : w.heap.size < w2.heap.size + 1 := by omega
  have a0 : w2.cell? ⟨w1.heap.size, 0, none⟩ = some (.int .i64 a) := hg.cell (by go_simp) (by simp)
  have a1 : w2.cell? ⟨w1.heap.size, 1, none⟩ = some (.int .i64 f) := hg.cell (by go_simp) (by simp)
  have a2 : w2.cell? ⟨w1.heap.size, 2, none⟩ = some (.int .u64 na) := hg.cell (by go_simp) (by simp)
  have al2 : w1.heap.size < w2.heap.size := by have := hg.size; simp at this; omega
  have am2 : w1.heap.size < w2.heap.size + 1 := by omega
  clear hg
  go_wp2_with (go_at_call 14; refine (num_any _ _ (by omega) (by omega)).mono ?_; rintro e w' ⟨rfl, rfl⟩)
  refine (T3'.out _).mono ?_
  rintro e w3 ⟨rfl, hg⟩
  have g3 : w.grownBy w3 none := by refine gtrans ?_ hg; (repeat' (first | (with_reducible exact World.grownBy.refl _ _) | (with_reducible assumption) | (with_reducible refine galloc ?_ _) | (with_reducible refine gdrewN ?_ _) | (with_reducible refine gset ?_ (.inl (by simp; try omega)) _)))
  have c0 : w3.cell? ⟨w.heap.size, 0, none⟩ = some (.int .i64 v) := hg.cell (by go_simp) (by simp)
  have c1 : w3.cell? ⟨w.heap.size, 1, none⟩ = some (.int .i64 f) := hg.cell (by go_simp) (by simp)
  have c2 : w3.cell? ⟨w.heap.size, 2, none⟩ = some (.int .u64 n) := hg.cell (by go_simp) (by simp)
  have cl3 : w.heap.size < w3.heap.size := by have := hg.size; simp at this; omega
  have cm3 : w.heap.size < w3.heap.size + 1 := by omega
  clear hg
  go_wp2_with (go_at_call 14; refine (num_any _ _ (by omega) (by omega)).mono ?_; rintro e w' ⟨rfl, rfl⟩)
  refine (T4'.out _).mono ?_
  rintro e w4 ⟨rfl, hg⟩
  have g4 : w.grownBy w4 none := by refine gtrans ?_ hg; (repeat' (first | (with_reducible exact World.grownBy.refl _ _) | (with_reducible assumption) | (with_reducible refine galloc ?_ _) | (with_reducible refine gdrewN ?_ _) | (with_reducible refine gset ?_ (.inl (by simp; try omega)) _)))
  have c0 : w4.cell? ⟨w.heap.size, 0, none⟩ = some (.int .i64 v) := hg.cell (by go_simp) (by simp)
  have c1 : w4.cell? ⟨w.heap.size, 1, none⟩ = some (.int .i64 f) := hg.cell (by go_simp) (by simp)
  have c2 : w4.cell? ⟨w.heap.size, 2, none⟩ = some (.int .u64 n) := hg.cell (by go_simp) (by simp)
  have cl4 : w.heap.size < w4.heap.size := by have := hg.size; simp at this; omega
  have cm4 : w.heap.size < w4.heap.size + 1 := by omega
  have b0 : w4.cell? ⟨w3.heap.size, 0, none⟩ = some (.int .i64 b) := hg.cell (by go_simp) (by simp)
  have b1 : w4.cell? ⟨w3.heap.size, 1, none⟩ = some (.int .i64 f) := hg.cell (by go_simp) (by simp)
  have b2 : w4.cell? ⟨w3.heap.size, 2, none⟩ = some (.int .u64 nb) := hg.cell (by go_simp) (by simp)
  have bl4 : w3.heap.size < w4.heap.size := by have := hg.size; simp at this; omega
  have bm4 : w3.heap.size < w4.heap.size + 1 := by omega
  clear hg
  go_wp2_with (go_at_call 14; refine (num_any _ _ (by omega) (by omega)).mono ?_; rintro e w' ⟨rfl, rfl⟩)
  refine (TR'.out _ (by (repeat' (first | (with_reducible exact World.grownBy.refl _ _) | (with_reducible assumption) | (with_reducible refine galloc ?_ _) | (with_reducible refine gdrewN ?_ _) | (with_reducible refine gset ?_ (.inl (by simp; try omega)) _))))).mono ?_
  rintro e w5 ⟨rfl, hg⟩
  have g5 : w.grownBy w5 none := by refine gtrans ?_ hg; (repeat' (first | (with_reducible exact World.grownBy.refl _ _) | (with_reducible assumption) | (with_reducible refine galloc ?_ _) | (with_reducible refine gdrewN ?_ _) | (with_reducible refine gset ?_ (.inl (by simp; try omega)) _)))
  clear hg
  go_wp2_with (go_at_call 17; refine (works_any _).mono ?_; rintro e w6 ⟨rfl, hg⟩)
  go_ret
  exact ⟨rfl, by refine gtrans ?_ hg; (repeat' (first | (with_reducible exact World.grownBy.refl _ _) | (with_reducible assumption) | (with_reducible refine galloc ?_ _) | (with_reducible refine gdrewN ?_ _) | (with_reducible refine gset ?_ (.inl (by simp; try omega)) _)))⟩

set_option maxRecDepth 100000 in
set_option maxHeartbeats 4000000 in
theorem walk_MN (v f n k : Int) (len cap : Nat) (ao : Option Addr) (w : World) (hl : (len : Int) ≤ 30) (E1 E3 a na b nb f4 n4 x fx nx dx ex : Int) (T1 : ∀ W, Calls Try.prog 8 #[.agg #[.int .i64 (v), .int .i64 (f), .int .u64 (n)], .int .i64 k] W fun e w' => e = .returned (.tuple #[.agg #[.int .i64 (a), .int .i64 (f), .int .u64 (na)], .int .i64 (0)]) ∧ W.grownBy w' none) (ha : f ≤ a) (T2 : ∀ W, Calls Try.prog 9 #[.agg #[.int .i64 (a), .int .i64 (f), .int .u64 (na)], .int .i64 k] W fun e w' => e = .returned (.tuple #[.agg #[.int .i64 (0), .int .i64 (0), .int .u64 (0)], .int .i64 (142)]) ∧ W.grownBy w' none) (T3 : ∀ W, Calls Try.prog 9 #[.agg #[.int .i64 (v), .int .i64 (f), .int .u64 (n)], .int .i64 k] W fun e w' => e = .returned (.tuple #[.agg #[.int .i64 (0), .int .i64 (0), .int .u64 (0)], .int .i64 (E3)]) ∧ W.grownBy w' none) (hE3 : (E3 == 0) = false) (hE3a : 0 ≤ E3) (hE3b : E3 ≤ 142)
    (TR : ∀ W, w.grownBy W none → Calls Try.prog 20 #[.agg #[.int .i64 v, .int .i64 f, .int .u64 n], .slice ao len cap] W fun e w' => e = .returned (.tuple #[.agg #[.int .i64 x, .int .i64 fx, .int .u64 nx], .int .i64 dx, .int .i64 ex]) ∧ W.grownBy w' none) (hx : fx ≤ x) :
    Calls Try.prog 7 #[.agg #[.int .i64 v, .int .i64 f, .int .u64 n], .int .i64 k, .slice ao len cap] w fun e w' => e = .returned (.bool true) ∧ w.grownBy w' none := by
  have T1' := Lib.hid T1
  have T3' := Lib.hid T3
  have TR' := Lib.hid TR
  have T2' := Lib.hid T2
  clear T1 T3 TR T2
  go_enter Try.func7, Try.ntmps7
  go_wp2_with fail
  refine (T1'.out _).mono ?_
  rintro e w1 ⟨rfl, hg⟩
  have g1 : w.grownBy w1 none := by refine gtrans ?_ hg; (repeat' (first | (with_reducible exact World.grownBy.refl _ _) | (with_reducible assumption) | (with_reducible refine galloc ?_ _) | (with_reducible refine gdrewN ?_ _) | (with_reducible refine gset ?_ (.inl (by simp; try omega)) _)))
  have c0 : w1.cell? ⟨w.heap.size, 0, none⟩ = some (.int .i64 v) := hg.cell (by go_simp) (by simp)
  have c1 : w1.cell? ⟨w.heap.size, 1, none⟩ = some (.int .i64 f) := hg.cell (by go_simp) (by simp)
  have c2 : w1.cell? ⟨w.heap.size, 2, none⟩ = some (.int .u64 n) := hg.cell (by go_simp) (by simp)
  have cl1 : w.heap.size < w1.heap.size := by have := hg.size; simp at this; omega
  have cm1 : w.heap.size < w1.heap.size + 1 := by omega
  clear hg
  go_wp2_with (go_at_call 14; refine (num_any _ _ (by omega) (by omega)).mono ?_; rintro e w' ⟨rfl, rfl⟩)
  refine (T2'.out _).mono ?_
  rintro e w2 ⟨rfl, hg⟩
  have g2 : w.grownBy w2 none := by refine gtrans ?_ hg; (repeat' (first | (with_reducible exact World.grownBy.refl _ _) | (with_reducible assumption) | (with_reducible refine galloc ?_ _) | (with_reducible refine gdrewN ?_ _) | (with_reducible refine gset ?_ (.inl (by simp; try omega)) _)))
  have c0 : w2.cell? ⟨w.heap.size, 0, none⟩ = some (.int .i64 v) := hg.cell (by go_simp) (by simp)
  have c1 : w2.cell? ⟨w.heap.size, 1, none⟩ = some (.int .i64 f) := hg.cell (by go_simp) (by simp)
  have c2 : w2.cell? ⟨w.heap.size, 2, none⟩ = some (.int .u64 n) := hg.cell (by go_simp) (by simp)
  have cl2 : w.heap.size < w2.heap.size := by have := hg.size; simp at this; omega
  have cm2 : w.heap.size < w2.heap.size + 1 := by omega
  have a0 : w2.cell? ⟨w1.heap.size, 0, none⟩ = some (.int .i64 a) := hg.cell (by go_simp) (by simp)
  have a1 : w2.cell? ⟨w1.heap.size, 1, none⟩ = some (.int .i64 f) := hg.cell (by go_simp) (by simp)
  have a2 : w2.cell? ⟨w1.heap.size, 2, none⟩ = some (.int .u64 na) := hg.cell (by go_simp) (by simp)
  have al2 : w1.heap.size < w2.heap.size := by have := hg.size; simp at this; omega
  have am2 : w1.heap.size < w2.heap.size + 1 := by omega
  clear hg
  go_wp2_with (go_at_call 14; refine (num_any _ _ (by omega) (by omega)).mono ?_; rintro e w' ⟨rfl, rfl⟩)
  refine (T3'.out _).mono ?_
  rintro e w3 ⟨rfl, hg⟩
  have g3 : w.grownBy w3 none := by refine gtrans ?_ hg; (repeat' (first | (with_reducible exact World.grownBy.refl _ _) | (with_reducible assumption) | (with_reducible refine galloc ?_ _) | (with_reducible refine gdrewN ?_ _) | (with_reducible refine gset ?_ (.inl (by simp; try omega)) _)))
  have c0 : w3.cell? ⟨w.heap.size, 0, none⟩ = some (.int .i64 v) := hg.cell (by go_simp) (by simp)
  have c1 : w3.cell? ⟨w.heap.size, 1, none⟩ = some (.int .i64 f) := hg.cell (by go_simp) (by simp)
  have c2 : w3.cell? ⟨w.heap.size, 2, none⟩ = some (.int .u64 n) := hg.cell (by go_simp) (by simp)
  have cl3 : w.heap.size < w3.heap.size := by have := hg.size; simp at this; omega
  have cm3 : w.heap.size < w3.heap.size + 1 := by omega
  clear hg
  go_wp2_with (go_at_call 14; refine (num_any _ _ (by omega) (by omega)).mono ?_; rintro e w' ⟨rfl, rfl⟩)
  refine (TR'.out _ (by (repeat' (first | (with_reducible exact World.grownBy.refl _ _) | (with_reducible assumption) | (with_reducible refine galloc ?_ _) | (with_reducible refine gdrewN ?_ _) | (with_reducible refine gset ?_ (.inl (by simp; try omega)) _))))).mono ?_
  rintro e w5 ⟨rfl, hg⟩
  have g5 : w.grownBy w5 none := by refine gtrans ?_ hg; (repeat' (first | (with_reducible exact World.grownBy.refl _ _) | (with_reducible assumption) | (with_reducible refine galloc ?_ _) | (with_reducible refine gdrewN ?_ _) | (with_reducible refine gset ?_ (.inl (by simp; try omega)) _)))
  clear hg
  go_wp2_with (go_at_call 17; refine (works_any _).mono ?_; rintro e w6 ⟨rfl, hg⟩)
  go_ret
  exact ⟨rfl, by refine gtrans ?_ hg; (repeat' (first | (with_reducible exact World.grownBy.refl _ _) | (with_reducible assumption) | (with_reducible refine galloc ?_ _) | (with_reducible refine gdrewN ?_ _) | (with_reducible refine gset ?_ (.inl (by simp; try omega)) _)))⟩

set_option maxRecDepth 100000 in
set_option maxHeartbeats 4000000 in
theorem walk_MZ (v f n k : Int) (len cap : Nat) (ao : Option Addr) (w : World) (hl : (len : Int) ≤ 30) (E1 E3 a na b nb f4 n4 x fx nx dx ex : Int) (T1 : ∀ W, Calls Try.prog 8 #[.agg #[.int .i64 (v), .int .i64 (f), .int .u64 (n)], .int .i64 k] W fun e w' => e = .returned (.tuple #[.agg #[.int .i64 (a), .int .i64 (f), .int .u64 (na)], .int .i64 (0)]) ∧ W.grownBy w' none) (ha : f ≤ a) (T2 : ∀ W, Calls Try.prog 9 #[.agg #[.int .i64 (a), .int .i64 (f), .int .u64 (na)], .int .i64 k] W fun e w' => e = .returned (.tuple #[.agg #[.int .i64 (0), .int .i64 (0), .int .u64 (0)], .int .i64 (142)]) ∧ W.grownBy w' none) (T3 : ∀ W, Calls Try.prog 9 #[.agg #[.int .i64 (v), .int .i64 (f), .int .u64 (n)], .int .i64 k] W fun e w' => e = .returned (.tuple #[.agg #[.int .i64 (b), .int .i64 (f), .int .u64 (nb)], .int .i64 (0)]) ∧ W.grownBy w' none) (hb : f ≤ b) (T4 : ∀ W, Calls Try.prog 8 #[.agg #[.int .i64 (b), .int .i64 (f), .int .u64 (nb)], .int .i64 k] W fun e w' => e = .returned (.tuple #[.agg #[.int .i64 (v), .int .i64 (f4), .int .u64 (n4)], .int .i64 (0)]) ∧ W.grownBy w' none)
    (TR : ∀ W, w.grownBy W none → Calls Try.prog 20 #[.agg #[.int .i64 v, .int .i64 f, .int .u64 n], .slice ao len cap] W fun e w' => e = .returned (.tuple #[.agg #[.int .i64 x, .int .i64 fx, .int .u64 nx], .int .i64 dx, .int .i64 ex]) ∧ W.grownBy w' none) (hx : fx ≤ x) :
    Calls Try.prog 7 #[.agg #[.int .i64 v, .int .i64 f, .int .u64 n], .int .i64 k, .slice ao len cap] w fun e w' => e = .returned (.bool true) ∧ w.grownBy w' none := by
  have T1' := Lib.hid T1
  have T3' := Lib.hid T3
  have TR' := Lib.hid TR
  have T2' := Lib.hid T2
  have T4' := Lib.hid T4
  clear T1 T3 TR T2 T4
  go_enter Try.func7, Try.ntmps7
  go_wp2_with fail
  refine (T1'.out _).mono ?_
  rintro e w1 ⟨rfl, hg⟩
  have g1 : w.grownBy w1 none := by refine gtrans ?_ hg; (repeat' (first | (with_reducible exact World.grownBy.refl _ _) | (with_reducible assumption) | (with_reducible refine galloc ?_ _) | (with_reducible refine gdrewN ?_ _) | (with_reducible refine gset ?_ (.inl (by simp; try omega)) _)))
  have c0 : w1.cell? ⟨w.heap.size, 0, none⟩ = some (.int .i64 v) := hg.cell (by go_simp) (by simp)
  have c1 : w1.cell? ⟨w.heap.size, 1, none⟩ = some (.int .i64 f) := hg.cell (by go_simp) (by simp)
  have c2 : w1.cell? ⟨w.heap.size, 2, none⟩ = some (.int .u64 n) := hg.cell (by go_simp) (by simp)
  have cl1 : w.heap.size < w1.heap.size := by have := hg.size; simp at this; omega
  have cm1 : w.heap.size < w1.heap.size + 1 := by omega
  clear hg
  go_wp2_with (go_at_call 14; refine (num_any _ _ (by omega) (by omega)).mono ?_; rintro e w' ⟨rfl, rfl⟩)
  refine (T2'.out _).mono ?_
  rintro e w2 ⟨rfl, hg⟩
  have g2 : w.grownBy w2 none := by refine gtrans ?_ hg; (repeat' (first | (with_reducible exact World.grownBy.refl _ _) | (with_reducible assumption) | (with_reducible refine galloc ?_ _) | (with_reducible refine gdrewN ?_ _) | (with_reducible refine gset ?_ (.inl (by simp; try omega)) _)))
  have c0 : w2.cell? ⟨w.heap.size, 0, none⟩ = some (.int .i64 v) := hg.cell (by go_simp) (by simp)
  have c1 : w2.cell? ⟨w.heap.size, 1, none⟩ = some (.int .i64 f) := hg.cell (by go_simp) (by simp)
  have c2 : w2.cell? ⟨w.heap.size, 2, none⟩ = some (.int .u64 n) := hg.cell (by go_simp) (by simp)
  have cl2 : w.heap.size < w2.heap.size := by have := hg.size; simp at this; omega
  have cm2 : w.heap.size < w2.heap.size + 1 := by omega
  have a0 : w2.cell? ⟨w1.heap.size, 0, none⟩ = some (.int .i64 a) := hg.cell (by go_simp) (by simp)
  have a1 : w2.cell? ⟨w1.heap.size, 1, none⟩ = some (.int .i64 f) := hg.cell (by go_simp) (by simp)
  have a2 : w2.cell? ⟨w1.heap.size, 2, none⟩ = some (.int .u64 na) := hg.cell (by go_simp) (by simp)
  have al2 : w1.heap.size < w2.heap.size := by have := hg.size; simp at this; omega
  have am2 : w1.heap.size < w2.heap.size + 1 := by omega
  clear hg
  go_wp2_with (go_at_call 14; refine (num_any _ _ (by omega) (by omega)).mono ?_; rintro e w' ⟨rfl, rfl⟩)
  refine (T3'.out _).mono ?_
  rintro e w3 ⟨rfl, hg⟩
  have g3 : w.grownBy w3 none := by refine gtrans ?_ hg; (repeat' (first | (with_reducible exact World.grownBy.refl _ _) | (with_reducible assumption) | (with_reducible refine galloc ?_ _) | (with_reducible refine gdrewN ?_ _) | (with_reducible refine gset ?_ (.inl (by simp; try omega)) _)))
  have c0 : w3.cell? ⟨w.heap.size, 0, none⟩ = some (.int .i64 v) := hg.cell (by go_simp) (by simp)
  have c1 : w3.cell? ⟨w.heap.size, 1, none⟩ = some (.int .i64 f) := hg.cell (by go_simp) (by simp)
  have c2 : w3.cell? ⟨w.heap.size, 2, none⟩ = some (.int .u64 n) := hg.cell (by go_simp) (by simp)
  have cl3 : w.heap.size < w3.heap.size := by have := hg.size; simp at this; omega
  have cm3 : w.heap.size < w3.heap.size + 1 := by omega
  clear hg
  go_wp2_with (go_at_call 14; refine (num_any _ _ (by omega) (by omega)).mono ?_; rintro e w' ⟨rfl, rfl⟩)
  refine (T4'.out _).mono ?_
  rintro e w4 ⟨rfl, hg⟩
  have g4 : w.grownBy w4 none := by refine gtrans ?_ hg; (repeat' (first | (with_reducible exact World.grownBy.refl _ _) | (with_reducible assumption) | (with_reducible refine galloc ?_ _) | (with_reducible refine gdrewN ?_ _) | (with_reducible refine gset ?_ (.inl (by simp; try omega)) _)))
  have c0 : w4.cell? ⟨w.heap.size, 0, none⟩ = some (.int .i64 v) := hg.cell (by go_simp) (by simp)
  have c1 : w4.cell? ⟨w.heap.size, 1, none⟩ = some (.int .i64 f) := hg.cell (by go_simp) (by simp)
  have c2 : w4.cell? ⟨w.heap.size, 2, none⟩ = some (.int .u64 n) := hg.cell (by go_simp) (by simp)
  have cl4 : w.heap.size < w4.heap.size := by have := hg.size; simp at this; omega
  have cm4 : w.heap.size < w4.heap.size + 1 := by omega
  have b0 : w4.cell? ⟨w3.heap.size, 0, none⟩ = some (.int .i64 b) := hg.cell (by go_simp) (by simp)
  have b1 : w4.cell? ⟨w3.heap.size, 1, none⟩ = some (.int .i64 f) := hg.cell (by go_simp) (by simp)
  have b2 : w4.cell? ⟨w3.heap.size, 2, none⟩ = some (.int .u64 nb) := hg.cell (by go_simp) (by simp)
  have bl4 : w3.heap.size < w4.heap.size := by have := hg.size; simp at this; omega
  have bm4 : w3.heap.size < w4.heap.size + 1 := by omega
  clear hg
  go_wp2_with (go_at_call 14; refine (num_any _ _ (by omega) (by omega)).mono ?_; rintro e w' ⟨rfl, rfl⟩)
  refine (TR'.out _ (by (repeat' (first | (with_reducible exact World.grownBy.refl _ _) | (with_reducible assumption) | (with_reducible refine galloc ?_ _) | (with_reducible refine gdrewN ?_ _) | (with_reducible refine gset ?_ (.inl (by simp; try omega)) _))))).mono ?_
  rintro e w5 ⟨rfl, hg⟩
  have g5 : w.grownBy w5 none := by refine gtrans ?_ hg; (repeat' (first | (with_reducible exact World.grownBy.refl _ _) | (with_reducible assumption) | (with_reducible refine galloc ?_ _) | (with_reducible refine gdrewN ?_ _) | (with_reducible refine gset ?_ (.inl (by simp; try omega)) _)))
  clear hg
  go_wp2_with (go_at_call 17; refine (works_any _).mono ?_; rintro e w6 ⟨rfl, hg⟩)
  go_ret
  exact ⟨rfl, by refine gtrans ?_ hg; (repeat' (first | (with_reducible exact World.grownBy.refl _ _) | (with_reducible assumption) | (with_reducible refine galloc ?_ _) | (with_reducible refine gdrewN ?_ _) | (with_reducible refine gset ?_ (.inl (by simp; try omega)) _)))⟩

set_option maxRecDepth 100000 in
set_option maxHeartbeats 4000000 in
theorem walk_MM (v f n k : Int) (len cap : Nat) (ao : Option Addr) (w : World) (hl : (len : Int) ≤ 30) (E1 E3 a na b nb f4 n4 x fx nx dx ex : Int) (T1 : ∀ W, Calls Try.prog 8 #[.agg #[.int .i64 (v), .int .i64 (f), .int .u64 (n)], .int .i64 k] W fun e w' => e = .returned (.tuple #[.agg #[.int .i64 (a), .int .i64 (f), .int .u64 (na)], .int .i64 (0)]) ∧ W.grownBy w' none) (ha : f ≤ a) (T2 : ∀ W, Calls Try.prog 9 #[.agg #[.int .i64 (a), .int .i64 (f), .int .u64 (na)], .int .i64 k] W fun e w' => e = .returned (.tuple #[.agg #[.int .i64 (0), .int .i64 (0), .int .u64 (0)], .int .i64 (142)]) ∧ W.grownBy w' none) (T3 : ∀ W, Calls Try.prog 9 #[.agg #[.int .i64 (v), .int .i64 (f), .int .u64 (n)], .int .i64 k] W fun e w' => e = .returned (.tuple #[.agg #[.int .i64 (b), .int .i64 (f), .int .u64 (nb)], .int .i64 (0)]) ∧ W.grownBy w' none) (hb : f ≤ b) (T4 : ∀ W, Calls Try.prog 8 #[.agg #[.int .i64 (b), .int .i64 (f), .int .u64 (nb)], .int .i64 k] W fun e w' => e = .returned (.tuple #[.agg #[.int .i64 (0), .int .i64 (0), .int .u64 (0)], .int .i64 (142)]) ∧ W.grownBy w' none)
    (TR : ∀ W, w.grownBy W none → Calls Try.prog 20 #[.agg #[.int .i64 v, .int .i64 f, .int .u64 n], .slice ao len cap] W fun e w' => e = .returned (.tuple #[.agg #[.int .i64 x, .int .i64 fx, .int .u64 nx], .int .i64 dx, .int .i64 ex]) ∧ W.grownBy w' none) (hx : fx ≤ x) :
    Calls Try.prog 7 #[.agg #[.int .i64 v, .int .i64 f, .int .u64 n], .int .i64 k, .slice ao len cap] w fun e w' => e = .returned (.bool true) ∧ w.grownBy w' none := by
  have T1' := Lib.hid T1
  have T3' := Lib.hid T3
  have TR' := Lib.hid TR
  have T2' := Lib.hid T2
  have T4' := Lib.hid T4
  clear T1 T3 TR T2 T4
  go_enter Try.func7, Try.ntmps7
  go_wp2_with fail
  refine (T1'.out _).mono ?_
  rintro e w1 ⟨rfl, hg⟩
  have g1 : w.grownBy w1 none := by refine gtrans ?_ hg; (repeat' (first | (with_reducible exact World.grownBy.refl _ _) | (with_reducible assumption) | (with_reducible refine galloc ?_ _) | (with_reducible refine gdrewN ?_ _) | (with_reducible refine gset ?_ (.inl (by simp; try omega)) _)))
  have c0 : w1.cell? ⟨w.heap.size, 0, none⟩ = some (.int .i64 v) := hg.cell (by go_simp) (by simp)
  have c1 : w1.cell? ⟨w.heap.size, 1, none⟩ = some (.int .i64 f) := hg.cell (by go_simp) (by simp)
  have c2 : w1.cell? ⟨w.heap.size, 2, none⟩ = some (.int .u64 n) := hg.cell (by go_simp) (by simp)
  have cl1 : w.heap.size < w1.heap.size := by have := hg.size; simp at this; omega
  have cm1 : w.heap.size < w1.heap.size + 1 := by omega
  clear hg
  go_wp2_with (go_at_call 14; refine (num_any _ _ (by omega) (by omega)).mono ?_; rintro e w' ⟨rfl, rfl⟩)
  refine (T2'.out _).mono ?_
  rintro e w2 ⟨rfl, hg⟩
  have g2 : w.grownBy w2 none := by refine gtrans ?_ hg; (repeat' (first | (with_reducible exact World.grownBy.refl _ _) | (with_reducible assumption) | (with_reducible refine galloc ?_ _) | (with_reducible refine gdrewN ?_ _) | (with_reducible refine gset ?_ (.inl (by simp; try omega)) _)))
  have c0 : w2.cell? ⟨w.heap.size, 0, none⟩ = some (.int .i64 v) := hg.cell (by go_simp) (by simp)
  have c1 : w2.cell? ⟨w.heap.size, 1, none⟩ = some (.int .i64 f) := hg.cell (by go_simp) (by simp)
  have c2 : w2.cell? ⟨w.heap.size, 2, none⟩ = some (.int .u64 n) := hg.cell (by go_simp) (by simp)
  have cl2 : w.heap.size < w2.heap.size := by have := hg.size; simp at this; omega
  have cm2 : w.heap.size < w2.heap.size + 1 := by omega
  have a0 : w2.cell? ⟨w1.heap.size, 0, none⟩ = some (.int .i64 a) := hg.cell (by go_simp) (by simp)
  have a1 : w2.cell? ⟨w1.heap.size, 1, none⟩ = some (.int .i64 f) := hg.cell (by go_simp) (by simp)
  have a2 : w2.cell? ⟨w1.heap.size, 2, none⟩ = some (.int .u64 na) := hg.cell (by go_simp) (by simp)
  have al2 : w1.heap.size < w2.heap.size := by have := hg.size; simp at this; omega
  have am2 : w1.heap.size < w2.heap.size + 1 := by omega
  clear hg
  go_wp2_with (go_at_call 14; refine (num_any _ _ (by omega) (by omega)).mono ?_; rintro e w' ⟨rfl, rfl⟩)
  refine (T3'.out _).mono ?_
  rintro e w3 ⟨rfl, hg⟩
  have g3 : w.grownBy w3 none := by refine gtrans ?_ hg; (repeat' (first | (with_reducible exact World.grownBy.refl _ _) | (with_reducible assumption) | (with_reducible refine galloc ?_ _) | (with_reducible refine gdrewN ?_ _) | (with_reducible refine gset ?_ (.inl (by simp; try omega)) _)))
  have c0 : w3.cell? ⟨w.heap.size, 0, none⟩ = some (.int .i64 v) := hg.cell (by go_simp) (by simp)
  have c1 : w3.cell? ⟨w.heap.size, 1, none⟩ = some (.int .i64 f) := hg.cell (by go_simp) (by simp)
  have c2 : w3.cell? ⟨w.heap.size, 2, none⟩ = some (.int .u64 n) := hg.cell (by go_simp) (by simp)
  have cl3 : w.heap.size < w3.heap.size := by have := hg.size; simp at this; omega
  have cm3 : w.heap.size < w3.heap.size + 1 := by omega
  clear hg
  go_wp2_with (go_at_call 14; refine (num_any _ _ (by omega) (by omega)).mono ?_; rintro e w' ⟨rfl, rfl⟩)
  refine (T4'.out _).mono ?_
  rintro e w4 ⟨rfl, hg⟩
  have g4 : w.grownBy w4 none := by refine gtrans ?_ hg; (repeat' (first | (with_reducible exact World.grownBy.refl _ _) | (with_reducible assumption) | (with_reducible refine galloc ?_ _) | (with_reducible refine gdrewN ?_ _) | (with_reducible refine gset ?_ (.inl (by simp; try omega)) _)))
  have c0 : w4.cell? ⟨w.heap.size, 0, none⟩ = some (.int .i64 v) := hg.cell (by go_simp) (by simp)
  have c1 : w4.cell? ⟨w.heap.size, 1, none⟩ = some (.int .i64 f) := hg.cell (by go_simp) (by simp)
  have c2 : w4.cell? ⟨w.heap.size, 2, none⟩ = some (.int .u64 n) := hg.cell (by go_simp) (by simp)
  have cl4 : w.heap.size < w4.heap.size := by have := hg.size; simp at this; omega
  have cm4 : w.heap.size < w4.heap.size + 1 := by omega
  have b0 : w4.cell? ⟨w3.heap.size, 0, none⟩ = some (.int .i64 b) := hg.cell (by go_simp) (by simp)
  have b1 : w4.cell? ⟨w3.heap.size, 1, none⟩ = some (.int .i64 f) := hg.cell (by go_simp) (by simp)
  have b2 : w4.cell? ⟨w3.heap.size, 2, none⟩ = some (.int .u64 nb) := hg.cell (by go_simp) (by simp)
  have bl4 : w3.heap.size < w4.heap.size := by have := hg.size; simp at this; omega
  have bm4 : w3.heap.size < w4.heap.size + 1 := by omega
  clear hg
  go_wp2_with (go_at_call 14; refine (num_any _ _ (by omega) (by omega)).mono ?_; rintro e w' ⟨rfl, rfl⟩)
  refine (TR'.out _ (by (repeat' (first | (with_reducible exact World.grownBy.refl _ _) | (with_reducible assumption) | (with_reducible refine galloc ?_ _) | (with_reducible refine gdrewN ?_ _) | (with_reducible refine gset ?_ (.inl (by simp; try omega)) _))))).mono ?_
  rintro e w5 ⟨rfl, hg⟩
  have g5 : w.grownBy w5 none := by refine gtrans ?_ hg; (repeat' (first | (with_reducible exact World.grownBy.refl _ _) | (with_reducible assumption) | (with_reducible refine galloc ?_ _) | (with_reducible refine gdrewN ?_ _) | (with_reducible refine gset ?_ (.inl (by simp; try omega)) _)))
  clear hg
  go_wp2_with (go_at_call 17; refine (works_any _).mono ?_; rintro e w6 ⟨rfl, hg⟩)
  go_ret
  exact ⟨rfl, by refine gtrans ?_ hg; (repeat' (first | (with_reducible exact World.grownBy.refl _ _) | (with_reducible assumption) | (with_reducible refine galloc ?_ _) | (with_reducible refine gdrewN ?_ _) | (with_reducible refine gset ?_ (.inl (by simp; try omega)) _)))⟩

end Go.Proofs.Ytgcejfcfaaidhaa.holds
