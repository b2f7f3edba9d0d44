/- The first refusal of a move is the one that moveE names. -/
import Derived.Test.YtgcejfcfaaidhaaEsc
set_option linter.unusedSimpArgs false
set_option linter.unusedVariables false
namespace Go.Proofs.Ytgcejfcfaaidhaa
open Go.RowKit

/-- What 'first' tells: the ask that is answered with yes, or none. -/
def firstV (x y z : Value) (l : Int) (r1 r2 r3 : Bool) : Value :=
  if r1 then .tuple #[.agg #[.func (.func 37) #[] #[x, y], .int .i64 2], .bool true]
  else if r2 then .tuple #[.agg #[.func (.func 38) #[] #[y, z], .int .i64 l], .bool true]
  else if r3 then .tuple #[.agg #[.func (.func 39) #[] #[x], .int .i64 142], .bool true]
  else .tuple #[.agg #[.nilFunc, .int .i64 0], .bool false]

set_option maxRecDepth 100000 in
set_option maxHeartbeats 1000000 in
theorem first_any (S A B C : Nat) (l : Int) (r1 r2 r3 : Bool) (w : World)
    (c0 : w.cell? ⟨S, 0, none⟩ = some (.func (.func 37) #[] #[.pointer (some ⟨A, 0, none⟩), .pointer (some ⟨B, 0, none⟩)])) (c1 : w.cell? ⟨S, 1, none⟩ = some (.int .i64 2))
    (c2 : w.cell? ⟨S, 2, none⟩ = some (.func (.func 38) #[] #[.pointer (some ⟨B, 0, none⟩), .pointer (some ⟨C, 0, none⟩)])) (c3 : w.cell? ⟨S, 3, none⟩ = some (.int .i64 l))
    (c4 : w.cell? ⟨S, 4, none⟩ = some (.func (.func 39) #[] #[.pointer (some ⟨A, 0, none⟩)])) (c5 : w.cell? ⟨S, 5, none⟩ = some (.int .i64 142))
    (q1 : ∀ W, w.grownBy W none → Calls Try.prog 37 #[.pointer (some ⟨A, 0, none⟩), .pointer (some ⟨B, 0, none⟩)] W fun e w' => e = .returned (.bool r1) ∧ ∃ k, w' = W.drewN k)
    (q2 : r1 = false → ∀ W, w.grownBy W none → Calls Try.prog 38 #[.pointer (some ⟨B, 0, none⟩), .pointer (some ⟨C, 0, none⟩)] W fun e w' => e = .returned (.bool r2) ∧ ∃ k, w' = W.drewN k)
    (q3 : ∀ W, w.grownBy W none → Calls Try.prog 39 #[.pointer (some ⟨A, 0, none⟩)] W fun e w' => e = .returned (.bool r3) ∧ ∃ k, w' = W.drewN k) :
    Calls Try.prog 40 #[.slice (some ⟨S, 0, none⟩) 3 3, .func (.func 41) #[] #[]] w fun e w' =>
      e = .returned (firstV (.pointer (some ⟨A, 0, none⟩)) (.pointer (some ⟨B, 0, none⟩)) (.pointer (some ⟨C, 0, none⟩)) l r1 r2 r3) ∧ w.grownBy w' none := by
  have hS : S < w.heap.size := World.block_lt_of_cell? w _ c0
  have hS1 : S < w.heap.size + 1 := by omega
  have hS2 : S < w.heap.size + 1 + 1 := by omega
  have hS3 : S < w.heap.size + 1 + 1 + 1 := by omega
  have hS4 : S < w.heap.size + 1 + 1 + 1 + 1 := by omega
  have hS5 : S < w.heap.size + 1 + 1 + 1 + 1 + 1 := by omega
  have Q1 := Lib.hid q1
  have Q2 := Lib.hid q2
  have Q3 := Lib.hid q3
  clear q1 q2 q3
  go_enter Try.func40, Try.ntmps40
  go_wp2_with fail
  refine wp_loop_rounds 4 ?_
  rw [rounds_succ]
  go_wp2_with (go_at_call 41; go_in)
  refine (Q1.out _ (by (repeat' (first | (with_reducible exact World.grownBy.refl _ _) | (with_reducible refine galloc ?_ _) | (with_reducible refine gdrewN ?_ _) | (with_reducible refine gset ?_ (.inl (by simp; try omega)) _))))).mono ?_
  rintro e w' ⟨rfl, k1, rfl⟩
  cases r1
  · have Q2' := Lib.hid (Q2.out rfl)
    clear Q2
    go_wp2_with fail
    rw [rounds_succ]
    go_wp2_with (go_at_call 41; go_in)
    refine (Q2'.out _ (by (repeat' (first | (with_reducible exact World.grownBy.refl _ _) | (with_reducible refine galloc ?_ _) | (with_reducible refine gdrewN ?_ _) | (with_reducible refine gset ?_ (.inl (by simp; try omega)) _))))).mono ?_
    rintro e w' ⟨rfl, k2, rfl⟩
    cases r2
    · go_wp2_with fail
      rw [rounds_succ]
      go_wp2_with (go_at_call 41; go_in)
      refine (Q3.out _ (by (repeat' (first | (with_reducible exact World.grownBy.refl _ _) | (with_reducible refine galloc ?_ _) | (with_reducible refine gdrewN ?_ _) | (with_reducible refine gset ?_ (.inl (by simp; try omega)) _))))).mono ?_
      rintro e w' ⟨rfl, k3, rfl⟩
      cases r3
      · go_wp2_with fail
        rw [rounds_succ]
        go_wp2_with fail
        go_returns; exact ⟨rfl, by (repeat' (first | (with_reducible exact World.grownBy.refl _ _) | (with_reducible refine galloc ?_ _) | (with_reducible refine gdrewN ?_ _) | (with_reducible refine gset ?_ (.inl (by simp; try omega)) _)))⟩
      · go_wp2_with fail
        go_returns; exact ⟨rfl, by (repeat' (first | (with_reducible exact World.grownBy.refl _ _) | (with_reducible refine galloc ?_ _) | (with_reducible refine gdrewN ?_ _) | (with_reducible refine gset ?_ (.inl (by simp; try omega)) _)))⟩
    · go_wp2_with fail
      go_returns; exact ⟨rfl, by (repeat' (first | (with_reducible exact World.grownBy.refl _ _) | (with_reducible refine galloc ?_ _) | (with_reducible refine gdrewN ?_ _) | (with_reducible refine gset ?_ (.inl (by simp; try omega)) _)))⟩
  · go_wp2_with fail
    go_returns; exact ⟨rfl, by (repeat' (first | (with_reducible exact World.grownBy.refl _ _) | (with_reducible refine galloc ?_ _) | (with_reducible refine gdrewN ?_ _) | (with_reducible refine gset ?_ (.inl (by simp; try omega)) _)))⟩
end Go.Proofs.Ytgcejfcfaaidhaa
