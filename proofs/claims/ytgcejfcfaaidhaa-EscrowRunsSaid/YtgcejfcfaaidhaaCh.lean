/- What a change asks of a counter, in numbers: moveE, Bd, change. -/
import Derived.Test.YtgcejfcfaaidhaaMx
set_option linter.unusedSimpArgs false
set_option linter.unusedVariables false
namespace Go.Proofs.Ytgcejfcfaaidhaa
open Go.RowKit

/-- The error of a move. -/
def moveE (down : Bool) (v f n m : Int) : Int :=
  if (!rightB v f n || m == 0) then 2 else if askB down v f m then lowE down else if n == 4611686018427387904 then 142 else 0
def moveV (down : Bool) (v m : Int) : Int := if down then v - m else v + m

/-- The bounds of a counter's numbers. -/
structure Bd (v f n : Int) : Prop where
  v0 : -9223372036854775808 ≤ v
  v1 : v ≤ 9223372036854775807
  f0 : -9223372036854775808 ≤ f
  f1 : f ≤ 9223372036854775807
  n0 : 0 ≤ n
  n1 : n ≤ 18446744073709551615

theorem moveE_cases (down : Bool) (v f n m : Int) :
    (moveE down v f n m ≠ 0 ∧ ∃ r1 r2 r3, (!rightB v f n || m == 0) = r1 ∧ askB down v f m = r2 ∧ (n == 4611686018427387904) = r3 ∧ (r1 || r2 || r3) = true ∧ moveE down v f n m = (if r1 then 2 else if r2 then lowE down else 142)) ∨
    (moveE down v f n m = 0 ∧ (!rightB v f n || m == 0) = false ∧ askB down v f m = false ∧ (n == 4611686018427387904) = false) := by
  unfold moveE
  cases h1 : (!rightB v f n || m == 0)
  · cases h2 : askB down v f m
    · cases h3 : (n == 4611686018427387904)
      · right; simp [h1, h2, h3]
      · left; simp [h1, h2, h3]
    · left; simp [h1, h2]; cases down <;> simp [lowE]
  · left; simp [h1]

theorem move_no (b : Nat) (v f n d m : Int) (down : Bool) (w : World) (hA : Acct w b v f n d) (hB : Bd v f n) (h : moveE down v f n m ≠ 0) :
    Calls Try.prog 25 #[.pointer (some ⟨b, 0, none⟩), .bool down, .int .u64 m] w fun e w' => e = .returned (.int .i64 (moveE down v f n m)) ∧ w.grownBy w' none := by
  rcases moveE_cases down v f n m with ⟨_, r1, r2, r3, e1, e2, e3, hr, he⟩ | ⟨h0, _⟩
  · rw [he]; exact move_bad b v f n d m down w hA hB.v0 hB.v1 hB.f0 r1 r2 r3 e1 e2 e3 hr
  · exact absurd h0 h

theorem move_yes (b : Nat) (v f n d m : Int) (down : Bool) (w : World) (hA : Acct w b v f n d) (hB : Bd v f n) (hm : 0 ≤ m) (hd0 : 0 ≤ d) (hd1 : d < 9223372036854775807) (h : moveE down v f n m = 0) :
    Calls Try.prog 25 #[.pointer (some ⟨b, 0, none⟩), .bool down, .int .u64 m] w fun e w' => e = .returned (.int .i64 0) ∧ w.grownBy w' (some b) ∧ Acct w' b (moveV down v m) f (n + 1) (d + 1) := by
  rcases moveE_cases down v f n m with ⟨h0, _⟩ | ⟨_, e1, e2, e3⟩
  · exact absurd h h0
  · have hr : f ≤ v ∧ n ≤ 4611686018427387904 := by simp at e1; exact rightB_t e1.1
    exact move_ok b v f n d m down w hA hB.v0 hB.v1 hB.f0 hr.1 hm hB.n0 (by simp at e3; omega) hd0 hd1 e1 e2 e3

/-- The move that a change is. -/
def chD (by_ : Int) : Bool := decide (by_ < 0)
def chM (by_ : Int) : Int := if by_ < 0 then -by_ else by_
def chE (v f n by_ : Int) : Int := moveE (chD by_) v f n (chM by_)

set_option maxHeartbeats 400000 in
theorem change_no (b : Nat) (v f n d k : Int) (w : World) (hA : Acct w b v f n d) (hB : Bd v f n) (hk : -9223372036854775808 ≤ k) (hk' : k ≤ 9223372036854775807) (h : chE v f n k ≠ 0) :
    Calls Try.prog 28 #[.pointer (some ⟨b, 0, none⟩), .int .i64 k] w fun e w' => e = .returned (.int .i64 (chE v f n k)) ∧ w.grownBy w' none := by
  by_cases hn : k < 0
  · have e : IntKind.u64.wrap (-IntKind.u64.wrap k) = -k := by simp only [IntKind.wrap_u64]; omega
    have C := move_no b v f n d (-k) true w hA hB (by simpa [chE, chD, chM, hn] using h)
    rw [← e] at C
    have E : chE v f n k = moveE true v f n (IntKind.u64.wrap (-IntKind.u64.wrap k)) := by rw [e]; simp [chE, chD, chM, hn]
    rw [E]
    have C' := Lib.hid C
    clear C E e h
    go_enter Try.func28, Try.ntmps28
    go_wp2_with (go_at_call 25; refine C'.out.mono ?_; rintro e w' ⟨rfl, hg⟩)
    go_ret
    exact ⟨rfl, hg⟩
  · have C := move_no b v f n d k false w hA hB (by simpa [chE, chD, chM, hn] using h)
    have E : chE v f n k = moveE false v f n k := by simp [chE, chD, chM, hn]
    rw [E]
    have C' := Lib.hid C
    clear C E h
    go_enter Try.func28, Try.ntmps28
    go_wp2_with (go_at_call 25; refine C'.out.mono ?_; rintro e w' ⟨rfl, hg⟩)
    go_ret
    exact ⟨rfl, hg⟩

set_option maxHeartbeats 400000 in
theorem change_yes (b : Nat) (v f n d k : Int) (w : World) (hA : Acct w b v f n d) (hB : Bd v f n) (hk : -9223372036854775808 ≤ k) (hk' : k ≤ 9223372036854775807) (hd0 : 0 ≤ d) (hd1 : d < 9223372036854775807) (h : chE v f n k = 0) :
    Calls Try.prog 28 #[.pointer (some ⟨b, 0, none⟩), .int .i64 k] w fun e w' => e = .returned (.int .i64 0) ∧ w.grownBy w' (some b) ∧ Acct w' b (v + k) f (n + 1) (d + 1) := by
  by_cases hn : k < 0
  · have e : IntKind.u64.wrap (-IntKind.u64.wrap k) = -k := by simp only [IntKind.wrap_u64]; omega
    have C := move_yes b v f n d (-k) true w hA hB (by omega) hd0 hd1 (by simpa [chE, chD, chM, hn] using h)
    rw [show moveV true v (-k) = v + k by simp [moveV]] at C
    rw [← e] at C
    have C' := Lib.hid C
    clear C e h
    go_enter Try.func28, Try.ntmps28
    go_wp2_with (go_at_call 25; refine C'.out.mono ?_; rintro e w' ⟨rfl, hg⟩)
    go_ret
    exact ⟨rfl, hg⟩
  · have C := move_yes b v f n d k false w hA hB (by omega) hd0 hd1 (by simpa [chE, chD, chM, hn] using h)
    rw [show moveV false v k = v + k by simp [moveV]] at C
    have C' := Lib.hid C
    clear C h
    go_enter Try.func28, Try.ntmps28
    go_wp2_with (go_at_call 25; refine C'.out.mono ?_; rintro e w' ⟨rfl, hg⟩)
    go_ret
    exact ⟨rfl, hg⟩

/-- What a change tells: the counter and the error. -/
def chgV (E v f n : Int) : Value := if E = 0 then .tuple #[.agg #[.int .i64 v, .int .i64 f, .int .u64 n], .int .i64 0] else .tuple #[.agg #[.int .i64 0, .int .i64 0, .int .u64 0], .int .i64 E]
def pos (k : Int) : Int := if k < 0 then 0 else k

end Go.Proofs.Ytgcejfcfaaidhaa
