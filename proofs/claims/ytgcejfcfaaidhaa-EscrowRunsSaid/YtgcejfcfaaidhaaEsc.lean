/- The right and spare readers of the escrow answer as written; it asks the shapes of a counter. -/
import Derived.Test.YtgcejfcfaaidhaaRows
import Derived.WalkKit
import Derived.WalkSpells
import Derived.WalkLawsBesides
import Derived.BigQuiet
import Derived.Deep.QuietTactic
import Derived.Handy
import Derived.PlainAid
import Derived.Lib.Hide
import Derived.Laws.EntriesVeiled
import Derived.Test.YtgcejfcfaaidhaaLib
import Derived.LoopN
set_option linter.unusedSimpArgs false
set_option linter.unusedVariables false
namespace Go.Proofs.Ytgcejfcfaaidhaa
open Go.RowKit

theorem ret_int {k : IntKind} {a b : Int} (h : a = b) : Ending.returned (.int k a) = .returned (.int k b) := by rw [h]

set_option maxHeartbeats 400000 in
theorem right_t (b : Nat) (v f n : Int) (w : World) (h0 : w.cell? ⟨b, 0, none⟩ = some (.int .i64 v)) (h1 : w.cell? ⟨b, 1, none⟩ = some (.int .i64 f)) (h2 : w.cell? ⟨b, 2, none⟩ = some (.int .u64 n)) (h : f ≤ v) (hn : n ≤ 4611686018427387904) :
    Calls Try.prog 30 #[.pointer (some ⟨b, 0, none⟩)] w fun e w' => e = .returned (.bool true) ∧ ∃ k, w' = w.drewN k := by
  have hd : decide (f ≤ v) = true := by simpa using h
  have hd2 : decide (n ≤ 4611686018427387904) = true := by simpa using hn
  go_enter Try.func30, Try.ntmps30
  go_wp2
  go_quiet (fail)
  go_wp2
  go_ret
  exact ⟨rfl, _, rfl⟩

set_option maxHeartbeats 400000 in
theorem right_f (b : Nat) (v f n : Int) (w : World) (h0 : w.cell? ⟨b, 0, none⟩ = some (.int .i64 v)) (h1 : w.cell? ⟨b, 1, none⟩ = some (.int .i64 f)) (h2 : w.cell? ⟨b, 2, none⟩ = some (.int .u64 n)) (h : ¬ (f ≤ v ∧ n ≤ 4611686018427387904)) :
    Calls Try.prog 30 #[.pointer (some ⟨b, 0, none⟩)] w fun e w' => e = .returned (.bool false) ∧ ∃ k, w' = w.drewN k := by
  by_cases hv : f ≤ v
  · have hd : decide (f ≤ v) = true := by simpa using hv
    have hd2 : decide (n ≤ 4611686018427387904) = false := by simp; omega
    clear h
    go_enter Try.func30, Try.ntmps30
    go_wp2
    go_quiet (fail)
    go_wp2
    go_ret
    exact ⟨rfl, _, rfl⟩
  · have hd : decide (f ≤ v) = false := by simpa using hv
    clear h
    go_enter Try.func30, Try.ntmps30
    go_wp2
    go_quiet (fail)
    go_wp2
    go_ret
    exact ⟨rfl, _, rfl⟩

set_option maxHeartbeats 400000 in
theorem room_any (b : Nat) (v : Int) (w : World) (h0 : w.cell? ⟨b, 0, none⟩ = some (.int .i64 v)) (hv : -9223372036854775808 ≤ v) (hv' : v ≤ 9223372036854775807) :
    Calls Try.prog 35 #[.pointer (some ⟨b, 0, none⟩)] w fun e w' => e = .returned (.int .u64 (9223372036854775807 - v)) ∧ ∃ k, w' = w.drewN k := by
  go_enter Try.func35, Try.ntmps35
  go_wp2
  go_ret
  exact ⟨ret_int (by simp only [IntKind.wrap_u64]; omega), 0, rfl⟩

set_option maxHeartbeats 400000 in
theorem spare_any (b : Nat) (v f : Int) (w : World) (h0 : w.cell? ⟨b, 0, none⟩ = some (.int .i64 v)) (h1 : w.cell? ⟨b, 1, none⟩ = some (.int .i64 f)) (hv' : v ≤ 9223372036854775807) (hf : -9223372036854775808 ≤ f) (hvf : f ≤ v) :
    Calls Try.prog 31 #[.pointer (some ⟨b, 0, none⟩)] w fun e w' => e = .returned (.int .u64 (v - f)) ∧ ∃ k, w' = w.drewN k := by
  go_enter Try.func31, Try.ntmps31
  go_wp2
  go_quiet (fail)
  go_wp2
  go_ret
  exact ⟨ret_int (by simp only [IntKind.wrap_u64]; omega), _, rfl⟩

set_option maxHeartbeats 400000 in
theorem less_any (b : Nat) (v m : Int) (w : World) (h0 : w.cell? ⟨b, 0, none⟩ = some (.int .i64 v)) (hz : w.frozen? ⟨b, 0, none⟩ = false) (hv : -9223372036854775808 ≤ v) (hv' : v ≤ 9223372036854775807) (hm : 0 ≤ m) (hvm : -9223372036854775808 ≤ v - m) :
    Calls Try.prog 36 #[.pointer (some ⟨b, 0, none⟩), .int .u64 m] w fun e w' => e = .returned (.tuple #[]) ∧ w' = w.setCell ⟨b, 0, none⟩ (.int .i64 (v - m)) := by
  have e : wrap64 (IntKind.u64.wrap (IntKind.u64.wrap v - m)) = v - m := by simp only [IntKind.wrap_u64, wrap64]; omega
  have E := Lib.hid e; clear e
  go_enter Try.func36, Try.ntmps36
  go_wp2
  go_end0
  exact ⟨rfl, by rw [← E.out]⟩

set_option maxHeartbeats 400000 in
theorem more_any (b : Nat) (v m : Int) (w : World) (h0 : w.cell? ⟨b, 0, none⟩ = some (.int .i64 v)) (hz : w.frozen? ⟨b, 0, none⟩ = false) (hv : -9223372036854775808 ≤ v) (hm : 0 ≤ m) (hvm : v + m ≤ 9223372036854775807) :
    Calls Try.prog 34 #[.pointer (some ⟨b, 0, none⟩), .int .u64 m] w fun e w' => e = .returned (.tuple #[]) ∧ w' = w.setCell ⟨b, 0, none⟩ (.int .i64 (v + m)) := by
  have e : wrap64 (IntKind.u64.wrap (IntKind.u64.wrap v + m)) = v + m := by simp only [IntKind.wrap_u64, wrap64]; omega
  have E := Lib.hid e; clear e
  go_enter Try.func34, Try.ntmps34
  go_wp2
  go_end0
  exact ⟨rfl, by rw [← E.out]⟩


/-! ### The three asks -/
def rightB (v f n : Int) : Bool := decide (f ≤ v ∧ n ≤ 4611686018427387904)
theorem rightB_t {v f n : Int} (h : rightB v f n = true) : f ≤ v ∧ n ≤ 4611686018427387904 := by simpa [rightB] using h
theorem rightB_f {v f n : Int} (h : rightB v f n = false) : ¬ (f ≤ v ∧ n ≤ 4611686018427387904) := by simpa [rightB] using h

set_option maxHeartbeats 400000 in
theorem ask1_any (b A B : Nat) (v f n m : Int) (w : World) (h0 : w.cell? ⟨b, 0, none⟩ = some (.int .i64 v)) (h1 : w.cell? ⟨b, 1, none⟩ = some (.int .i64 f)) (h2 : w.cell? ⟨b, 2, none⟩ = some (.int .u64 n))
    (hA : w.cell? ⟨A, 0, none⟩ = some (.pointer (some ⟨b, 0, none⟩))) (hB : w.cell? ⟨B, 0, none⟩ = some (.int .u64 m)) :
    Calls Try.prog 37 #[.pointer (some ⟨A, 0, none⟩), .pointer (some ⟨B, 0, none⟩)] w fun e w' => e = .returned (.bool (!rightB v f n || m == 0)) ∧ ∃ k, w' = w.drewN k := by
  cases hr : rightB v f n
  · have hf := rightB_f hr
    clear hr
    go_enter Try.func37, Try.ntmps37
    go_wp2_with (go_at_call 30; refine (right_f b v f n _ h0 h1 h2 hf).mono ?_; rintro e w' ⟨rfl, k, rfl⟩)
    go_ret
    exact ⟨rfl, _, rfl⟩
  · obtain ⟨hf, hn⟩ := rightB_t hr
    clear hr
    go_enter Try.func37, Try.ntmps37
    go_wp2_with (go_at_call 30; refine (right_t b v f n _ h0 h1 h2 hf hn).mono ?_; rintro e w' ⟨rfl, k, rfl⟩)
    go_ret
    exact ⟨by simp, _, rfl⟩

set_option maxHeartbeats 400000 in
theorem ask2_up (b B C : Nat) (v m : Int) (w : World) (h0 : w.cell? ⟨b, 0, none⟩ = some (.int .i64 v)) (hv : -9223372036854775808 ≤ v) (hv' : v ≤ 9223372036854775807)
    (hB : w.cell? ⟨B, 0, none⟩ = some (.int .u64 m)) (hC : w.cell? ⟨C, 0, none⟩ = some (.func (.func 35) #[.pointer (some ⟨b, 0, none⟩)] #[])) :
    Calls Try.prog 38 #[.pointer (some ⟨B, 0, none⟩), .pointer (some ⟨C, 0, none⟩)] w fun e w' => e = .returned (.bool (decide (9223372036854775807 - v < m))) ∧ ∃ k, w' = w.drewN k := by
  go_enter Try.func38, Try.ntmps38
  go_wp2_with fail
  go_quiet ((go_at_call 35; exact qcall (room_any b v _ h0 hv hv')))
  go_wp2_with fail
  go_ret
  exact ⟨rfl, _, rfl⟩

set_option maxHeartbeats 400000 in
theorem ask2_down (b B C : Nat) (v f m : Int) (w : World) (h0 : w.cell? ⟨b, 0, none⟩ = some (.int .i64 v)) (h1 : w.cell? ⟨b, 1, none⟩ = some (.int .i64 f)) (hv' : v ≤ 9223372036854775807) (hf : -9223372036854775808 ≤ f) (hvf : f ≤ v)
    (hB : w.cell? ⟨B, 0, none⟩ = some (.int .u64 m)) (hC : w.cell? ⟨C, 0, none⟩ = some (.func (.func 31) #[.pointer (some ⟨b, 0, none⟩)] #[])) :
    Calls Try.prog 38 #[.pointer (some ⟨B, 0, none⟩), .pointer (some ⟨C, 0, none⟩)] w fun e w' => e = .returned (.bool (decide (v - f < m))) ∧ ∃ k, w' = w.drewN k := by
  go_enter Try.func38, Try.ntmps38
  go_wp2_with fail
  go_quiet ((go_at_call 31; exact qcall (spare_any b v f _ h0 h1 hv' hf hvf)))
  go_wp2_with fail
  go_ret
  exact ⟨rfl, _, rfl⟩

set_option maxHeartbeats 400000 in
theorem ask3_any (b A : Nat) (n : Int) (w : World) (h2 : w.cell? ⟨b, 2, none⟩ = some (.int .u64 n)) (hA : w.cell? ⟨A, 0, none⟩ = some (.pointer (some ⟨b, 0, none⟩))) :
    Calls Try.prog 39 #[.pointer (some ⟨A, 0, none⟩)] w fun e w' => e = .returned (.bool (n == 4611686018427387904)) ∧ ∃ k, w' = w.drewN k := by
  go_enter Try.func39, Try.ntmps39
  go_wp2_with fail
  go_ret
  exact ⟨rfl, 0, rfl⟩
end Go.Proofs.Ytgcejfcfaaidhaa
