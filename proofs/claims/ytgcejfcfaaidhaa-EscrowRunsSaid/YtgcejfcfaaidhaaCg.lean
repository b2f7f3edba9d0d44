/- The law EscrowChanges returns true at every counter and number, and leaves them as they were. No condition. -/
import Derived.Test.YtgcejfcfaaidhaaCr
import Derived.Test.YtgcejfcfaaidhaaLib3
import Derived.Test.YtgcejfcfaaidhaaHq
set_option linter.unusedSimpArgs false
set_option linter.unusedVariables false
namespace Go.Proofs.Ytgcejfcfaaidhaa.changes
open Go.ChangeShapes Go.WideShapes Go.ChangeAt Go.RowKit Go.Joins
open Go.Proofs.Ytgcejfcfaaidhaa.refs Go.Proofs.Ytgcejfcfaaidhaa.holds

theorem num_gr (x : Int) (w : World) (h0 : -9223372036854775808 ≤ x) (h1 : x ≤ 9223372036854775807) : Calls Try.prog 14 #[.int .i64 x] w fun e w' => e = .returned (.int .i64 x) ∧ w.grownBy w' none :=
  (num_any x w h0 h1).mono fun _ _ ⟨he, hw⟩ => ⟨he, hw ▸ World.grownBy.refl _ _⟩

set_option maxHeartbeats 400000 in
theorem check_any (v f n : Int) (w : World) :
    Calls Try.prog 15 #[.agg #[.int .i64 v, .int .i64 f, .int .u64 n]] w fun e w' => e = .returned (.int .i64 (if rightB v f n then 0 else 2)) ∧ w.grownBy w' none := by
  cases hr : rightB v f n
  · have hf := rightB_f hr
    clear hr
    go_enter Try.func15, Try.ntmps15
    go_wp2_with fail
    refine (right_f _ v f n _ (by go_simp) (by go_simp) (by go_simp) hf).mono ?_
    rintro e w1 ⟨rfl, k1, rfl⟩
    clear hf
    go_wp2_with fail
    go_ret
    exact ⟨by simp, by (repeat' (first | (with_reducible exact World.grownBy.refl _ _) | (with_reducible refine galloc ?_ _) | (with_reducible refine gdrewN ?_ _) | (with_reducible refine gset ?_ (.inl (by simp; try omega)) _)))⟩
  · obtain ⟨hf, hn⟩ := rightB_t hr
    clear hr
    go_enter Try.func15, Try.ntmps15
    go_wp2_with fail
    refine (right_t _ v f n _ (by go_simp) (by go_simp) (by go_simp) hf hn).mono ?_
    rintro e w1 ⟨rfl, k1, rfl⟩
    go_wp2_with fail
    go_ret
    exact ⟨by simp, by (repeat' (first | (with_reducible exact World.grownBy.refl _ _) | (with_reducible refine galloc ?_ _) | (with_reducible refine gdrewN ?_ _) | (with_reducible refine gset ?_ (.inl (by simp; try omega)) _)))⟩

set_option maxRecDepth 100000 in
set_option maxHeartbeats 2000000 in
theorem walk_no (v f n k : Int) (w : World) (x1 y1 z1 E1 x2 y2 z2 E2 x3 y3 z3 E3 : Int) (T8 : ∀ W, Calls Try.prog 8 #[.agg #[.int .i64 v, .int .i64 f, .int .u64 n], .int .i64 k] W fun e w' => e = .returned (.tuple #[.agg #[.int .i64 x1, .int .i64 y1, .int .u64 z1], .int .i64 E1]) ∧ W.grownBy w' none) (T9 : ∀ W, Calls Try.prog 9 #[.agg #[.int .i64 v, .int .i64 f, .int .u64 n], .int .i64 k] W fun e w' => e = .returned (.tuple #[.agg #[.int .i64 x2, .int .i64 y2, .int .u64 z2], .int .i64 E2]) ∧ W.grownBy w' none) (T10 : ∀ W, Calls Try.prog 10 #[.agg #[.int .i64 v, .int .i64 f, .int .u64 n], .int .i64 k] W fun e w' => e = .returned (.tuple #[.agg #[.int .i64 x3, .int .i64 y3, .int .u64 z3], .int .i64 E3]) ∧ W.grownBy w' none) (T11 : ∀ W, Calls Try.prog 11 #[.agg #[.int .i64 v, .int .i64 f, .int .u64 n], .int .i64 k] W fun e w' => e = .returned (.tuple #[.agg #[.int .i64 x1, .int .i64 y1, .int .u64 z1], .int .i64 E1]) ∧ W.grownBy w' none) (T12 : ∀ W, Calls Try.prog 12 #[.agg #[.int .i64 v, .int .i64 f, .int .u64 n], .int .i64 k] W fun e w' => e = .returned (.tuple #[.agg #[.int .i64 x2, .int .i64 y2, .int .u64 z2], .int .i64 E2]) ∧ W.grownBy w' none) (T13 : ∀ W, Calls Try.prog 13 #[.agg #[.int .i64 v, .int .i64 f, .int .u64 n], .int .i64 k] W fun e w' => e = .returned (.tuple #[.agg #[.int .i64 x3, .int .i64 y3, .int .u64 z3], .int .i64 E3]) ∧ W.grownBy w' none)
    (ha1 : 0 ≤ E1) (hb1 : E1 ≤ 142) (ha2 : 0 ≤ E2) (hb2 : E2 ≤ 142) (ha3 : 0 ≤ E3) (hb3 : E3 ≤ 142)
    (hr : rightB v f n = false) :
    Calls Try.prog 3 #[.agg #[.int .i64 v, .int .i64 f, .int .u64 n], .int .i64 k] w fun e w' => e = .returned (.bool true) ∧ w.grownBy w' none := by
  have T8' := Lib.hid T8
  have T9' := Lib.hid T9
  have T10' := Lib.hid T10
  have T11' := Lib.hid T11
  have T12' := Lib.hid T12
  have T13' := Lib.hid T13
  have CK := fun W => check_any v f n W
  rw [hr] at CK
  simp only [if_true, Bool.false_eq_true, if_false] at CK
  have RR := fun W => spares.refRight v f n W
  rw [hr] at RR
  have CK' := Lib.hid CK
  have RR' := Lib.hid RR
  clear T8 T9 T10 T11 T12 T13 CK RR hr
  go_enter Try.func3, Try.ntmps3
  go_wp2_with fail
  refine (T8'.out _).mono ?_
  rintro e w1 ⟨rfl, hg⟩
  have g1 : w.grownBy w1 none := by refine gtrans ?_ hg; (repeat' (first | (with_reducible exact World.grownBy.refl _ _) | (with_reducible assumption) | (with_reducible refine galloc ?_ _) | (with_reducible refine gdrewN ?_ _) | (with_reducible refine gdrew ?_) | (with_reducible refine gset ?_ (.inl (by simp; try omega)) _)))
  have c0 : w1.cell? ⟨w.heap.size, 0, none⟩ = some (.int .i64 v) := hg.cell (by go_simp) (by simp)
  have c1 : w1.cell? ⟨w.heap.size, 1, none⟩ = some (.int .i64 f) := hg.cell (by go_simp) (by simp)
  have c2 : w1.cell? ⟨w.heap.size, 2, none⟩ = some (.int .u64 n) := hg.cell (by go_simp) (by simp)
  have cs : w.heap.size < w1.heap.size := by have := hg.size; (try simp at this); omega
  have ct : w.heap.size < w1.heap.size + 1 := by omega
  clear hg T8'
  go_wp2_with fail
  refine (T9'.out _).mono ?_
  rintro e w2 ⟨rfl, hg⟩
  have g2 : w.grownBy w2 none := by refine gtrans ?_ hg; (repeat' (first | (with_reducible exact World.grownBy.refl _ _) | (with_reducible assumption) | (with_reducible refine galloc ?_ _) | (with_reducible refine gdrewN ?_ _) | (with_reducible refine gdrew ?_) | (with_reducible refine gset ?_ (.inl (by simp; try omega)) _)))
  clear g1
  have c0 : w2.cell? ⟨w.heap.size, 0, none⟩ = some (.int .i64 v) := hg.cell (by go_simp) (by simp)
  have c1 : w2.cell? ⟨w.heap.size, 1, none⟩ = some (.int .i64 f) := hg.cell (by go_simp) (by simp)
  have c2 : w2.cell? ⟨w.heap.size, 2, none⟩ = some (.int .u64 n) := hg.cell (by go_simp) (by simp)
  have cs : w.heap.size < w2.heap.size := by have := hg.size; (try simp at this); omega
  have ct : w.heap.size < w2.heap.size + 1 := by omega
  have b00 : w2.cell? ⟨w1.heap.size, 0, none⟩ = some (.int .i64 x1) := hg.cell (by go_simp) (by simp)
  have b01 : w2.cell? ⟨w1.heap.size, 1, none⟩ = some (.int .i64 y1) := hg.cell (by go_simp) (by simp)
  have b02 : w2.cell? ⟨w1.heap.size, 2, none⟩ = some (.int .u64 z1) := hg.cell (by go_simp) (by simp)
  have b0s : w1.heap.size < w2.heap.size := by have := hg.size; (try simp at this); omega
  have b0t : w1.heap.size < w2.heap.size + 1 := by omega
  clear hg T9'
  go_wp2_with fail
  refine (T10'.out _).mono ?_
  rintro e w3 ⟨rfl, hg⟩
  have g3 : w.grownBy w3 none := by refine gtrans ?_ hg; (repeat' (first | (with_reducible exact World.grownBy.refl _ _) | (with_reducible assumption) | (with_reducible refine galloc ?_ _) | (with_reducible refine gdrewN ?_ _) | (with_reducible refine gdrew ?_) | (with_reducible refine gset ?_ (.inl (by simp; try omega)) _)))
  clear g2
  have c0 : w3.cell? ⟨w.heap.size, 0, none⟩ = some (.int .i64 v) := hg.cell (by go_simp) (by simp)
  have c1 : w3.cell? ⟨w.heap.size, 1, none⟩ = some (.int .i64 f) := hg.cell (by go_simp) (by simp)
  have c2 : w3.cell? ⟨w.heap.size, 2, none⟩ = some (.int .u64 n) := hg.cell (by go_simp) (by simp)
  have cs : w.heap.size < w3.heap.size := by have := hg.size; (try simp at this); omega
  have ct : w.heap.size < w3.heap.size + 1 := by omega
  have b00 : w3.cell? ⟨w1.heap.size, 0, none⟩ = some (.int .i64 x1) := hg.cell (by go_simp) (by simp)
  have b01 : w3.cell? ⟨w1.heap.size, 1, none⟩ = some (.int .i64 y1) := hg.cell (by go_simp) (by simp)
  have b02 : w3.cell? ⟨w1.heap.size, 2, none⟩ = some (.int .u64 z1) := hg.cell (by go_simp) (by simp)
  have b0s : w1.heap.size < w3.heap.size := by have := hg.size; (try simp at this); omega
  have b0t : w1.heap.size < w3.heap.size + 1 := by omega
  have b10 : w3.cell? ⟨w2.heap.size, 0, none⟩ = some (.int .i64 x2) := hg.cell (by go_simp) (by simp)
  have b11 : w3.cell? ⟨w2.heap.size, 1, none⟩ = some (.int .i64 y2) := hg.cell (by go_simp) (by simp)
  have b12 : w3.cell? ⟨w2.heap.size, 2, none⟩ = some (.int .u64 z2) := hg.cell (by go_simp) (by simp)
  have b1s : w2.heap.size < w3.heap.size := by have := hg.size; (try simp at this); omega
  have b1t : w2.heap.size < w3.heap.size + 1 := by omega
  clear hg T10'
  go_wp2_with fail
  refine (T11'.out _).mono ?_
  rintro e w4 ⟨rfl, hg⟩
  have g4 : w.grownBy w4 none := by refine gtrans ?_ hg; (repeat' (first | (with_reducible exact World.grownBy.refl _ _) | (with_reducible assumption) | (with_reducible refine galloc ?_ _) | (with_reducible refine gdrewN ?_ _) | (with_reducible refine gdrew ?_) | (with_reducible refine gset ?_ (.inl (by simp; try omega)) _)))
  clear g3
  have c0 : w4.cell? ⟨w.heap.size, 0, none⟩ = some (.int .i64 v) := hg.cell (by go_simp) (by simp)
  have c1 : w4.cell? ⟨w.heap.size, 1, none⟩ = some (.int .i64 f) := hg.cell (by go_simp) (by simp)
  have c2 : w4.cell? ⟨w.heap.size, 2, none⟩ = some (.int .u64 n) := hg.cell (by go_simp) (by simp)
  have cs : w.heap.size < w4.heap.size := by have := hg.size; (try simp at this); omega
  have ct : w.heap.size < w4.heap.size + 1 := by omega
  have b00 : w4.cell? ⟨w1.heap.size, 0, none⟩ = some (.int .i64 x1) := hg.cell (by go_simp) (by simp)
  have b01 : w4.cell? ⟨w1.heap.size, 1, none⟩ = some (.int .i64 y1) := hg.cell (by go_simp) (by simp)
  have b02 : w4.cell? ⟨w1.heap.size, 2, none⟩ = some (.int .u64 z1) := hg.cell (by go_simp) (by simp)
  have b0s : w1.heap.size < w4.heap.size := by have := hg.size; (try simp at this); omega
  have b0t : w1.heap.size < w4.heap.size + 1 := by omega
  have b10 : w4.cell? ⟨w2.heap.size, 0, none⟩ = some (.int .i64 x2) := hg.cell (by go_simp) (by simp)
  have b11 : w4.cell? ⟨w2.heap.size, 1, none⟩ = some (.int .i64 y2) := hg.cell (by go_simp) (by simp)
  have b12 : w4.cell? ⟨w2.heap.size, 2, none⟩ = some (.int .u64 z2) := hg.cell (by go_simp) (by simp)
  have b1s : w2.heap.size < w4.heap.size := by have := hg.size; (try simp at this); omega
  have b1t : w2.heap.size < w4.heap.size + 1 := by omega
  have b20 : w4.cell? ⟨w3.heap.size, 0, none⟩ = some (.int .i64 x3) := hg.cell (by go_simp) (by simp)
  have b21 : w4.cell? ⟨w3.heap.size, 1, none⟩ = some (.int .i64 y3) := hg.cell (by go_simp) (by simp)
  have b22 : w4.cell? ⟨w3.heap.size, 2, none⟩ = some (.int .u64 z3) := hg.cell (by go_simp) (by simp)
  have b2s : w3.heap.size < w4.heap.size := by have := hg.size; (try simp at this); omega
  have b2t : w3.heap.size < w4.heap.size + 1 := by omega
  clear hg T11'
  go_wp2_with fail
  refine (T12'.out _).mono ?_
  rintro e w5 ⟨rfl, hg⟩
  have g5 : w.grownBy w5 none := by refine gtrans ?_ hg; (repeat' (first | (with_reducible exact World.grownBy.refl _ _) | (with_reducible assumption) | (with_reducible refine galloc ?_ _) | (with_reducible refine gdrewN ?_ _) | (with_reducible refine gdrew ?_) | (with_reducible refine gset ?_ (.inl (by simp; try omega)) _)))
  clear g4
  have c0 : w5.cell? ⟨w.heap.size, 0, none⟩ = some (.int .i64 v) := hg.cell (by go_simp) (by simp)
  have c1 : w5.cell? ⟨w.heap.size, 1, none⟩ = some (.int .i64 f) := hg.cell (by go_simp) (by simp)
  have c2 : w5.cell? ⟨w.heap.size, 2, none⟩ = some (.int .u64 n) := hg.cell (by go_simp) (by simp)
  have cs : w.heap.size < w5.heap.size := by have := hg.size; (try simp at this); omega
  have ct : w.heap.size < w5.heap.size + 1 := by omega
  have b00 : w5.cell? ⟨w1.heap.size, 0, none⟩ = some (.int .i64 x1) := hg.cell (by go_simp) (by simp)
  have b01 : w5.cell? ⟨w1.heap.size, 1, none⟩ = some (.int .i64 y1) := hg.cell (by go_simp) (by simp)
  have b02 : w5.cell? ⟨w1.heap.size, 2, none⟩ = some (.int .u64 z1) := hg.cell (by go_simp) (by simp)
  have b0s : w1.heap.size < w5.heap.size := by have := hg.size; (try simp at this); omega
  have b0t : w1.heap.size < w5.heap.size + 1 := by omega
  have b10 : w5.cell? ⟨w2.heap.size, 0, none⟩ = some (.int .i64 x2) := hg.cell (by go_simp) (by simp)
  have b11 : w5.cell? ⟨w2.heap.size, 1, none⟩ = some (.int .i64 y2) := hg.cell (by go_simp) (by simp)
  have b12 : w5.cell? ⟨w2.heap.size, 2, none⟩ = some (.int .u64 z2) := hg.cell (by go_simp) (by simp)
  have b1s : w2.heap.size < w5.heap.size := by have := hg.size; (try simp at this); omega
  have b1t : w2.heap.size < w5.heap.size + 1 := by omega
  have b20 : w5.cell? ⟨w3.heap.size, 0, none⟩ = some (.int .i64 x3) := hg.cell (by go_simp) (by simp)
  have b21 : w5.cell? ⟨w3.heap.size, 1, none⟩ = some (.int .i64 y3) := hg.cell (by go_simp) (by simp)
  have b22 : w5.cell? ⟨w3.heap.size, 2, none⟩ = some (.int .u64 z3) := hg.cell (by go_simp) (by simp)
  have b2s : w3.heap.size < w5.heap.size := by have := hg.size; (try simp at this); omega
  have b2t : w3.heap.size < w5.heap.size + 1 := by omega
  have b30 : w5.cell? ⟨w4.heap.size, 0, none⟩ = some (.int .i64 x1) := hg.cell (by go_simp) (by simp)
  have b31 : w5.cell? ⟨w4.heap.size, 1, none⟩ = some (.int .i64 y1) := hg.cell (by go_simp) (by simp)
  have b32 : w5.cell? ⟨w4.heap.size, 2, none⟩ = some (.int .u64 z1) := hg.cell (by go_simp) (by simp)
  have b3s : w4.heap.size < w5.heap.size := by have := hg.size; (try simp at this); omega
  have b3t : w4.heap.size < w5.heap.size + 1 := by omega
  clear hg T12'
  go_wp2_with fail
  refine (T13'.out _).mono ?_
  rintro e w6 ⟨rfl, hg⟩
  have g6 : w.grownBy w6 none := by refine gtrans ?_ hg; (repeat' (first | (with_reducible exact World.grownBy.refl _ _) | (with_reducible assumption) | (with_reducible refine galloc ?_ _) | (with_reducible refine gdrewN ?_ _) | (with_reducible refine gdrew ?_) | (with_reducible refine gset ?_ (.inl (by simp; try omega)) _)))
  clear g5
  have c0 : w6.cell? ⟨w.heap.size, 0, none⟩ = some (.int .i64 v) := hg.cell (by go_simp) (by simp)
  have c1 : w6.cell? ⟨w.heap.size, 1, none⟩ = some (.int .i64 f) := hg.cell (by go_simp) (by simp)
  have c2 : w6.cell? ⟨w.heap.size, 2, none⟩ = some (.int .u64 n) := hg.cell (by go_simp) (by simp)
  have cs : w.heap.size < w6.heap.size := by have := hg.size; (try simp at this); omega
  have ct : w.heap.size < w6.heap.size + 1 := by omega
  have b00 : w6.cell? ⟨w1.heap.size, 0, none⟩ = some (.int .i64 x1) := hg.cell (by go_simp) (by simp)
  have b01 : w6.cell? ⟨w1.heap.size, 1, none⟩ = some (.int .i64 y1) := hg.cell (by go_simp) (by simp)
  have b02 : w6.cell? ⟨w1.heap.size, 2, none⟩ = some (.int .u64 z1) := hg.cell (by go_simp) (by simp)
  have b0s : w1.heap.size < w6.heap.size := by have := hg.size; (try simp at this); omega
  have b0t : w1.heap.size < w6.heap.size + 1 := by omega
  have b10 : w6.cell? ⟨w2.heap.size, 0, none⟩ = some (.int .i64 x2) := hg.cell (by go_simp) (by simp)
  have b11 : w6.cell? ⟨w2.heap.size, 1, none⟩ = some (.int .i64 y2) := hg.cell (by go_simp) (by simp)
  have b12 : w6.cell? ⟨w2.heap.size, 2, none⟩ = some (.int .u64 z2) := hg.cell (by go_simp) (by simp)
  have b1s : w2.heap.size < w6.heap.size := by have := hg.size; (try simp at this); omega
  have b1t : w2.heap.size < w6.heap.size + 1 := by omega
  have b20 : w6.cell? ⟨w3.heap.size, 0, none⟩ = some (.int .i64 x3) := hg.cell (by go_simp) (by simp)
  have b21 : w6.cell? ⟨w3.heap.size, 1, none⟩ = some (.int .i64 y3) := hg.cell (by go_simp) (by simp)
  have b22 : w6.cell? ⟨w3.heap.size, 2, none⟩ = some (.int .u64 z3) := hg.cell (by go_simp) (by simp)
  have b2s : w3.heap.size < w6.heap.size := by have := hg.size; (try simp at this); omega
  have b2t : w3.heap.size < w6.heap.size + 1 := by omega
  have b30 : w6.cell? ⟨w4.heap.size, 0, none⟩ = some (.int .i64 x1) := hg.cell (by go_simp) (by simp)
  have b31 : w6.cell? ⟨w4.heap.size, 1, none⟩ = some (.int .i64 y1) := hg.cell (by go_simp) (by simp)
  have b32 : w6.cell? ⟨w4.heap.size, 2, none⟩ = some (.int .u64 z1) := hg.cell (by go_simp) (by simp)
  have b3s : w4.heap.size < w6.heap.size := by have := hg.size; (try simp at this); omega
  have b3t : w4.heap.size < w6.heap.size + 1 := by omega
  have b40 : w6.cell? ⟨w5.heap.size, 0, none⟩ = some (.int .i64 x2) := hg.cell (by go_simp) (by simp)
  have b41 : w6.cell? ⟨w5.heap.size, 1, none⟩ = some (.int .i64 y2) := hg.cell (by go_simp) (by simp)
  have b42 : w6.cell? ⟨w5.heap.size, 2, none⟩ = some (.int .u64 z2) := hg.cell (by go_simp) (by simp)
  have b4s : w5.heap.size < w6.heap.size := by have := hg.size; (try simp at this); omega
  have b4t : w5.heap.size < w6.heap.size + 1 := by omega
  clear hg T13'
  go_wp2_with fail
  refine at_world ?_
  intro W hW
  have gr : w.grownBy W none := by rw [hW]; (repeat' (first | (with_reducible exact World.grownBy.refl _ _) | (with_reducible assumption) | (with_reducible refine galloc ?_ _) | (with_reducible refine gdrewN ?_ _) | (with_reducible refine gdrew ?_) | (with_reducible refine gset ?_ (.inl (by simp; try omega)) _)))
  have c0 : W.cell? ⟨w.heap.size, 0, none⟩ = some (.int .i64 v) := by rw [hW]; go_simp
  have c1 : W.cell? ⟨w.heap.size, 1, none⟩ = some (.int .i64 f) := by rw [hW]; go_simp
  have c2 : W.cell? ⟨w.heap.size, 2, none⟩ = some (.int .u64 n) := by rw [hW]; go_simp
  have b00 : W.cell? ⟨w1.heap.size, 0, none⟩ = some (.int .i64 x1) := by rw [hW]; go_simp
  have b01 : W.cell? ⟨w1.heap.size, 1, none⟩ = some (.int .i64 y1) := by rw [hW]; go_simp
  have b02 : W.cell? ⟨w1.heap.size, 2, none⟩ = some (.int .u64 z1) := by rw [hW]; go_simp
  have b10 : W.cell? ⟨w2.heap.size, 0, none⟩ = some (.int .i64 x2) := by rw [hW]; go_simp
  have b11 : W.cell? ⟨w2.heap.size, 1, none⟩ = some (.int .i64 y2) := by rw [hW]; go_simp
  have b12 : W.cell? ⟨w2.heap.size, 2, none⟩ = some (.int .u64 z2) := by rw [hW]; go_simp
  have b20 : W.cell? ⟨w3.heap.size, 0, none⟩ = some (.int .i64 x3) := by rw [hW]; go_simp
  have b21 : W.cell? ⟨w3.heap.size, 1, none⟩ = some (.int .i64 y3) := by rw [hW]; go_simp
  have b22 : W.cell? ⟨w3.heap.size, 2, none⟩ = some (.int .u64 z3) := by rw [hW]; go_simp
  have b30 : W.cell? ⟨w4.heap.size, 0, none⟩ = some (.int .i64 x1) := by rw [hW]; go_simp
  have b31 : W.cell? ⟨w4.heap.size, 1, none⟩ = some (.int .i64 y1) := by rw [hW]; go_simp
  have b32 : W.cell? ⟨w4.heap.size, 2, none⟩ = some (.int .u64 z1) := by rw [hW]; go_simp
  have b40 : W.cell? ⟨w5.heap.size, 0, none⟩ = some (.int .i64 x2) := by rw [hW]; go_simp
  have b41 : W.cell? ⟨w5.heap.size, 1, none⟩ = some (.int .i64 y2) := by rw [hW]; go_simp
  have b42 : W.cell? ⟨w5.heap.size, 2, none⟩ = some (.int .u64 z2) := by rw [hW]; go_simp
  have b50 : W.cell? ⟨w6.heap.size, 0, none⟩ = some (.int .i64 x3) := by rw [hW]; go_simp
  have b51 : W.cell? ⟨w6.heap.size, 1, none⟩ = some (.int .i64 y3) := by rw [hW]; go_simp
  have b52 : W.cell? ⟨w6.heap.size, 2, none⟩ = some (.int .u64 z3) := by rw [hW]; go_simp
  clear hW g6
  have c0 : ∀ g : Grown W, g.W.cell? ⟨w.heap.size, 0, none⟩ = some (.int .i64 v) := fun g => gcell g.h c0 (by simp)
  have c1 : ∀ g : Grown W, g.W.cell? ⟨w.heap.size, 1, none⟩ = some (.int .i64 f) := fun g => gcell g.h c1 (by simp)
  have c2 : ∀ g : Grown W, g.W.cell? ⟨w.heap.size, 2, none⟩ = some (.int .u64 n) := fun g => gcell g.h c2 (by simp)
  have b00 : ∀ g : Grown W, g.W.cell? ⟨w1.heap.size, 0, none⟩ = some (.int .i64 x1) := fun g => gcell g.h b00 (by simp)
  have b01 : ∀ g : Grown W, g.W.cell? ⟨w1.heap.size, 1, none⟩ = some (.int .i64 y1) := fun g => gcell g.h b01 (by simp)
  have b02 : ∀ g : Grown W, g.W.cell? ⟨w1.heap.size, 2, none⟩ = some (.int .u64 z1) := fun g => gcell g.h b02 (by simp)
  have b10 : ∀ g : Grown W, g.W.cell? ⟨w2.heap.size, 0, none⟩ = some (.int .i64 x2) := fun g => gcell g.h b10 (by simp)
  have b11 : ∀ g : Grown W, g.W.cell? ⟨w2.heap.size, 1, none⟩ = some (.int .i64 y2) := fun g => gcell g.h b11 (by simp)
  have b12 : ∀ g : Grown W, g.W.cell? ⟨w2.heap.size, 2, none⟩ = some (.int .u64 z2) := fun g => gcell g.h b12 (by simp)
  have b20 : ∀ g : Grown W, g.W.cell? ⟨w3.heap.size, 0, none⟩ = some (.int .i64 x3) := fun g => gcell g.h b20 (by simp)
  have b21 : ∀ g : Grown W, g.W.cell? ⟨w3.heap.size, 1, none⟩ = some (.int .i64 y3) := fun g => gcell g.h b21 (by simp)
  have b22 : ∀ g : Grown W, g.W.cell? ⟨w3.heap.size, 2, none⟩ = some (.int .u64 z3) := fun g => gcell g.h b22 (by simp)
  have b30 : ∀ g : Grown W, g.W.cell? ⟨w4.heap.size, 0, none⟩ = some (.int .i64 x1) := fun g => gcell g.h b30 (by simp)
  have b31 : ∀ g : Grown W, g.W.cell? ⟨w4.heap.size, 1, none⟩ = some (.int .i64 y1) := fun g => gcell g.h b31 (by simp)
  have b32 : ∀ g : Grown W, g.W.cell? ⟨w4.heap.size, 2, none⟩ = some (.int .u64 z1) := fun g => gcell g.h b32 (by simp)
  have b40 : ∀ g : Grown W, g.W.cell? ⟨w5.heap.size, 0, none⟩ = some (.int .i64 x2) := fun g => gcell g.h b40 (by simp)
  have b41 : ∀ g : Grown W, g.W.cell? ⟨w5.heap.size, 1, none⟩ = some (.int .i64 y2) := fun g => gcell g.h b41 (by simp)
  have b42 : ∀ g : Grown W, g.W.cell? ⟨w5.heap.size, 2, none⟩ = some (.int .u64 z2) := fun g => gcell g.h b42 (by simp)
  have b50 : ∀ g : Grown W, g.W.cell? ⟨w6.heap.size, 0, none⟩ = some (.int .i64 x3) := fun g => gcell g.h b50 (by simp)
  have b51 : ∀ g : Grown W, g.W.cell? ⟨w6.heap.size, 1, none⟩ = some (.int .i64 y3) := fun g => gcell g.h b51 (by simp)
  have b52 : ∀ g : Grown W, g.W.cell? ⟨w6.heap.size, 2, none⟩ = some (.int .u64 z3) := fun g => gcell g.h b52 (by simp)
  refine wp_region_grown (by kernel_rfl) (by kernel_rfl) ?_
  repeat
    first
      | go_big_quiet_skip
      | (go_big_quiet_want
         go_big_quiet_op
         first
           | go_big_quiet_on
           | (apply Exists.intro
              refine ⟨fun _ => ?_, ?_⟩
              · first | (go_at_call 15; exact gcall (CK'.out _)) | (go_at_call 16; exact gcall (RR'.out _)) | (go_at_call 14; exact gcall (num_gr _ _ (by decide) (by decide)))
              go_big_quiet_on))
  refine wpQuiet_nil ?_
  rintro _ ⟨g, rfl⟩
  have c0 := c0 g
  have c1 := c1 g
  have c2 := c2 g
  have b00 := b00 g
  have b01 := b01 g
  have b02 := b02 g
  have b10 := b10 g
  have b11 := b11 g
  have b12 := b12 g
  have b20 := b20 g
  have b21 := b21 g
  have b22 := b22 g
  have b30 := b30 g
  have b31 := b31 g
  have b32 := b32 g
  have b40 := b40 g
  have b41 := b41 g
  have b42 := b42 g
  have b50 := b50 g
  have b51 := b51 g
  have b52 := b52 g
  have gr2 : w.grownBy g.W none := gtrans gr g.h
  clear gr CK' RR'
  generalize g.W = W2 at *
  go_wp2_with (first | (go_at_call 14; refine (num_any _ _ (by omega) (by omega)).mono ?_; rintro e w' ⟨rfl, rfl⟩) | (go_at_call 17; refine (works_any _).mono ?_; rintro e w7 ⟨rfl, hg7⟩))
  go_ret
  exact ⟨rfl, gtrans gr2 hg7⟩

set_option maxRecDepth 100000 in
set_option maxHeartbeats 2000000 in
theorem walk_yes (v f n k : Int) (w : World) (x1 y1 z1 E1 x2 y2 z2 E2 x3 y3 z3 E3 : Int) (T8 : ∀ W, Calls Try.prog 8 #[.agg #[.int .i64 v, .int .i64 f, .int .u64 n], .int .i64 k] W fun e w' => e = .returned (.tuple #[.agg #[.int .i64 x1, .int .i64 y1, .int .u64 z1], .int .i64 E1]) ∧ W.grownBy w' none) (T9 : ∀ W, Calls Try.prog 9 #[.agg #[.int .i64 v, .int .i64 f, .int .u64 n], .int .i64 k] W fun e w' => e = .returned (.tuple #[.agg #[.int .i64 x2, .int .i64 y2, .int .u64 z2], .int .i64 E2]) ∧ W.grownBy w' none) (T10 : ∀ W, Calls Try.prog 10 #[.agg #[.int .i64 v, .int .i64 f, .int .u64 n], .int .i64 k] W fun e w' => e = .returned (.tuple #[.agg #[.int .i64 x3, .int .i64 y3, .int .u64 z3], .int .i64 E3]) ∧ W.grownBy w' none) (T11 : ∀ W, Calls Try.prog 11 #[.agg #[.int .i64 v, .int .i64 f, .int .u64 n], .int .i64 k] W fun e w' => e = .returned (.tuple #[.agg #[.int .i64 x1, .int .i64 y1, .int .u64 z1], .int .i64 E1]) ∧ W.grownBy w' none) (T12 : ∀ W, Calls Try.prog 12 #[.agg #[.int .i64 v, .int .i64 f, .int .u64 n], .int .i64 k] W fun e w' => e = .returned (.tuple #[.agg #[.int .i64 x2, .int .i64 y2, .int .u64 z2], .int .i64 E2]) ∧ W.grownBy w' none) (T13 : ∀ W, Calls Try.prog 13 #[.agg #[.int .i64 v, .int .i64 f, .int .u64 n], .int .i64 k] W fun e w' => e = .returned (.tuple #[.agg #[.int .i64 x3, .int .i64 y3, .int .u64 z3], .int .i64 E3]) ∧ W.grownBy w' none)
    (ha1 : 0 ≤ E1) (hb1 : E1 ≤ 142) (ha2 : 0 ≤ E2) (hb2 : E2 ≤ 142) (ha3 : 0 ≤ E3) (hb3 : E3 ≤ 142)
    (hr : rightB v f n = true) :
    Calls Try.prog 3 #[.agg #[.int .i64 v, .int .i64 f, .int .u64 n], .int .i64 k] w fun e w' => e = .returned (.bool true) ∧ w.grownBy w' none := by
  have T8' := Lib.hid T8
  have T9' := Lib.hid T9
  have T10' := Lib.hid T10
  have T11' := Lib.hid T11
  have T12' := Lib.hid T12
  have T13' := Lib.hid T13
  have CK := fun W => check_any v f n W
  rw [hr] at CK
  simp only [if_true, Bool.false_eq_true, if_false] at CK
  have RR := fun W => spares.refRight v f n W
  rw [hr] at RR
  have CK' := Lib.hid CK
  have RR' := Lib.hid RR
  clear T8 T9 T10 T11 T12 T13 CK RR hr
  go_enter Try.func3, Try.ntmps3
  go_wp2_with fail
  refine (T8'.out _).mono ?_
  rintro e w1 ⟨rfl, hg⟩
  have g1 : w.grownBy w1 none := by refine gtrans ?_ hg; (repeat' (first | (with_reducible exact World.grownBy.refl _ _) | (with_reducible assumption) | (with_reducible refine galloc ?_ _) | (with_reducible refine gdrewN ?_ _) | (with_reducible refine gdrew ?_) | (with_reducible refine gset ?_ (.inl (by simp; try omega)) _)))
  have c0 : w1.cell? ⟨w.heap.size, 0, none⟩ = some (.int .i64 v) := hg.cell (by go_simp) (by simp)
  have c1 : w1.cell? ⟨w.heap.size, 1, none⟩ = some (.int .i64 f) := hg.cell (by go_simp) (by simp)
  have c2 : w1.cell? ⟨w.heap.size, 2, none⟩ = some (.int .u64 n) := hg.cell (by go_simp) (by simp)
  have cs : w.heap.size < w1.heap.size := by have := hg.size; (try simp at this); omega
  have ct : w.heap.size < w1.heap.size + 1 := by omega
  clear hg T8'
  go_wp2_with fail
  refine (T9'.out _).mono ?_
  rintro e w2 ⟨rfl, hg⟩
  have g2 : w.grownBy w2 none := by refine gtrans ?_ hg; (repeat' (first | (with_reducible exact World.grownBy.refl _ _) | (with_reducible assumption) | (with_reducible refine galloc ?_ _) | (with_reducible refine gdrewN ?_ _) | (with_reducible refine gdrew ?_) | (with_reducible refine gset ?_ (.inl (by simp; try omega)) _)))
  clear g1
  have c0 : w2.cell? ⟨w.heap.size, 0, none⟩ = some (.int .i64 v) := hg.cell (by go_simp) (by simp)
  have c1 : w2.cell? ⟨w.heap.size, 1, none⟩ = some (.int .i64 f) := hg.cell (by go_simp) (by simp)
  have c2 : w2.cell? ⟨w.heap.size, 2, none⟩ = some (.int .u64 n) := hg.cell (by go_simp) (by simp)
  have cs : w.heap.size < w2.heap.size := by have := hg.size; (try simp at this); omega
  have ct : w.heap.size < w2.heap.size + 1 := by omega
  have b00 : w2.cell? ⟨w1.heap.size, 0, none⟩ = some (.int .i64 x1) := hg.cell (by go_simp) (by simp)
  have b01 : w2.cell? ⟨w1.heap.size, 1, none⟩ = some (.int .i64 y1) := hg.cell (by go_simp) (by simp)
  have b02 : w2.cell? ⟨w1.heap.size, 2, none⟩ = some (.int .u64 z1) := hg.cell (by go_simp) (by simp)
  have b0s : w1.heap.size < w2.heap.size := by have := hg.size; (try simp at this); omega
  have b0t : w1.heap.size < w2.heap.size + 1 := by omega
  clear hg T9'
  go_wp2_with fail
  refine (T10'.out _).mono ?_
  rintro e w3 ⟨rfl, hg⟩
  have g3 : w.grownBy w3 none := by refine gtrans ?_ hg; (repeat' (first | (with_reducible exact World.grownBy.refl _ _) | (with_reducible assumption) | (with_reducible refine galloc ?_ _) | (with_reducible refine gdrewN ?_ _) | (with_reducible refine gdrew ?_) | (with_reducible refine gset ?_ (.inl (by simp; try omega)) _)))
  clear g2
  have c0 : w3.cell? ⟨w.heap.size, 0, none⟩ = some (.int .i64 v) := hg.cell (by go_simp) (by simp)
  have c1 : w3.cell? ⟨w.heap.size, 1, none⟩ = some (.int .i64 f) := hg.cell (by go_simp) (by simp)
  have c2 : w3.cell? ⟨w.heap.size, 2, none⟩ = some (.int .u64 n) := hg.cell (by go_simp) (by simp)
  have cs : w.heap.size < w3.heap.size := by have := hg.size; (try simp at this); omega
  have ct : w.heap.size < w3.heap.size + 1 := by omega
  have b00 : w3.cell? ⟨w1.heap.size, 0, none⟩ = some (.int .i64 x1) := hg.cell (by go_simp) (by simp)
  have b01 : w3.cell? ⟨w1.heap.size, 1, none⟩ = some (.int .i64 y1) := hg.cell (by go_simp) (by simp)
  have b02 : w3.cell? ⟨w1.heap.size, 2, none⟩ = some (.int .u64 z1) := hg.cell (by go_simp) (by simp)
  have b0s : w1.heap.size < w3.heap.size := by have := hg.size; (try simp at this); omega
  have b0t : w1.heap.size < w3.heap.size + 1 := by omega
  have b10 : w3.cell? ⟨w2.heap.size, 0, none⟩ = some (.int .i64 x2) := hg.cell (by go_simp) (by simp)
  have b11 : w3.cell? ⟨w2.heap.size, 1, none⟩ = some (.int .i64 y2) := hg.cell (by go_simp) (by simp)
  have b12 : w3.cell? ⟨w2.heap.size, 2, none⟩ = some (.int .u64 z2) := hg.cell (by go_simp) (by simp)
  have b1s : w2.heap.size < w3.heap.size := by have := hg.size; (try simp at this); omega
  have b1t : w2.heap.size < w3.heap.size + 1 := by omega
  clear hg T10'
  go_wp2_with fail
  refine (T11'.out _).mono ?_
  rintro e w4 ⟨rfl, hg⟩
  have g4 : w.grownBy w4 none := by refine gtrans ?_ hg; (repeat' (first | (with_reducible exact World.grownBy.refl _ _) | (with_reducible assumption) | (with_reducible refine galloc ?_ _) | (with_reducible refine gdrewN ?_ _) | (with_reducible refine gdrew ?_) | (with_reducible refine gset ?_ (.inl (by simp; try omega)) _)))
  clear g3
  have c0 : w4.cell? ⟨w.heap.size, 0, none⟩ = some (.int .i64 v) := hg.cell (by go_simp) (by simp)
  have c1 : w4.cell? ⟨w.heap.size, 1, none⟩ = some (.int .i64 f) := hg.cell (by go_simp) (by simp)
  have c2 : w4.cell? ⟨w.heap.size, 2, none⟩ = some (.int .u64 n) := hg.cell (by go_simp) (by simp)
  have cs : w.heap.size < w4.heap.size := by have := hg.size; (try simp at this); omega
  have ct : w.heap.size < w4.heap.size + 1 := by omega
  have b00 : w4.cell? ⟨w1.heap.size, 0, none⟩ = some (.int .i64 x1) := hg.cell (by go_simp) (by simp)
  have b01 : w4.cell? ⟨w1.heap.size, 1, none⟩ = some (.int .i64 y1) := hg.cell (by go_simp) (by simp)
  have b02 : w4.cell? ⟨w1.heap.size, 2, none⟩ = some (.int .u64 z1) := hg.cell (by go_simp) (by simp)
  have b0s : w1.heap.size < w4.heap.size := by have := hg.size; (try simp at this); omega
  have b0t : w1.heap.size < w4.heap.size + 1 := by omega
  have b10 : w4.cell? ⟨w2.heap.size, 0, none⟩ = some (.int .i64 x2) := hg.cell (by go_simp) (by simp)
  have b11 : w4.cell? ⟨w2.heap.size, 1, none⟩ = some (.int .i64 y2) := hg.cell (by go_simp) (by simp)
  have b12 : w4.cell? ⟨w2.heap.size, 2, none⟩ = some (.int .u64 z2) := hg.cell (by go_simp) (by simp)
  have b1s : w2.heap.size < w4.heap.size := by have := hg.size; (try simp at this); omega
  have b1t : w2.heap.size < w4.heap.size + 1 := by omega
  have b20 : w4.cell? ⟨w3.heap.size, 0, none⟩ = some (.int .i64 x3) := hg.cell (by go_simp) (by simp)
  have b21 : w4.cell? ⟨w3.heap.size, 1, none⟩ = some (.int .i64 y3) := hg.cell (by go_simp) (by simp)
  have b22 : w4.cell? ⟨w3.heap.size, 2, none⟩ = some (.int .u64 z3) := hg.cell (by go_simp) (by simp)
  have b2s : w3.heap.size < w4.heap.size := by have := hg.size; (try simp at this); omega
  have b2t : w3.heap.size < w4.heap.size + 1 := by omega
  clear hg T11'
  go_wp2_with fail
  refine (T12'.out _).mono ?_
  rintro e w5 ⟨rfl, hg⟩
  have g5 : w.grownBy w5 none := by refine gtrans ?_ hg; (repeat' (first | (with_reducible exact World.grownBy.refl _ _) | (with_reducible assumption) | (with_reducible refine galloc ?_ _) | (with_reducible refine gdrewN ?_ _) | (with_reducible refine gdrew ?_) | (with_reducible refine gset ?_ (.inl (by simp; try omega)) _)))
  clear g4
  have c0 : w5.cell? ⟨w.heap.size, 0, none⟩ = some (.int .i64 v) := hg.cell (by go_simp) (by simp)
  have c1 : w5.cell? ⟨w.heap.size, 1, none⟩ = some (.int .i64 f) := hg.cell (by go_simp) (by simp)
  have c2 : w5.cell? ⟨w.heap.size, 2, none⟩ = some (.int .u64 n) := hg.cell (by go_simp) (by simp)
  have cs : w.heap.size < w5.heap.size := by have := hg.size; (try simp at this); omega
  have ct : w.heap.size < w5.heap.size + 1 := by omega
  have b00 : w5.cell? ⟨w1.heap.size, 0, none⟩ = some (.int .i64 x1) := hg.cell (by go_simp) (by simp)
  have b01 : w5.cell? ⟨w1.heap.size, 1, none⟩ = some (.int .i64 y1) := hg.cell (by go_simp) (by simp)
  have b02 : w5.cell? ⟨w1.heap.size, 2, none⟩ = some (.int .u64 z1) := hg.cell (by go_simp) (by simp)
  have b0s : w1.heap.size < w5.heap.size := by have := hg.size; (try simp at this); omega
  have b0t : w1.heap.size < w5.heap.size + 1 := by omega
  have b10 : w5.cell? ⟨w2.heap.size, 0, none⟩ = some (.int .i64 x2) := hg.cell (by go_simp) (by simp)
  have b11 : w5.cell? ⟨w2.heap.size, 1, none⟩ = some (.int .i64 y2) := hg.cell (by go_simp) (by simp)
  have b12 : w5.cell? ⟨w2.heap.size, 2, none⟩ = some (.int .u64 z2) := hg.cell (by go_simp) (by simp)
  have b1s : w2.heap.size < w5.heap.size := by have := hg.size; (try simp at this); omega
  have b1t : w2.heap.size < w5.heap.size + 1 := by omega
  have b20 : w5.cell? ⟨w3.heap.size, 0, none⟩ = some (.int .i64 x3) := hg.cell (by go_simp) (by simp)
  have b21 : w5.cell? ⟨w3.heap.size, 1, none⟩ = some (.int .i64 y3) := hg.cell (by go_simp) (by simp)
  have b22 : w5.cell? ⟨w3.heap.size, 2, none⟩ = some (.int .u64 z3) := hg.cell (by go_simp) (by simp)
  have b2s : w3.heap.size < w5.heap.size := by have := hg.size; (try simp at this); omega
  have b2t : w3.heap.size < w5.heap.size + 1 := by omega
  have b30 : w5.cell? ⟨w4.heap.size, 0, none⟩ = some (.int .i64 x1) := hg.cell (by go_simp) (by simp)
  have b31 : w5.cell? ⟨w4.heap.size, 1, none⟩ = some (.int .i64 y1) := hg.cell (by go_simp) (by simp)
  have b32 : w5.cell? ⟨w4.heap.size, 2, none⟩ = some (.int .u64 z1) := hg.cell (by go_simp) (by simp)
  have b3s : w4.heap.size < w5.heap.size := by have := hg.size; (try simp at this); omega
  have b3t : w4.heap.size < w5.heap.size + 1 := by omega
  clear hg T12'
  go_wp2_with fail
  refine (T13'.out _).mono ?_
  rintro e w6 ⟨rfl, hg⟩
  have g6 : w.grownBy w6 none := by refine gtrans ?_ hg; (repeat' (first | (with_reducible exact World.grownBy.refl _ _) | (with_reducible assumption) | (with_reducible refine galloc ?_ _) | (with_reducible refine gdrewN ?_ _) | (with_reducible refine gdrew ?_) | (with_reducible refine gset ?_ (.inl (by simp; try omega)) _)))
  clear g5
  have c0 : w6.cell? ⟨w.heap.size, 0, none⟩ = some (.int .i64 v) := hg.cell (by go_simp) (by simp)
  have c1 : w6.cell? ⟨w.heap.size, 1, none⟩ = some (.int .i64 f) := hg.cell (by go_simp) (by simp)
  have c2 : w6.cell? ⟨w.heap.size, 2, none⟩ = some (.int .u64 n) := hg.cell (by go_simp) (by simp)
  have cs : w.heap.size < w6.heap.size := by have := hg.size; (try simp at this); omega
  have ct : w.heap.size < w6.heap.size + 1 := by omega
  have b00 : w6.cell? ⟨w1.heap.size, 0, none⟩ = some (.int .i64 x1) := hg.cell (by go_simp) (by simp)
  have b01 : w6.cell? ⟨w1.heap.size, 1, none⟩ = some (.int .i64 y1) := hg.cell (by go_simp) (by simp)
  have b02 : w6.cell? ⟨w1.heap.size, 2, none⟩ = some (.int .u64 z1) := hg.cell (by go_simp) (by simp)
  have b0s : w1.heap.size < w6.heap.size := by have := hg.size; (try simp at this); omega
  have b0t : w1.heap.size < w6.heap.size + 1 := by omega
  have b10 : w6.cell? ⟨w2.heap.size, 0, none⟩ = some (.int .i64 x2) := hg.cell (by go_simp) (by simp)
  have b11 : w6.cell? ⟨w2.heap.size, 1, none⟩ = some (.int .i64 y2) := hg.cell (by go_simp) (by simp)
  have b12 : w6.cell? ⟨w2.heap.size, 2, none⟩ = some (.int .u64 z2) := hg.cell (by go_simp) (by simp)
  have b1s : w2.heap.size < w6.heap.size := by have := hg.size; (try simp at this); omega
  have b1t : w2.heap.size < w6.heap.size + 1 := by omega
  have b20 : w6.cell? ⟨w3.heap.size, 0, none⟩ = some (.int .i64 x3) := hg.cell (by go_simp) (by simp)
  have b21 : w6.cell? ⟨w3.heap.size, 1, none⟩ = some (.int .i64 y3) := hg.cell (by go_simp) (by simp)
  have b22 : w6.cell? ⟨w3.heap.size, 2, none⟩ = some (.int .u64 z3) := hg.cell (by go_simp) (by simp)
  have b2s : w3.heap.size < w6.heap.size := by have := hg.size; (try simp at this); omega
  have b2t : w3.heap.size < w6.heap.size + 1 := by omega
  have b30 : w6.cell? ⟨w4.heap.size, 0, none⟩ = some (.int .i64 x1) := hg.cell (by go_simp) (by simp)
  have b31 : w6.cell? ⟨w4.heap.size, 1, none⟩ = some (.int .i64 y1) := hg.cell (by go_simp) (by simp)
  have b32 : w6.cell? ⟨w4.heap.size, 2, none⟩ = some (.int .u64 z1) := hg.cell (by go_simp) (by simp)
  have b3s : w4.heap.size < w6.heap.size := by have := hg.size; (try simp at this); omega
  have b3t : w4.heap.size < w6.heap.size + 1 := by omega
  have b40 : w6.cell? ⟨w5.heap.size, 0, none⟩ = some (.int .i64 x2) := hg.cell (by go_simp) (by simp)
  have b41 : w6.cell? ⟨w5.heap.size, 1, none⟩ = some (.int .i64 y2) := hg.cell (by go_simp) (by simp)
  have b42 : w6.cell? ⟨w5.heap.size, 2, none⟩ = some (.int .u64 z2) := hg.cell (by go_simp) (by simp)
  have b4s : w5.heap.size < w6.heap.size := by have := hg.size; (try simp at this); omega
  have b4t : w5.heap.size < w6.heap.size + 1 := by omega
  clear hg T13'
  go_wp2_with fail
  refine at_world ?_
  intro W hW
  have gr : w.grownBy W none := by rw [hW]; (repeat' (first | (with_reducible exact World.grownBy.refl _ _) | (with_reducible assumption) | (with_reducible refine galloc ?_ _) | (with_reducible refine gdrewN ?_ _) | (with_reducible refine gdrew ?_) | (with_reducible refine gset ?_ (.inl (by simp; try omega)) _)))
  have c0 : W.cell? ⟨w.heap.size, 0, none⟩ = some (.int .i64 v) := by rw [hW]; go_simp
  have c1 : W.cell? ⟨w.heap.size, 1, none⟩ = some (.int .i64 f) := by rw [hW]; go_simp
  have c2 : W.cell? ⟨w.heap.size, 2, none⟩ = some (.int .u64 n) := by rw [hW]; go_simp
  have b00 : W.cell? ⟨w1.heap.size, 0, none⟩ = some (.int .i64 x1) := by rw [hW]; go_simp
  have b01 : W.cell? ⟨w1.heap.size, 1, none⟩ = some (.int .i64 y1) := by rw [hW]; go_simp
  have b02 : W.cell? ⟨w1.heap.size, 2, none⟩ = some (.int .u64 z1) := by rw [hW]; go_simp
  have b10 : W.cell? ⟨w2.heap.size, 0, none⟩ = some (.int .i64 x2) := by rw [hW]; go_simp
  have b11 : W.cell? ⟨w2.heap.size, 1, none⟩ = some (.int .i64 y2) := by rw [hW]; go_simp
  have b12 : W.cell? ⟨w2.heap.size, 2, none⟩ = some (.int .u64 z2) := by rw [hW]; go_simp
  have b20 : W.cell? ⟨w3.heap.size, 0, none⟩ = some (.int .i64 x3) := by rw [hW]; go_simp
  have b21 : W.cell? ⟨w3.heap.size, 1, none⟩ = some (.int .i64 y3) := by rw [hW]; go_simp
  have b22 : W.cell? ⟨w3.heap.size, 2, none⟩ = some (.int .u64 z3) := by rw [hW]; go_simp
  have b30 : W.cell? ⟨w4.heap.size, 0, none⟩ = some (.int .i64 x1) := by rw [hW]; go_simp
  have b31 : W.cell? ⟨w4.heap.size, 1, none⟩ = some (.int .i64 y1) := by rw [hW]; go_simp
  have b32 : W.cell? ⟨w4.heap.size, 2, none⟩ = some (.int .u64 z1) := by rw [hW]; go_simp
  have b40 : W.cell? ⟨w5.heap.size, 0, none⟩ = some (.int .i64 x2) := by rw [hW]; go_simp
  have b41 : W.cell? ⟨w5.heap.size, 1, none⟩ = some (.int .i64 y2) := by rw [hW]; go_simp
  have b42 : W.cell? ⟨w5.heap.size, 2, none⟩ = some (.int .u64 z2) := by rw [hW]; go_simp
  have b50 : W.cell? ⟨w6.heap.size, 0, none⟩ = some (.int .i64 x3) := by rw [hW]; go_simp
  have b51 : W.cell? ⟨w6.heap.size, 1, none⟩ = some (.int .i64 y3) := by rw [hW]; go_simp
  have b52 : W.cell? ⟨w6.heap.size, 2, none⟩ = some (.int .u64 z3) := by rw [hW]; go_simp
  clear hW g6
  have c0 : ∀ g : Grown W, g.W.cell? ⟨w.heap.size, 0, none⟩ = some (.int .i64 v) := fun g => gcell g.h c0 (by simp)
  have c1 : ∀ g : Grown W, g.W.cell? ⟨w.heap.size, 1, none⟩ = some (.int .i64 f) := fun g => gcell g.h c1 (by simp)
  have c2 : ∀ g : Grown W, g.W.cell? ⟨w.heap.size, 2, none⟩ = some (.int .u64 n) := fun g => gcell g.h c2 (by simp)
  have b00 : ∀ g : Grown W, g.W.cell? ⟨w1.heap.size, 0, none⟩ = some (.int .i64 x1) := fun g => gcell g.h b00 (by simp)
  have b01 : ∀ g : Grown W, g.W.cell? ⟨w1.heap.size, 1, none⟩ = some (.int .i64 y1) := fun g => gcell g.h b01 (by simp)
  have b02 : ∀ g : Grown W, g.W.cell? ⟨w1.heap.size, 2, none⟩ = some (.int .u64 z1) := fun g => gcell g.h b02 (by simp)
  have b10 : ∀ g : Grown W, g.W.cell? ⟨w2.heap.size, 0, none⟩ = some (.int .i64 x2) := fun g => gcell g.h b10 (by simp)
  have b11 : ∀ g : Grown W, g.W.cell? ⟨w2.heap.size, 1, none⟩ = some (.int .i64 y2) := fun g => gcell g.h b11 (by simp)
  have b12 : ∀ g : Grown W, g.W.cell? ⟨w2.heap.size, 2, none⟩ = some (.int .u64 z2) := fun g => gcell g.h b12 (by simp)
  have b20 : ∀ g : Grown W, g.W.cell? ⟨w3.heap.size, 0, none⟩ = some (.int .i64 x3) := fun g => gcell g.h b20 (by simp)
  have b21 : ∀ g : Grown W, g.W.cell? ⟨w3.heap.size, 1, none⟩ = some (.int .i64 y3) := fun g => gcell g.h b21 (by simp)
  have b22 : ∀ g : Grown W, g.W.cell? ⟨w3.heap.size, 2, none⟩ = some (.int .u64 z3) := fun g => gcell g.h b22 (by simp)
  have b30 : ∀ g : Grown W, g.W.cell? ⟨w4.heap.size, 0, none⟩ = some (.int .i64 x1) := fun g => gcell g.h b30 (by simp)
  have b31 : ∀ g : Grown W, g.W.cell? ⟨w4.heap.size, 1, none⟩ = some (.int .i64 y1) := fun g => gcell g.h b31 (by simp)
  have b32 : ∀ g : Grown W, g.W.cell? ⟨w4.heap.size, 2, none⟩ = some (.int .u64 z1) := fun g => gcell g.h b32 (by simp)
  have b40 : ∀ g : Grown W, g.W.cell? ⟨w5.heap.size, 0, none⟩ = some (.int .i64 x2) := fun g => gcell g.h b40 (by simp)
  have b41 : ∀ g : Grown W, g.W.cell? ⟨w5.heap.size, 1, none⟩ = some (.int .i64 y2) := fun g => gcell g.h b41 (by simp)
  have b42 : ∀ g : Grown W, g.W.cell? ⟨w5.heap.size, 2, none⟩ = some (.int .u64 z2) := fun g => gcell g.h b42 (by simp)
  have b50 : ∀ g : Grown W, g.W.cell? ⟨w6.heap.size, 0, none⟩ = some (.int .i64 x3) := fun g => gcell g.h b50 (by simp)
  have b51 : ∀ g : Grown W, g.W.cell? ⟨w6.heap.size, 1, none⟩ = some (.int .i64 y3) := fun g => gcell g.h b51 (by simp)
  have b52 : ∀ g : Grown W, g.W.cell? ⟨w6.heap.size, 2, none⟩ = some (.int .u64 z3) := fun g => gcell g.h b52 (by simp)
  refine wp_region_grown (by kernel_rfl) (by kernel_rfl) ?_
  repeat
    first
      | go_big_quiet_skip
      | (go_big_quiet_want
         go_big_quiet_op
         first
           | go_big_quiet_on
           | (apply Exists.intro
              refine ⟨fun _ => ?_, ?_⟩
              · first | (go_at_call 15; exact gcall (CK'.out _)) | (go_at_call 16; exact gcall (RR'.out _)) | (go_at_call 14; exact gcall (num_gr _ _ (by decide) (by decide)))
              go_big_quiet_on))
  refine wpQuiet_nil ?_
  rintro _ ⟨g, rfl⟩
  have c0 := c0 g
  have c1 := c1 g
  have c2 := c2 g
  have b00 := b00 g
  have b01 := b01 g
  have b02 := b02 g
  have b10 := b10 g
  have b11 := b11 g
  have b12 := b12 g
  have b20 := b20 g
  have b21 := b21 g
  have b22 := b22 g
  have b30 := b30 g
  have b31 := b31 g
  have b32 := b32 g
  have b40 := b40 g
  have b41 := b41 g
  have b42 := b42 g
  have b50 := b50 g
  have b51 := b51 g
  have b52 := b52 g
  have gr2 : w.grownBy g.W none := gtrans gr g.h
  clear gr CK' RR'
  generalize g.W = W2 at *
  go_wp2_with (first | (go_at_call 14; refine (num_any _ _ (by omega) (by omega)).mono ?_; rintro e w' ⟨rfl, rfl⟩) | (go_at_call 17; refine (works_any _).mono ?_; rintro e w7 ⟨rfl, hg7⟩))
  go_ret
  exact ⟨rfl, gtrans gr2 hg7⟩

theorem moveE_wrong {d : Bool} {v f n m : Int} (h : rightB v f n = false) : moveE d v f n m = 2 := by
  unfold moveE
  simp [h]
theorem moveE_none {d : Bool} {v f n : Int} : moveE d v f n 0 = 2 := by
  unfold moveE
  simp

theorem refDebit (v f n k : Int) (w : World) (hB : Bd v f n) (hk : -9223372036854775808 ≤ k) (hk' : k ≤ 9223372036854775807) :
    Calls Try.prog 11 #[.agg #[.int .i64 v, .int .i64 f, .int .u64 n], .int .i64 k] w fun e w' => e = .returned (chg (moveE true v f n (pos k)) (v - pos k) f (n + 1)) ∧ w.grownBy w' none := by
  cases hr : rightB v f n
  · rw [moveE_wrong hr]
    have := deb_f v f n k w hr
    simpa [chg] using this
  · by_cases h : k < 1
    · have e : pos k = 0 := by unfold pos; split <;> omega
      rw [e, moveE_none]
      have := deb_0 v f n k w hr h
      simpa [chg] using this
    · have e : pos k = k := by unfold pos; split <;> omega
      rw [e]
      exact deb_t v f n k w hr (by omega) hk' _ _ _ _ (fun W => deb29 v f n k W hB hr (by omega) (by omega))
theorem refCredit (v f n k : Int) (w : World) (hB : Bd v f n) (hk : -9223372036854775808 ≤ k) (hk' : k ≤ 9223372036854775807) :
    Calls Try.prog 12 #[.agg #[.int .i64 v, .int .i64 f, .int .u64 n], .int .i64 k] w fun e w' => e = .returned (chg (moveE false v f n (pos k)) (v + pos k) f (n + 1)) ∧ w.grownBy w' none := by
  cases hr : rightB v f n
  · rw [moveE_wrong hr]
    have := cre_f v f n k w hr
    simpa [chg] using this
  · by_cases h : k < 1
    · have e : pos k = 0 := by unfold pos; split <;> omega
      rw [e, moveE_none]
      have := cre_0 v f n k w hr h
      simpa [chg] using this
    · have e : pos k = k := by unfold pos; split <;> omega
      rw [e, moveE_right hr (by omega)]
      simp only [askB, lowE, Bool.false_eq_true, if_false]
      by_cases c : 9223372036854775807 - v < k
      · have := cre_low v f n k w hr hB (by omega) hk' c
        simpa [c, chg] using this
      · by_cases hn : n = 4611686018427387904
        · subst hn
          have := cre_spent v f k w hr hB (by omega) hk' (by omega)
          simpa [c, chg] using this
        · have := cre_ok v f n k w hr hB (by omega) hk' (by omega) hn (rightB_t hr).2
          simpa [c, chg, hn] using this
theorem refChange (v f n k : Int) (w : World) (hB : Bd v f n) (hk : -9223372036854775808 ≤ k) (hk' : k ≤ 9223372036854775807) :
    Calls Try.prog 13 #[.agg #[.int .i64 v, .int .i64 f, .int .u64 n], .int .i64 k] w fun e w' => e = .returned (chg (chE v f n k) (v + k) f (n + 1)) ∧ w.grownBy w' none := by
  unfold chE
  cases hr : rightB v f n
  · rw [moveE_wrong hr]
    have := chn_f v f n k w hr
    simpa [chg] using this
  · by_cases h : k < 0
    · have e1 : chD k = true := by simpa [chD] using h
      have e2 : chM k = -1 - k + 1 := by unfold chM; split <;> omega
      rw [e1, e2, show v + k = v - (-1 - k + 1) by omega]
      exact chn_neg v f n k w hr h hk _ _ _ _ (fun W => deb29 v f n (-1 - k + 1) W hB hr (by omega) (by omega))
    · have e1 : chD k = false := by simp [chD]; omega
      have e2 : chM k = k := by unfold chM; split <;> omega
      rw [e1, e2]
      by_cases h0 : k = 0
      · rw [h0, moveE_none, ← h0]
        have := chn_0 v f n k w hr h0
        simpa [chg] using this
      · have e3 : pos k = k := by unfold pos; split <;> omega
        have C := fun W => refCredit v f n k W hB hk hk'
        rw [e3] at C
        exact chn_pos v f n k w hr (by omega) hk' _ _ _ _ C

theorem walk (v f n k : Int) (w : World) (hB : Bd v f n) (hk : -9223372036854775808 ≤ k) (hk' : k ≤ 9223372036854775807) :
    Calls Try.prog 3 #[.agg #[.int .i64 v, .int .i64 f, .int .u64 n], .int .i64 k] w fun e w' => e = .returned (.bool true) ∧ w.grownBy w' none := by
  have T8 := debit_tells v f n k hB hk hk'
  have T9 := credit_tells v f n k hB hk hk'
  have T10 := fun W => change_any v f n k W hB hk hk'
  simp only [chgV_eq] at T10
  have T11 := fun W => refDebit v f n k W hB hk hk'
  have T12 := fun W => refCredit v f n k W hB hk hk'
  have T13 := fun W => refChange v f n k W hB hk hk'
  have r1 := moveE_range true v f n (pos k)
  have r2 := moveE_range false v f n (pos k)
  have r3 : 0 ≤ chE v f n k ∧ chE v f n k ≤ 142 := moveE_range _ v f n _
  cases hr : rightB v f n
  · exact walk_no v f n k w _ _ _ _ _ _ _ _ _ _ _ _ T8 T9 T10 T11 T12 T13 r1.1 r1.2 r2.1 r2.2 r3.1 r3.2 hr
  · exact walk_yes v f n k w _ _ _ _ _ _ _ _ _ _ _ _ T8 T9 T10 T11 T12 T13 r1.1 r1.2 r2.1 r2.2 r3.1 r3.2 hr

set_option maxRecDepth 100000 in
theorem lifted (os : Os) (started : os.Started) (H : Type) (enc : TypeId × Value → H) :
    ReturnsInHanded {} Try.checked os 3 .any (Rows.escrowChangesSpec.pre6 enc Try.prog Try.f3 Rows.escrowChangesRow.domain false) (Rows.escrowChangesSpec.post enc Try.prog Try.f3 false true false false) := by
  refine returnsInHanded_of_change (C := Try.checked) own started (by kernel_rfl) Try.func3
    (ChangeSpec.witness6 (enc := enc) (C := Try.checked) false ⟨#[], #[.agg #[.int .i64 0, .int .i64 0, .int .u64 0], .int .i64 0], []⟩ 8 (by kernel_rfl) (by kernel_rfl) (by kernel_rfl) (by kernel_rfl)) ?_
  intro W base args ds gs before hval0 hW hcnd _
  have hval : ∀ (j : Nat) t v, Try.f3.params[j]? = some t → args[j]? = some v → Value.okWide Try.prog W .any base t v := hval0
  have hW' := hW
  obtain ⟨p, q, hA0, hV, rfl, hfz, hnd⟩ := hW
  obtain ⟨rfl, rfl⟩ := trodVars_none hV
  rw [List.append_nil] at hW'
  have hA : DataW.TrodAll enc Try.prog W 0 (fun _ => true) true Try.f3.params.toList args.toList ds p := hA0
  have hAk := hA
  rw [Try.params3] at hA hval
  obtain ⟨v0, vs0, d0, ds0, p0, q0, hargs, rfl, rfl, h0, r0⟩ := trodAll_cons hA
  obtain ⟨v1, vs1, d1, ds1, p1, q1, rfl, rfl, rfl, h1, r1⟩ := trodAll_cons r0
  obtain ⟨rfl, rfl, rfl⟩ := trodAll_nil r1
  obtain rfl : args = #[v0, v1] := by cases args; simp_all
  obtain ⟨x, f, n, rfl, rfl, rfl, wx, wf, wn⟩ := open_counter (hval 0 24 v0 rfl rfl) h0
  obtain ⟨k, rfl, rfl, rfl, wk⟩ := open_int Try.underlying2 (hval 1 2 v1 rfl rfl) h1
  have bk := bounds_i64 wk
  refine (walk x f n k W (bd_of wx wf wn) (by omega) (by omega)).mono fun e W' ⟨he, hg⟩ => ?_
  subst he
  exact ⟨_, rfl, law_post (by kernel_rfl) (by kernel_rfl) rfl Try.underlying4 rfl hW' hAk rfl (gbelow hg (by simp))⟩

theorem proved : Rows.EscrowChangesSaid :=
  OpenClaim.holds_of_wide 3 Try.f3 rfl rfl rfl rfl rfl rfl rfl ⟨rfl, rfl, rfl, rfl, rfl⟩ rfl rfl rfl rfl rfl (by kernel_rfl) Try.func3 (by kernel_rfl)
    (of_decide_eq_true (by kernel_rfl)) (by unfold Func.isWrapper; first | (rw [if_pos (by decide +kernel)]; kernel_rfl) | (rw [if_neg (by decide +kernel)]; exact ⟨rfl, rfl⟩))
    (fun os started H enc _ => lifted os started H enc)
end Go.Proofs.Ytgcejfcfaaidhaa.changes
