/- Debit, Credit and Change answer what moveE and chgV name, for every counter in its bounds. -/
import Derived.Test.YtgcejfcfaaidhaaCh
set_option linter.unusedSimpArgs false
set_option linter.unusedVariables false
namespace Go.Proofs.Ytgcejfcfaaidhaa
open Go.RowKit

/-- A block that was new has turned. -/
theorem gnew {w a b : World} {g : Nat} (h : w.grownBy a none) (k : a.grownBy b (some g)) (hg : w.heap.size ≤ g) : w.grownBy b none :=
  ⟨k.os.trans h.os, k.tape.trans h.tape, k.output.trans h.output, Nat.le_trans h.size k.size, fun i hi hne => (k.block i (Nat.lt_of_lt_of_le hi h.size) (by simp; omega)).trans (h.block i hi hne)⟩

set_option maxRecDepth 100000 in
set_option maxHeartbeats 2000000 in
theorem debit_neg (v f n k : Int) (w : World) (hB : Bd v f n) (hk : -9223372036854775808 ≤ k) (hk' : k ≤ 9223372036854775807) (hn : k < 0) :
    Calls Try.prog 8 #[.agg #[.int .i64 v, .int .i64 f, .int .u64 n], .int .i64 k] w fun e w' => e = .returned (chgV (moveE true v f n 0) (v) f (n + 1)) ∧ w.grownBy w' none := by
  have hmf : ∀ (fn : Fn) (first cap : Array Value) (w : World), (Instr.makeFunc fn first cap).run Try.prog w = .ok (.func fn first cap) w := fun _ _ _ _ => rfl
  by_cases hE : moveE true v f n 0 = 0
  · rw [hE]
    go_enter Try.func8, Try.ntmps8
    go_wp2_with (first | (go_at_call 23; go_in) | (go_at_call 24; go_in))
    refine (move_yes (w.heap.size + 1 + 1 + 1 + 1 + 1) v f n 0 0 true _ ⟨by go_simp, by go_simp, by go_simp, by go_simp, fun o => by go_simp⟩ hB (by omega) (by omega) (by omega) hE).mono ?_
    rintro e w1 ⟨rfl, hg, hA⟩
    have a0 := hA.c0
    have a1 := hA.c1
    have a2 := hA.c2
    have p0 : w1.cell? ⟨w.heap.size + 1 + 1, 0, none⟩ = some (.int .i64 0) := hg.cell (by go_simp) (by simp)
    have pz0 : w1.frozen? ⟨w.heap.size + 1 + 1, 0, none⟩ = false := (gfroz hg (v := .int .i64 0) (by go_simp) (by simp)).trans (by go_simp)
    have p1 : w1.cell? ⟨w.heap.size + 1 + 1, 1, none⟩ = some (.int .i64 0) := hg.cell (by go_simp) (by simp)
    have pz1 : w1.frozen? ⟨w.heap.size + 1 + 1, 1, none⟩ = false := (gfroz hg (v := .int .i64 0) (by go_simp) (by simp)).trans (by go_simp)
    have p2 : w1.cell? ⟨w.heap.size + 1 + 1, 2, none⟩ = some (.int .u64 0) := hg.cell (by go_simp) (by simp)
    have pz2 : w1.frozen? ⟨w.heap.size + 1 + 1, 2, none⟩ = false := (gfroz hg (v := .int .u64 0) (by go_simp) (by simp)).trans (by go_simp)
    have q0 : w1.cell? ⟨w.heap.size + 1 + 1 + 1 + 1, 0, none⟩ = some (.int .i64 0) := hg.cell (by go_simp) (by simp)
    have qz0 : w1.frozen? ⟨w.heap.size + 1 + 1 + 1 + 1, 0, none⟩ = false := (gfroz hg (v := .int .i64 0) (by go_simp) (by simp)).trans (by go_simp)
    have q1 : w1.cell? ⟨w.heap.size + 1 + 1 + 1 + 1, 1, none⟩ = some (.int .i64 0) := hg.cell (by go_simp) (by simp)
    have qz1 : w1.frozen? ⟨w.heap.size + 1 + 1 + 1 + 1, 1, none⟩ = false := (gfroz hg (v := .int .i64 0) (by go_simp) (by simp)).trans (by go_simp)
    have q2 : w1.cell? ⟨w.heap.size + 1 + 1 + 1 + 1, 2, none⟩ = some (.int .u64 0) := hg.cell (by go_simp) (by simp)
    have qz2 : w1.frozen? ⟨w.heap.size + 1 + 1 + 1 + 1, 2, none⟩ = false := (gfroz hg (v := .int .u64 0) (by go_simp) (by simp)).trans (by go_simp)
    have hgw : w.grownBy w1 none := gnew (by (repeat' (first | (with_reducible exact World.grownBy.refl _ _) | (with_reducible assumption) | (with_reducible refine galloc ?_ _) | (with_reducible refine gdrewN ?_ _) | (with_reducible refine gdrew ?_) | (with_reducible refine gset ?_ (.inl (by simp; try omega)) _)))) hg (by omega)
    have hs : w.heap.size + 1 + 1 + 1 + 1 + 1 < w1.heap.size := by have := hg.size; simp at this; omega
    clear hg hA hmf hE hB
    go_wp2_with fail
    refine bodyPost_ret (v := .tuple #[.agg #[.int .i64 (moveV true v 0), .int .i64 f, .int .u64 (n + 1)], .int .i64 0]) (by simp [results, Try.results23, go_sem, q0, q1, q2]) rfl ?_
    go_wp2_with fail
    refine bodyPost_ret (v := .tuple #[.agg #[.int .i64 (moveV true v 0), .int .i64 f, .int .u64 (n + 1)], .int .i64 0]) (by simp [results, Try.results8, go_sem, p0, p1, p2]) rfl ?_
    exact ⟨by simp [chgV, moveV], by (repeat' (first | (with_reducible exact World.grownBy.refl _ _) | (with_reducible assumption) | (with_reducible refine galloc ?_ _) | (with_reducible refine gdrewN ?_ _) | (with_reducible refine gdrew ?_) | (with_reducible refine gset ?_ (.inl (by simp; try omega)) _)))⟩
  · have hE1 : (moveE true v f n 0 != 0) = true := by simpa using hE
    have C := fun W hAW => move_no (w.heap.size + 1 + 1 + 1 + 1 + 1) v f n 0 0 true W hAW hB hE
    generalize hx : moveE true v f n 0 = x at *
    have C' := Lib.hid C
    clear C hx
    go_enter Try.func8, Try.ntmps8
    go_wp2_with (first | (go_at_call 23; go_in) | (go_at_call 24; go_in))
    refine (C'.out _ ⟨by go_simp, by go_simp, by go_simp, by go_simp, fun o => by go_simp⟩).mono ?_
    rintro e w1 ⟨rfl, hg⟩
    have p0 : w1.cell? ⟨w.heap.size + 1 + 1, 0, none⟩ = some (.int .i64 0) := hg.cell (by go_simp) (by simp)
    have pz0 : w1.frozen? ⟨w.heap.size + 1 + 1, 0, none⟩ = false := (gfroz hg (v := .int .i64 0) (by go_simp) (by simp)).trans (by go_simp)
    have p1 : w1.cell? ⟨w.heap.size + 1 + 1, 1, none⟩ = some (.int .i64 0) := hg.cell (by go_simp) (by simp)
    have pz1 : w1.frozen? ⟨w.heap.size + 1 + 1, 1, none⟩ = false := (gfroz hg (v := .int .i64 0) (by go_simp) (by simp)).trans (by go_simp)
    have p2 : w1.cell? ⟨w.heap.size + 1 + 1, 2, none⟩ = some (.int .u64 0) := hg.cell (by go_simp) (by simp)
    have pz2 : w1.frozen? ⟨w.heap.size + 1 + 1, 2, none⟩ = false := (gfroz hg (v := .int .u64 0) (by go_simp) (by simp)).trans (by go_simp)
    have q0 : w1.cell? ⟨w.heap.size + 1 + 1 + 1 + 1, 0, none⟩ = some (.int .i64 0) := hg.cell (by go_simp) (by simp)
    have qz0 : w1.frozen? ⟨w.heap.size + 1 + 1 + 1 + 1, 0, none⟩ = false := (gfroz hg (v := .int .i64 0) (by go_simp) (by simp)).trans (by go_simp)
    have q1 : w1.cell? ⟨w.heap.size + 1 + 1 + 1 + 1, 1, none⟩ = some (.int .i64 0) := hg.cell (by go_simp) (by simp)
    have qz1 : w1.frozen? ⟨w.heap.size + 1 + 1 + 1 + 1, 1, none⟩ = false := (gfroz hg (v := .int .i64 0) (by go_simp) (by simp)).trans (by go_simp)
    have q2 : w1.cell? ⟨w.heap.size + 1 + 1 + 1 + 1, 2, none⟩ = some (.int .u64 0) := hg.cell (by go_simp) (by simp)
    have qz2 : w1.frozen? ⟨w.heap.size + 1 + 1 + 1 + 1, 2, none⟩ = false := (gfroz hg (v := .int .u64 0) (by go_simp) (by simp)).trans (by go_simp)
    have hgw : w.grownBy w1 none := by refine gtrans ?_ hg; (repeat' (first | (with_reducible exact World.grownBy.refl _ _) | (with_reducible assumption) | (with_reducible refine galloc ?_ _) | (with_reducible refine gdrewN ?_ _) | (with_reducible refine gdrew ?_) | (with_reducible refine gset ?_ (.inl (by simp; try omega)) _)))
    have hs : w.heap.size + 1 + 1 + 1 + 1 + 1 < w1.heap.size := by have := hg.size; simp at this; omega
    clear hg hmf hB C'
    go_wp2_with fail
    refine bodyPost_ret (v := .tuple #[.agg #[.int .i64 0, .int .i64 0, .int .u64 0], .int .i64 x]) (by simp [results, Try.results23, go_sem, q0, q1, q2]) rfl ?_
    go_wp2_with fail
    refine bodyPost_ret (v := .tuple #[.agg #[.int .i64 0, .int .i64 0, .int .u64 0], .int .i64 x]) (by simp [results, Try.results8, go_sem, p0, p1, p2]) rfl ?_
    exact ⟨by simp [chgV, hE], by (repeat' (first | (with_reducible exact World.grownBy.refl _ _) | (with_reducible assumption) | (with_reducible refine galloc ?_ _) | (with_reducible refine gdrewN ?_ _) | (with_reducible refine gdrew ?_) | (with_reducible refine gset ?_ (.inl (by simp; try omega)) _)))⟩
set_option maxRecDepth 100000 in
set_option maxHeartbeats 2000000 in
theorem debit_pos (v f n k : Int) (w : World) (hB : Bd v f n) (hk : -9223372036854775808 ≤ k) (hk' : k ≤ 9223372036854775807) (hn : 0 ≤ k) :
    Calls Try.prog 8 #[.agg #[.int .i64 v, .int .i64 f, .int .u64 n], .int .i64 k] w fun e w' => e = .returned (chgV (moveE true v f n k) (v - k) f (n + 1)) ∧ w.grownBy w' none := by
  have hmf : ∀ (fn : Fn) (first cap : Array Value) (w : World), (Instr.makeFunc fn first cap).run Try.prog w = .ok (.func fn first cap) w := fun _ _ _ _ => rfl
  by_cases hE : moveE true v f n k = 0
  · rw [hE]
    go_enter Try.func8, Try.ntmps8
    go_wp2_with (first | (go_at_call 23; go_in) | (go_at_call 24; go_in))
    refine (move_yes (w.heap.size + 1 + 1 + 1 + 1 + 1) v f n 0 k true _ ⟨by go_simp, by go_simp, by go_simp, by go_simp, fun o => by go_simp⟩ hB hn (by omega) (by omega) hE).mono ?_
    rintro e w1 ⟨rfl, hg, hA⟩
    have a0 := hA.c0
    have a1 := hA.c1
    have a2 := hA.c2
    have p0 : w1.cell? ⟨w.heap.size + 1 + 1, 0, none⟩ = some (.int .i64 0) := hg.cell (by go_simp) (by simp)
    have pz0 : w1.frozen? ⟨w.heap.size + 1 + 1, 0, none⟩ = false := (gfroz hg (v := .int .i64 0) (by go_simp) (by simp)).trans (by go_simp)
    have p1 : w1.cell? ⟨w.heap.size + 1 + 1, 1, none⟩ = some (.int .i64 0) := hg.cell (by go_simp) (by simp)
    have pz1 : w1.frozen? ⟨w.heap.size + 1 + 1, 1, none⟩ = false := (gfroz hg (v := .int .i64 0) (by go_simp) (by simp)).trans (by go_simp)
    have p2 : w1.cell? ⟨w.heap.size + 1 + 1, 2, none⟩ = some (.int .u64 0) := hg.cell (by go_simp) (by simp)
    have pz2 : w1.frozen? ⟨w.heap.size + 1 + 1, 2, none⟩ = false := (gfroz hg (v := .int .u64 0) (by go_simp) (by simp)).trans (by go_simp)
    have q0 : w1.cell? ⟨w.heap.size + 1 + 1 + 1 + 1, 0, none⟩ = some (.int .i64 0) := hg.cell (by go_simp) (by simp)
    have qz0 : w1.frozen? ⟨w.heap.size + 1 + 1 + 1 + 1, 0, none⟩ = false := (gfroz hg (v := .int .i64 0) (by go_simp) (by simp)).trans (by go_simp)
    have q1 : w1.cell? ⟨w.heap.size + 1 + 1 + 1 + 1, 1, none⟩ = some (.int .i64 0) := hg.cell (by go_simp) (by simp)
    have qz1 : w1.frozen? ⟨w.heap.size + 1 + 1 + 1 + 1, 1, none⟩ = false := (gfroz hg (v := .int .i64 0) (by go_simp) (by simp)).trans (by go_simp)
    have q2 : w1.cell? ⟨w.heap.size + 1 + 1 + 1 + 1, 2, none⟩ = some (.int .u64 0) := hg.cell (by go_simp) (by simp)
    have qz2 : w1.frozen? ⟨w.heap.size + 1 + 1 + 1 + 1, 2, none⟩ = false := (gfroz hg (v := .int .u64 0) (by go_simp) (by simp)).trans (by go_simp)
    have hgw : w.grownBy w1 none := gnew (by (repeat' (first | (with_reducible exact World.grownBy.refl _ _) | (with_reducible assumption) | (with_reducible refine galloc ?_ _) | (with_reducible refine gdrewN ?_ _) | (with_reducible refine gdrew ?_) | (with_reducible refine gset ?_ (.inl (by simp; try omega)) _)))) hg (by omega)
    have hs : w.heap.size + 1 + 1 + 1 + 1 + 1 < w1.heap.size := by have := hg.size; simp at this; omega
    clear hg hA hmf hE hB
    go_wp2_with fail
    refine bodyPost_ret (v := .tuple #[.agg #[.int .i64 (moveV true v k), .int .i64 f, .int .u64 (n + 1)], .int .i64 0]) (by simp [results, Try.results23, go_sem, q0, q1, q2]) rfl ?_
    go_wp2_with fail
    refine bodyPost_ret (v := .tuple #[.agg #[.int .i64 (moveV true v k), .int .i64 f, .int .u64 (n + 1)], .int .i64 0]) (by simp [results, Try.results8, go_sem, p0, p1, p2]) rfl ?_
    exact ⟨by simp [chgV, moveV], by (repeat' (first | (with_reducible exact World.grownBy.refl _ _) | (with_reducible assumption) | (with_reducible refine galloc ?_ _) | (with_reducible refine gdrewN ?_ _) | (with_reducible refine gdrew ?_) | (with_reducible refine gset ?_ (.inl (by simp; try omega)) _)))⟩
  · have hE1 : (moveE true v f n k != 0) = true := by simpa using hE
    have C := fun W hAW => move_no (w.heap.size + 1 + 1 + 1 + 1 + 1) v f n 0 k true W hAW hB hE
    generalize hx : moveE true v f n k = x at *
    have C' := Lib.hid C
    clear C hx
    go_enter Try.func8, Try.ntmps8
    go_wp2_with (first | (go_at_call 23; go_in) | (go_at_call 24; go_in))
    refine (C'.out _ ⟨by go_simp, by go_simp, by go_simp, by go_simp, fun o => by go_simp⟩).mono ?_
    rintro e w1 ⟨rfl, hg⟩
    have p0 : w1.cell? ⟨w.heap.size + 1 + 1, 0, none⟩ = some (.int .i64 0) := hg.cell (by go_simp) (by simp)
    have pz0 : w1.frozen? ⟨w.heap.size + 1 + 1, 0, none⟩ = false := (gfroz hg (v := .int .i64 0) (by go_simp) (by simp)).trans (by go_simp)
    have p1 : w1.cell? ⟨w.heap.size + 1 + 1, 1, none⟩ = some (.int .i64 0) := hg.cell (by go_simp) (by simp)
    have pz1 : w1.frozen? ⟨w.heap.size + 1 + 1, 1, none⟩ = false := (gfroz hg (v := .int .i64 0) (by go_simp) (by simp)).trans (by go_simp)
    have p2 : w1.cell? ⟨w.heap.size + 1 + 1, 2, none⟩ = some (.int .u64 0) := hg.cell (by go_simp) (by simp)
    have pz2 : w1.frozen? ⟨w.heap.size + 1 + 1, 2, none⟩ = false := (gfroz hg (v := .int .u64 0) (by go_simp) (by simp)).trans (by go_simp)
    have q0 : w1.cell? ⟨w.heap.size + 1 + 1 + 1 + 1, 0, none⟩ = some (.int .i64 0) := hg.cell (by go_simp) (by simp)
    have qz0 : w1.frozen? ⟨w.heap.size + 1 + 1 + 1 + 1, 0, none⟩ = false := (gfroz hg (v := .int .i64 0) (by go_simp) (by simp)).trans (by go_simp)
    have q1 : w1.cell? ⟨w.heap.size + 1 + 1 + 1 + 1, 1, none⟩ = some (.int .i64 0) := hg.cell (by go_simp) (by simp)
    have qz1 : w1.frozen? ⟨w.heap.size + 1 + 1 + 1 + 1, 1, none⟩ = false := (gfroz hg (v := .int .i64 0) (by go_simp) (by simp)).trans (by go_simp)
    have q2 : w1.cell? ⟨w.heap.size + 1 + 1 + 1 + 1, 2, none⟩ = some (.int .u64 0) := hg.cell (by go_simp) (by simp)
    have qz2 : w1.frozen? ⟨w.heap.size + 1 + 1 + 1 + 1, 2, none⟩ = false := (gfroz hg (v := .int .u64 0) (by go_simp) (by simp)).trans (by go_simp)
    have hgw : w.grownBy w1 none := by refine gtrans ?_ hg; (repeat' (first | (with_reducible exact World.grownBy.refl _ _) | (with_reducible assumption) | (with_reducible refine galloc ?_ _) | (with_reducible refine gdrewN ?_ _) | (with_reducible refine gdrew ?_) | (with_reducible refine gset ?_ (.inl (by simp; try omega)) _)))
    have hs : w.heap.size + 1 + 1 + 1 + 1 + 1 < w1.heap.size := by have := hg.size; simp at this; omega
    clear hg hmf hB C'
    go_wp2_with fail
    refine bodyPost_ret (v := .tuple #[.agg #[.int .i64 0, .int .i64 0, .int .u64 0], .int .i64 x]) (by simp [results, Try.results23, go_sem, q0, q1, q2]) rfl ?_
    go_wp2_with fail
    refine bodyPost_ret (v := .tuple #[.agg #[.int .i64 0, .int .i64 0, .int .u64 0], .int .i64 x]) (by simp [results, Try.results8, go_sem, p0, p1, p2]) rfl ?_
    exact ⟨by simp [chgV, hE], by (repeat' (first | (with_reducible exact World.grownBy.refl _ _) | (with_reducible assumption) | (with_reducible refine galloc ?_ _) | (with_reducible refine gdrewN ?_ _) | (with_reducible refine gdrew ?_) | (with_reducible refine gset ?_ (.inl (by simp; try omega)) _)))⟩
set_option maxRecDepth 100000 in
set_option maxHeartbeats 2000000 in
theorem credit_neg (v f n k : Int) (w : World) (hB : Bd v f n) (hk : -9223372036854775808 ≤ k) (hk' : k ≤ 9223372036854775807) (hn : k < 0) :
    Calls Try.prog 9 #[.agg #[.int .i64 v, .int .i64 f, .int .u64 n], .int .i64 k] w fun e w' => e = .returned (chgV (moveE false v f n 0) (v) f (n + 1)) ∧ w.grownBy w' none := by
  have hmf : ∀ (fn : Fn) (first cap : Array Value) (w : World), (Instr.makeFunc fn first cap).run Try.prog w = .ok (.func fn first cap) w := fun _ _ _ _ => rfl
  by_cases hE : moveE false v f n 0 = 0
  · rw [hE]
    go_enter Try.func9, Try.ntmps9
    go_wp2_with (first | (go_at_call 23; go_in) | (go_at_call 26; go_in))
    refine (move_yes (w.heap.size + 1 + 1 + 1 + 1 + 1) v f n 0 0 false _ ⟨by go_simp, by go_simp, by go_simp, by go_simp, fun o => by go_simp⟩ hB (by omega) (by omega) (by omega) hE).mono ?_
    rintro e w1 ⟨rfl, hg, hA⟩
    have a0 := hA.c0
    have a1 := hA.c1
    have a2 := hA.c2
    have p0 : w1.cell? ⟨w.heap.size + 1 + 1, 0, none⟩ = some (.int .i64 0) := hg.cell (by go_simp) (by simp)
    have pz0 : w1.frozen? ⟨w.heap.size + 1 + 1, 0, none⟩ = false := (gfroz hg (v := .int .i64 0) (by go_simp) (by simp)).trans (by go_simp)
    have p1 : w1.cell? ⟨w.heap.size + 1 + 1, 1, none⟩ = some (.int .i64 0) := hg.cell (by go_simp) (by simp)
    have pz1 : w1.frozen? ⟨w.heap.size + 1 + 1, 1, none⟩ = false := (gfroz hg (v := .int .i64 0) (by go_simp) (by simp)).trans (by go_simp)
    have p2 : w1.cell? ⟨w.heap.size + 1 + 1, 2, none⟩ = some (.int .u64 0) := hg.cell (by go_simp) (by simp)
    have pz2 : w1.frozen? ⟨w.heap.size + 1 + 1, 2, none⟩ = false := (gfroz hg (v := .int .u64 0) (by go_simp) (by simp)).trans (by go_simp)
    have q0 : w1.cell? ⟨w.heap.size + 1 + 1 + 1 + 1, 0, none⟩ = some (.int .i64 0) := hg.cell (by go_simp) (by simp)
    have qz0 : w1.frozen? ⟨w.heap.size + 1 + 1 + 1 + 1, 0, none⟩ = false := (gfroz hg (v := .int .i64 0) (by go_simp) (by simp)).trans (by go_simp)
    have q1 : w1.cell? ⟨w.heap.size + 1 + 1 + 1 + 1, 1, none⟩ = some (.int .i64 0) := hg.cell (by go_simp) (by simp)
    have qz1 : w1.frozen? ⟨w.heap.size + 1 + 1 + 1 + 1, 1, none⟩ = false := (gfroz hg (v := .int .i64 0) (by go_simp) (by simp)).trans (by go_simp)
    have q2 : w1.cell? ⟨w.heap.size + 1 + 1 + 1 + 1, 2, none⟩ = some (.int .u64 0) := hg.cell (by go_simp) (by simp)
    have qz2 : w1.frozen? ⟨w.heap.size + 1 + 1 + 1 + 1, 2, none⟩ = false := (gfroz hg (v := .int .u64 0) (by go_simp) (by simp)).trans (by go_simp)
    have hgw : w.grownBy w1 none := gnew (by (repeat' (first | (with_reducible exact World.grownBy.refl _ _) | (with_reducible assumption) | (with_reducible refine galloc ?_ _) | (with_reducible refine gdrewN ?_ _) | (with_reducible refine gdrew ?_) | (with_reducible refine gset ?_ (.inl (by simp; try omega)) _)))) hg (by omega)
    have hs : w.heap.size + 1 + 1 + 1 + 1 + 1 < w1.heap.size := by have := hg.size; simp at this; omega
    clear hg hA hmf hE hB
    go_wp2_with fail
    refine bodyPost_ret (v := .tuple #[.agg #[.int .i64 (moveV false v 0), .int .i64 f, .int .u64 (n + 1)], .int .i64 0]) (by simp [results, Try.results23, go_sem, q0, q1, q2]) rfl ?_
    go_wp2_with fail
    refine bodyPost_ret (v := .tuple #[.agg #[.int .i64 (moveV false v 0), .int .i64 f, .int .u64 (n + 1)], .int .i64 0]) (by simp [results, Try.results9, go_sem, p0, p1, p2]) rfl ?_
    exact ⟨by simp [chgV, moveV], by (repeat' (first | (with_reducible exact World.grownBy.refl _ _) | (with_reducible assumption) | (with_reducible refine galloc ?_ _) | (with_reducible refine gdrewN ?_ _) | (with_reducible refine gdrew ?_) | (with_reducible refine gset ?_ (.inl (by simp; try omega)) _)))⟩
  · have hE1 : (moveE false v f n 0 != 0) = true := by simpa using hE
    have C := fun W hAW => move_no (w.heap.size + 1 + 1 + 1 + 1 + 1) v f n 0 0 false W hAW hB hE
    generalize hx : moveE false v f n 0 = x at *
    have C' := Lib.hid C
    clear C hx
    go_enter Try.func9, Try.ntmps9
    go_wp2_with (first | (go_at_call 23; go_in) | (go_at_call 26; go_in))
    refine (C'.out _ ⟨by go_simp, by go_simp, by go_simp, by go_simp, fun o => by go_simp⟩).mono ?_
    rintro e w1 ⟨rfl, hg⟩
    have p0 : w1.cell? ⟨w.heap.size + 1 + 1, 0, none⟩ = some (.int .i64 0) := hg.cell (by go_simp) (by simp)
    have pz0 : w1.frozen? ⟨w.heap.size + 1 + 1, 0, none⟩ = false := (gfroz hg (v := .int .i64 0) (by go_simp) (by simp)).trans (by go_simp)
    have p1 : w1.cell? ⟨w.heap.size + 1 + 1, 1, none⟩ = some (.int .i64 0) := hg.cell (by go_simp) (by simp)
    have pz1 : w1.frozen? ⟨w.heap.size + 1 + 1, 1, none⟩ = false := (gfroz hg (v := .int .i64 0) (by go_simp) (by simp)).trans (by go_simp)
    have p2 : w1.cell? ⟨w.heap.size + 1 + 1, 2, none⟩ = some (.int .u64 0) := hg.cell (by go_simp) (by simp)
    have pz2 : w1.frozen? ⟨w.heap.size + 1 + 1, 2, none⟩ = false := (gfroz hg (v := .int .u64 0) (by go_simp) (by simp)).trans (by go_simp)
    have q0 : w1.cell? ⟨w.heap.size + 1 + 1 + 1 + 1, 0, none⟩ = some (.int .i64 0) := hg.cell (by go_simp) (by simp)
    have qz0 : w1.frozen? ⟨w.heap.size + 1 + 1 + 1 + 1, 0, none⟩ = false := (gfroz hg (v := .int .i64 0) (by go_simp) (by simp)).trans (by go_simp)
    have q1 : w1.cell? ⟨w.heap.size + 1 + 1 + 1 + 1, 1, none⟩ = some (.int .i64 0) := hg.cell (by go_simp) (by simp)
    have qz1 : w1.frozen? ⟨w.heap.size + 1 + 1 + 1 + 1, 1, none⟩ = false := (gfroz hg (v := .int .i64 0) (by go_simp) (by simp)).trans (by go_simp)
    have q2 : w1.cell? ⟨w.heap.size + 1 + 1 + 1 + 1, 2, none⟩ = some (.int .u64 0) := hg.cell (by go_simp) (by simp)
    have qz2 : w1.frozen? ⟨w.heap.size + 1 + 1 + 1 + 1, 2, none⟩ = false := (gfroz hg (v := .int .u64 0) (by go_simp) (by simp)).trans (by go_simp)
    have hgw : w.grownBy w1 none := by refine gtrans ?_ hg; (repeat' (first | (with_reducible exact World.grownBy.refl _ _) | (with_reducible assumption) | (with_reducible refine galloc ?_ _) | (with_reducible refine gdrewN ?_ _) | (with_reducible refine gdrew ?_) | (with_reducible refine gset ?_ (.inl (by simp; try omega)) _)))
    have hs : w.heap.size + 1 + 1 + 1 + 1 + 1 < w1.heap.size := by have := hg.size; simp at this; omega
    clear hg hmf hB C'
    go_wp2_with fail
    refine bodyPost_ret (v := .tuple #[.agg #[.int .i64 0, .int .i64 0, .int .u64 0], .int .i64 x]) (by simp [results, Try.results23, go_sem, q0, q1, q2]) rfl ?_
    go_wp2_with fail
    refine bodyPost_ret (v := .tuple #[.agg #[.int .i64 0, .int .i64 0, .int .u64 0], .int .i64 x]) (by simp [results, Try.results9, go_sem, p0, p1, p2]) rfl ?_
    exact ⟨by simp [chgV, hE], by (repeat' (first | (with_reducible exact World.grownBy.refl _ _) | (with_reducible assumption) | (with_reducible refine galloc ?_ _) | (with_reducible refine gdrewN ?_ _) | (with_reducible refine gdrew ?_) | (with_reducible refine gset ?_ (.inl (by simp; try omega)) _)))⟩
set_option maxRecDepth 100000 in
set_option maxHeartbeats 2000000 in
theorem credit_pos (v f n k : Int) (w : World) (hB : Bd v f n) (hk : -9223372036854775808 ≤ k) (hk' : k ≤ 9223372036854775807) (hn : 0 ≤ k) :
    Calls Try.prog 9 #[.agg #[.int .i64 v, .int .i64 f, .int .u64 n], .int .i64 k] w fun e w' => e = .returned (chgV (moveE false v f n k) (v + k) f (n + 1)) ∧ w.grownBy w' none := by
  have hmf : ∀ (fn : Fn) (first cap : Array Value) (w : World), (Instr.makeFunc fn first cap).run Try.prog w = .ok (.func fn first cap) w := fun _ _ _ _ => rfl
  by_cases hE : moveE false v f n k = 0
  · rw [hE]
    go_enter Try.func9, Try.ntmps9
    go_wp2_with (first | (go_at_call 23; go_in) | (go_at_call 26; go_in))
    refine (move_yes (w.heap.size + 1 + 1 + 1 + 1 + 1) v f n 0 k false _ ⟨by go_simp, by go_simp, by go_simp, by go_simp, fun o => by go_simp⟩ hB hn (by omega) (by omega) hE).mono ?_
    rintro e w1 ⟨rfl, hg, hA⟩
    have a0 := hA.c0
    have a1 := hA.c1
    have a2 := hA.c2
    have p0 : w1.cell? ⟨w.heap.size + 1 + 1, 0, none⟩ = some (.int .i64 0) := hg.cell (by go_simp) (by simp)
    have pz0 : w1.frozen? ⟨w.heap.size + 1 + 1, 0, none⟩ = false := (gfroz hg (v := .int .i64 0) (by go_simp) (by simp)).trans (by go_simp)
    have p1 : w1.cell? ⟨w.heap.size + 1 + 1, 1, none⟩ = some (.int .i64 0) := hg.cell (by go_simp) (by simp)
    have pz1 : w1.frozen? ⟨w.heap.size + 1 + 1, 1, none⟩ = false := (gfroz hg (v := .int .i64 0) (by go_simp) (by simp)).trans (by go_simp)
    have p2 : w1.cell? ⟨w.heap.size + 1 + 1, 2, none⟩ = some (.int .u64 0) := hg.cell (by go_simp) (by simp)
    have pz2 : w1.frozen? ⟨w.heap.size + 1 + 1, 2, none⟩ = false := (gfroz hg (v := .int .u64 0) (by go_simp) (by simp)).trans (by go_simp)
    have q0 : w1.cell? ⟨w.heap.size + 1 + 1 + 1 + 1, 0, none⟩ = some (.int .i64 0) := hg.cell (by go_simp) (by simp)
    have qz0 : w1.frozen? ⟨w.heap.size + 1 + 1 + 1 + 1, 0, none⟩ = false := (gfroz hg (v := .int .i64 0) (by go_simp) (by simp)).trans (by go_simp)
    have q1 : w1.cell? ⟨w.heap.size + 1 + 1 + 1 + 1, 1, none⟩ = some (.int .i64 0) := hg.cell (by go_simp) (by simp)
    have qz1 : w1.frozen? ⟨w.heap.size + 1 + 1 + 1 + 1, 1, none⟩ = false := (gfroz hg (v := .int .i64 0) (by go_simp) (by simp)).trans (by go_simp)
    have q2 : w1.cell? ⟨w.heap.size + 1 + 1 + 1 + 1, 2, none⟩ = some (.int .u64 0) := hg.cell (by go_simp) (by simp)
    have qz2 : w1.frozen? ⟨w.heap.size + 1 + 1 + 1 + 1, 2, none⟩ = false := (gfroz hg (v := .int .u64 0) (by go_simp) (by simp)).trans (by go_simp)
    have hgw : w.grownBy w1 none := gnew (by (repeat' (first | (with_reducible exact World.grownBy.refl _ _) | (with_reducible assumption) | (with_reducible refine galloc ?_ _) | (with_reducible refine gdrewN ?_ _) | (with_reducible refine gdrew ?_) | (with_reducible refine gset ?_ (.inl (by simp; try omega)) _)))) hg (by omega)
    have hs : w.heap.size + 1 + 1 + 1 + 1 + 1 < w1.heap.size := by have := hg.size; simp at this; omega
    clear hg hA hmf hE hB
    go_wp2_with fail
    refine bodyPost_ret (v := .tuple #[.agg #[.int .i64 (moveV false v k), .int .i64 f, .int .u64 (n + 1)], .int .i64 0]) (by simp [results, Try.results23, go_sem, q0, q1, q2]) rfl ?_
    go_wp2_with fail
    refine bodyPost_ret (v := .tuple #[.agg #[.int .i64 (moveV false v k), .int .i64 f, .int .u64 (n + 1)], .int .i64 0]) (by simp [results, Try.results9, go_sem, p0, p1, p2]) rfl ?_
    exact ⟨by simp [chgV, moveV], by (repeat' (first | (with_reducible exact World.grownBy.refl _ _) | (with_reducible assumption) | (with_reducible refine galloc ?_ _) | (with_reducible refine gdrewN ?_ _) | (with_reducible refine gdrew ?_) | (with_reducible refine gset ?_ (.inl (by simp; try omega)) _)))⟩
  · have hE1 : (moveE false v f n k != 0) = true := by simpa using hE
    have C := fun W hAW => move_no (w.heap.size + 1 + 1 + 1 + 1 + 1) v f n 0 k false W hAW hB hE
    generalize hx : moveE false v f n k = x at *
    have C' := Lib.hid C
    clear C hx
    go_enter Try.func9, Try.ntmps9
    go_wp2_with (first | (go_at_call 23; go_in) | (go_at_call 26; go_in))
    refine (C'.out _ ⟨by go_simp, by go_simp, by go_simp, by go_simp, fun o => by go_simp⟩).mono ?_
    rintro e w1 ⟨rfl, hg⟩
    have p0 : w1.cell? ⟨w.heap.size + 1 + 1, 0, none⟩ = some (.int .i64 0) := hg.cell (by go_simp) (by simp)
    have pz0 : w1.frozen? ⟨w.heap.size + 1 + 1, 0, none⟩ = false := (gfroz hg (v := .int .i64 0) (by go_simp) (by simp)).trans (by go_simp)
    have p1 : w1.cell? ⟨w.heap.size + 1 + 1, 1, none⟩ = some (.int .i64 0) := hg.cell (by go_simp) (by simp)
    have pz1 : w1.frozen? ⟨w.heap.size + 1 + 1, 1, none⟩ = false := (gfroz hg (v := .int .i64 0) (by go_simp) (by simp)).trans (by go_simp)
    have p2 : w1.cell? ⟨w.heap.size + 1 + 1, 2, none⟩ = some (.int .u64 0) := hg.cell (by go_simp) (by simp)
    have pz2 : w1.frozen? ⟨w.heap.size + 1 + 1, 2, none⟩ = false := (gfroz hg (v := .int .u64 0) (by go_simp) (by simp)).trans (by go_simp)
    have q0 : w1.cell? ⟨w.heap.size + 1 + 1 + 1 + 1, 0, none⟩ = some (.int .i64 0) := hg.cell (by go_simp) (by simp)
    have qz0 : w1.frozen? ⟨w.heap.size + 1 + 1 + 1 + 1, 0, none⟩ = false := (gfroz hg (v := .int .i64 0) (by go_simp) (by simp)).trans (by go_simp)
    have q1 : w1.cell? ⟨w.heap.size + 1 + 1 + 1 + 1, 1, none⟩ = some (.int .i64 0) := hg.cell (by go_simp) (by simp)
    have qz1 : w1.frozen? ⟨w.heap.size + 1 + 1 + 1 + 1, 1, none⟩ = false := (gfroz hg (v := .int .i64 0) (by go_simp) (by simp)).trans (by go_simp)
    have q2 : w1.cell? ⟨w.heap.size + 1 + 1 + 1 + 1, 2, none⟩ = some (.int .u64 0) := hg.cell (by go_simp) (by simp)
    have qz2 : w1.frozen? ⟨w.heap.size + 1 + 1 + 1 + 1, 2, none⟩ = false := (gfroz hg (v := .int .u64 0) (by go_simp) (by simp)).trans (by go_simp)
    have hgw : w.grownBy w1 none := by refine gtrans ?_ hg; (repeat' (first | (with_reducible exact World.grownBy.refl _ _) | (with_reducible assumption) | (with_reducible refine galloc ?_ _) | (with_reducible refine gdrewN ?_ _) | (with_reducible refine gdrew ?_) | (with_reducible refine gset ?_ (.inl (by simp; try omega)) _)))
    have hs : w.heap.size + 1 + 1 + 1 + 1 + 1 < w1.heap.size := by have := hg.size; simp at this; omega
    clear hg hmf hB C'
    go_wp2_with fail
    refine bodyPost_ret (v := .tuple #[.agg #[.int .i64 0, .int .i64 0, .int .u64 0], .int .i64 x]) (by simp [results, Try.results23, go_sem, q0, q1, q2]) rfl ?_
    go_wp2_with fail
    refine bodyPost_ret (v := .tuple #[.agg #[.int .i64 0, .int .i64 0, .int .u64 0], .int .i64 x]) (by simp [results, Try.results9, go_sem, p0, p1, p2]) rfl ?_
    exact ⟨by simp [chgV, hE], by (repeat' (first | (with_reducible exact World.grownBy.refl _ _) | (with_reducible assumption) | (with_reducible refine galloc ?_ _) | (with_reducible refine gdrewN ?_ _) | (with_reducible refine gdrew ?_) | (with_reducible refine gset ?_ (.inl (by simp; try omega)) _)))⟩
set_option maxRecDepth 100000 in
set_option maxHeartbeats 2000000 in
theorem change_any (v f n k : Int) (w : World) (hB : Bd v f n) (hk : -9223372036854775808 ≤ k) (hk' : k ≤ 9223372036854775807) :
    Calls Try.prog 10 #[.agg #[.int .i64 v, .int .i64 f, .int .u64 n], .int .i64 k] w fun e w' => e = .returned (chgV (chE v f n k) (v + k) f (n + 1)) ∧ w.grownBy w' none := by
  have hmf : ∀ (fn : Fn) (first cap : Array Value) (w : World), (Instr.makeFunc fn first cap).run Try.prog w = .ok (.func fn first cap) w := fun _ _ _ _ => rfl
  by_cases hE : chE v f n k = 0
  · rw [hE]
    go_enter Try.func10, Try.ntmps10
    go_wp2_with (first | (go_at_call 23; go_in) | (go_at_call 27; go_in))
    refine (change_yes (w.heap.size + 1 + 1 + 1 + 1 + 1) v f n 0 k _ ⟨by go_simp, by go_simp, by go_simp, by go_simp, fun o => by go_simp⟩ hB hk hk' (by omega) (by omega) hE).mono ?_
    rintro e w1 ⟨rfl, hg, hA⟩
    have a0 := hA.c0
    have a1 := hA.c1
    have a2 := hA.c2
    have p0 : w1.cell? ⟨w.heap.size + 1 + 1, 0, none⟩ = some (.int .i64 0) := hg.cell (by go_simp) (by simp)
    have pz0 : w1.frozen? ⟨w.heap.size + 1 + 1, 0, none⟩ = false := (gfroz hg (v := .int .i64 0) (by go_simp) (by simp)).trans (by go_simp)
    have p1 : w1.cell? ⟨w.heap.size + 1 + 1, 1, none⟩ = some (.int .i64 0) := hg.cell (by go_simp) (by simp)
    have pz1 : w1.frozen? ⟨w.heap.size + 1 + 1, 1, none⟩ = false := (gfroz hg (v := .int .i64 0) (by go_simp) (by simp)).trans (by go_simp)
    have p2 : w1.cell? ⟨w.heap.size + 1 + 1, 2, none⟩ = some (.int .u64 0) := hg.cell (by go_simp) (by simp)
    have pz2 : w1.frozen? ⟨w.heap.size + 1 + 1, 2, none⟩ = false := (gfroz hg (v := .int .u64 0) (by go_simp) (by simp)).trans (by go_simp)
    have q0 : w1.cell? ⟨w.heap.size + 1 + 1 + 1 + 1, 0, none⟩ = some (.int .i64 0) := hg.cell (by go_simp) (by simp)
    have qz0 : w1.frozen? ⟨w.heap.size + 1 + 1 + 1 + 1, 0, none⟩ = false := (gfroz hg (v := .int .i64 0) (by go_simp) (by simp)).trans (by go_simp)
    have q1 : w1.cell? ⟨w.heap.size + 1 + 1 + 1 + 1, 1, none⟩ = some (.int .i64 0) := hg.cell (by go_simp) (by simp)
    have qz1 : w1.frozen? ⟨w.heap.size + 1 + 1 + 1 + 1, 1, none⟩ = false := (gfroz hg (v := .int .i64 0) (by go_simp) (by simp)).trans (by go_simp)
    have q2 : w1.cell? ⟨w.heap.size + 1 + 1 + 1 + 1, 2, none⟩ = some (.int .u64 0) := hg.cell (by go_simp) (by simp)
    have qz2 : w1.frozen? ⟨w.heap.size + 1 + 1 + 1 + 1, 2, none⟩ = false := (gfroz hg (v := .int .u64 0) (by go_simp) (by simp)).trans (by go_simp)
    have hgw : w.grownBy w1 none := gnew (by (repeat' (first | (with_reducible exact World.grownBy.refl _ _) | (with_reducible assumption) | (with_reducible refine galloc ?_ _) | (with_reducible refine gdrewN ?_ _) | (with_reducible refine gdrew ?_) | (with_reducible refine gset ?_ (.inl (by simp; try omega)) _)))) hg (by omega)
    have hs : w.heap.size + 1 + 1 + 1 + 1 + 1 < w1.heap.size := by have := hg.size; simp at this; omega
    clear hg hA hmf hE hB
    go_wp2_with fail
    refine bodyPost_ret (v := .tuple #[.agg #[.int .i64 (v + k), .int .i64 f, .int .u64 (n + 1)], .int .i64 0]) (by simp [results, Try.results23, go_sem, q0, q1, q2]) rfl ?_
    go_wp2_with fail
    refine bodyPost_ret (v := .tuple #[.agg #[.int .i64 (v + k), .int .i64 f, .int .u64 (n + 1)], .int .i64 0]) (by simp [results, Try.results10, go_sem, p0, p1, p2]) rfl ?_
    exact ⟨by simp [chgV, moveV], by (repeat' (first | (with_reducible exact World.grownBy.refl _ _) | (with_reducible assumption) | (with_reducible refine galloc ?_ _) | (with_reducible refine gdrewN ?_ _) | (with_reducible refine gdrew ?_) | (with_reducible refine gset ?_ (.inl (by simp; try omega)) _)))⟩
  · have hE1 : (chE v f n k != 0) = true := by simpa using hE
    have C := fun W hAW => change_no (w.heap.size + 1 + 1 + 1 + 1 + 1) v f n 0 k W hAW hB hk hk' hE
    generalize hx : chE v f n k = x at *
    have C' := Lib.hid C
    clear C hx
    go_enter Try.func10, Try.ntmps10
    go_wp2_with (first | (go_at_call 23; go_in) | (go_at_call 27; go_in))
    refine (C'.out _ ⟨by go_simp, by go_simp, by go_simp, by go_simp, fun o => by go_simp⟩).mono ?_
    rintro e w1 ⟨rfl, hg⟩
    have p0 : w1.cell? ⟨w.heap.size + 1 + 1, 0, none⟩ = some (.int .i64 0) := hg.cell (by go_simp) (by simp)
    have pz0 : w1.frozen? ⟨w.heap.size + 1 + 1, 0, none⟩ = false := (gfroz hg (v := .int .i64 0) (by go_simp) (by simp)).trans (by go_simp)
    have p1 : w1.cell? ⟨w.heap.size + 1 + 1, 1, none⟩ = some (.int .i64 0) := hg.cell (by go_simp) (by simp)
    have pz1 : w1.frozen? ⟨w.heap.size + 1 + 1, 1, none⟩ = false := (gfroz hg (v := .int .i64 0) (by go_simp) (by simp)).trans (by go_simp)
    have p2 : w1.cell? ⟨w.heap.size + 1 + 1, 2, none⟩ = some (.int .u64 0) := hg.cell (by go_simp) (by simp)
    have pz2 : w1.frozen? ⟨w.heap.size + 1 + 1, 2, none⟩ = false := (gfroz hg (v := .int .u64 0) (by go_simp) (by simp)).trans (by go_simp)
    have q0 : w1.cell? ⟨w.heap.size + 1 + 1 + 1 + 1, 0, none⟩ = some (.int .i64 0) := hg.cell (by go_simp) (by simp)
    have qz0 : w1.frozen? ⟨w.heap.size + 1 + 1 + 1 + 1, 0, none⟩ = false := (gfroz hg (v := .int .i64 0) (by go_simp) (by simp)).trans (by go_simp)
    have q1 : w1.cell? ⟨w.heap.size + 1 + 1 + 1 + 1, 1, none⟩ = some (.int .i64 0) := hg.cell (by go_simp) (by simp)
    have qz1 : w1.frozen? ⟨w.heap.size + 1 + 1 + 1 + 1, 1, none⟩ = false := (gfroz hg (v := .int .i64 0) (by go_simp) (by simp)).trans (by go_simp)
    have q2 : w1.cell? ⟨w.heap.size + 1 + 1 + 1 + 1, 2, none⟩ = some (.int .u64 0) := hg.cell (by go_simp) (by simp)
    have qz2 : w1.frozen? ⟨w.heap.size + 1 + 1 + 1 + 1, 2, none⟩ = false := (gfroz hg (v := .int .u64 0) (by go_simp) (by simp)).trans (by go_simp)
    have hgw : w.grownBy w1 none := by refine gtrans ?_ hg; (repeat' (first | (with_reducible exact World.grownBy.refl _ _) | (with_reducible assumption) | (with_reducible refine galloc ?_ _) | (with_reducible refine gdrewN ?_ _) | (with_reducible refine gdrew ?_) | (with_reducible refine gset ?_ (.inl (by simp; try omega)) _)))
    have hs : w.heap.size + 1 + 1 + 1 + 1 + 1 < w1.heap.size := by have := hg.size; simp at this; omega
    clear hg hmf hB C'
    go_wp2_with fail
    refine bodyPost_ret (v := .tuple #[.agg #[.int .i64 0, .int .i64 0, .int .u64 0], .int .i64 x]) (by simp [results, Try.results23, go_sem, q0, q1, q2]) rfl ?_
    go_wp2_with fail
    refine bodyPost_ret (v := .tuple #[.agg #[.int .i64 0, .int .i64 0, .int .u64 0], .int .i64 x]) (by simp [results, Try.results10, go_sem, p0, p1, p2]) rfl ?_
    exact ⟨by simp [chgV, hE], by (repeat' (first | (with_reducible exact World.grownBy.refl _ _) | (with_reducible assumption) | (with_reducible refine galloc ?_ _) | (with_reducible refine gdrewN ?_ _) | (with_reducible refine gdrew ?_) | (with_reducible refine gset ?_ (.inl (by simp; try omega)) _)))⟩
end Go.Proofs.Ytgcejfcfaaidhaa
