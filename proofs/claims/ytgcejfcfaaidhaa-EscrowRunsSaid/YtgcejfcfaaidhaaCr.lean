/- The reference's Debit, Credit and Change, and Check, answer what moveE names, for every counter in its bounds. -/
import Derived.Test.YtgcejfcfaaidhaaSp
import Derived.Test.YtgcejfcfaaidhaaHo
set_option linter.unusedSimpArgs false
set_option linter.unusedVariables false
namespace Go.Proofs.Ytgcejfcfaaidhaa.refs
open Go.RowKit

set_option maxRecDepth 100000 in
set_option maxHeartbeats 2000000 in
theorem deb_low (v f n m : Int) (w : World) (hB : Bd v f n) (h : f ≤ v) (c : v - f < m) : Calls Try.prog 29 #[.agg #[.int .i64 v, .int .i64 f, .int .u64 n], .int .u64 m] w fun e w' => e = .returned (.tuple #[.agg #[.int .i64 0, .int .i64 0, .int .u64 0], .int .i64 140]) ∧ w.grownBy w' none := by
  have T := fun W => spares.refSpare v f n W hB h
  have T' := Lib.hid T
  clear T
  obtain ⟨b0, b1, b2, b3, b4, b5⟩ := hB
  go_enter Try.func29, Try.ntmps29
  go_wp2_with fail
  refine (T'.out _).mono ?_
  rintro e w1 ⟨rfl, hg⟩
  have c0 : w1.cell? ⟨w.heap.size, 0, none⟩ = some (.int .i64 v) := hg.cell (by go_simp) (by simp)
  have cz0 : w1.frozen? ⟨w.heap.size, 0, none⟩ = false := (gfroz hg (v := .int .i64 v) (by go_simp) (by simp)).trans (by go_simp)
  have c1 : w1.cell? ⟨w.heap.size, 1, none⟩ = some (.int .i64 f) := hg.cell (by go_simp) (by simp)
  have cz1 : w1.frozen? ⟨w.heap.size, 1, none⟩ = false := (gfroz hg (v := .int .i64 f) (by go_simp) (by simp)).trans (by go_simp)
  have c2 : w1.cell? ⟨w.heap.size, 2, none⟩ = some (.int .u64 n) := hg.cell (by go_simp) (by simp)
  have cz2 : w1.frozen? ⟨w.heap.size, 2, none⟩ = false := (gfroz hg (v := .int .u64 n) (by go_simp) (by simp)).trans (by go_simp)
  have p0 : w1.cell? ⟨w.heap.size + 1, 0, none⟩ = some (.int .i64 0) := hg.cell (by go_simp) (by simp)
  have pz0 : w1.frozen? ⟨w.heap.size + 1, 0, none⟩ = false := (gfroz hg (v := .int .i64 0) (by go_simp) (by simp)).trans (by go_simp)
  have p1 : w1.cell? ⟨w.heap.size + 1, 1, none⟩ = some (.int .i64 0) := hg.cell (by go_simp) (by simp)
  have pz1 : w1.frozen? ⟨w.heap.size + 1, 1, none⟩ = false := (gfroz hg (v := .int .i64 0) (by go_simp) (by simp)).trans (by go_simp)
  have p2 : w1.cell? ⟨w.heap.size + 1, 2, none⟩ = some (.int .u64 0) := hg.cell (by go_simp) (by simp)
  have pz2 : w1.frozen? ⟨w.heap.size + 1, 2, none⟩ = false := (gfroz hg (v := .int .u64 0) (by go_simp) (by simp)).trans (by go_simp)
  have hgw : w.grownBy w1 none := by refine gtrans ?_ hg; (repeat' (first | (with_reducible exact World.grownBy.refl _ _) | (with_reducible assumption) | (with_reducible refine galloc ?_ _) | (with_reducible refine gdrewN ?_ _) | (with_reducible refine gdrew ?_) | (with_reducible refine gset ?_ (.inl (by simp; try omega)) _)))
  have hs : w.heap.size + 1 < w1.heap.size := by have := hg.size; (try simp at this); omega
  clear hg T'
  go_wp2_with fail
  refine bodyPost_ret (v := .tuple #[.agg #[.int .i64 0, .int .i64 0, .int .u64 0], .int .i64 140]) (by simp [results, Try.results29, go_sem, p0, p1, p2]) rfl ?_
  exact ⟨rfl, by (repeat' (first | (with_reducible exact World.grownBy.refl _ _) | (with_reducible assumption) | (with_reducible refine galloc ?_ _) | (with_reducible refine gdrewN ?_ _) | (with_reducible refine gdrew ?_) | (with_reducible refine gset ?_ (.inl (by simp; try omega)) _)))⟩

set_option maxRecDepth 100000 in
set_option maxHeartbeats 2000000 in
theorem deb_spent (v f m : Int) (w : World) (hB : Bd v f 4611686018427387904) (h : f ≤ v) (c : m ≤ v - f) : Calls Try.prog 29 #[.agg #[.int .i64 v, .int .i64 f, .int .u64 4611686018427387904], .int .u64 m] w fun e w' => e = .returned (.tuple #[.agg #[.int .i64 0, .int .i64 0, .int .u64 0], .int .i64 142]) ∧ w.grownBy w' none := by
  have T := fun W => spares.refSpare v f 4611686018427387904 W hB h
  have T' := Lib.hid T
  clear T
  obtain ⟨b0, b1, b2, b3, b4, b5⟩ := hB
  go_enter Try.func29, Try.ntmps29
  go_wp2_with fail
  refine (T'.out _).mono ?_
  rintro e w1 ⟨rfl, hg⟩
  have c0 : w1.cell? ⟨w.heap.size, 0, none⟩ = some (.int .i64 v) := hg.cell (by go_simp) (by simp)
  have cz0 : w1.frozen? ⟨w.heap.size, 0, none⟩ = false := (gfroz hg (v := .int .i64 v) (by go_simp) (by simp)).trans (by go_simp)
  have c1 : w1.cell? ⟨w.heap.size, 1, none⟩ = some (.int .i64 f) := hg.cell (by go_simp) (by simp)
  have cz1 : w1.frozen? ⟨w.heap.size, 1, none⟩ = false := (gfroz hg (v := .int .i64 f) (by go_simp) (by simp)).trans (by go_simp)
  have c2 : w1.cell? ⟨w.heap.size, 2, none⟩ = some (.int .u64 4611686018427387904) := hg.cell (by go_simp) (by simp)
  have cz2 : w1.frozen? ⟨w.heap.size, 2, none⟩ = false := (gfroz hg (v := .int .u64 4611686018427387904) (by go_simp) (by simp)).trans (by go_simp)
  have p0 : w1.cell? ⟨w.heap.size + 1, 0, none⟩ = some (.int .i64 0) := hg.cell (by go_simp) (by simp)
  have pz0 : w1.frozen? ⟨w.heap.size + 1, 0, none⟩ = false := (gfroz hg (v := .int .i64 0) (by go_simp) (by simp)).trans (by go_simp)
  have p1 : w1.cell? ⟨w.heap.size + 1, 1, none⟩ = some (.int .i64 0) := hg.cell (by go_simp) (by simp)
  have pz1 : w1.frozen? ⟨w.heap.size + 1, 1, none⟩ = false := (gfroz hg (v := .int .i64 0) (by go_simp) (by simp)).trans (by go_simp)
  have p2 : w1.cell? ⟨w.heap.size + 1, 2, none⟩ = some (.int .u64 0) := hg.cell (by go_simp) (by simp)
  have pz2 : w1.frozen? ⟨w.heap.size + 1, 2, none⟩ = false := (gfroz hg (v := .int .u64 0) (by go_simp) (by simp)).trans (by go_simp)
  have hgw : w.grownBy w1 none := by refine gtrans ?_ hg; (repeat' (first | (with_reducible exact World.grownBy.refl _ _) | (with_reducible assumption) | (with_reducible refine galloc ?_ _) | (with_reducible refine gdrewN ?_ _) | (with_reducible refine gdrew ?_) | (with_reducible refine gset ?_ (.inl (by simp; try omega)) _)))
  have hs : w.heap.size + 1 < w1.heap.size := by have := hg.size; (try simp at this); omega
  clear hg T'
  go_wp2_with fail
  refine bodyPost_ret (v := .tuple #[.agg #[.int .i64 0, .int .i64 0, .int .u64 0], .int .i64 142]) (by simp [results, Try.results29, go_sem, p0, p1, p2]) rfl ?_
  exact ⟨rfl, by (repeat' (first | (with_reducible exact World.grownBy.refl _ _) | (with_reducible assumption) | (with_reducible refine galloc ?_ _) | (with_reducible refine gdrewN ?_ _) | (with_reducible refine gdrew ?_) | (with_reducible refine gset ?_ (.inl (by simp; try omega)) _)))⟩

set_option maxRecDepth 100000 in
set_option maxHeartbeats 2000000 in
theorem deb_ok (v f n m : Int) (w : World) (hB : Bd v f n) (h : f ≤ v) (c : m ≤ v - f) (hm0 : 0 < m) (hm : m ≤ 9223372036854775807) (hn : n ≠ 4611686018427387904) (hn' : n ≤ 4611686018427387904) : Calls Try.prog 29 #[.agg #[.int .i64 v, .int .i64 f, .int .u64 n], .int .u64 m] w fun e w' => e = .returned (.tuple #[.agg #[.int .i64 (v - m), .int .i64 f, .int .u64 (n + 1)], .int .i64 0]) ∧ w.grownBy w' none := by
  have T := fun W => spares.refSpare v f n W hB h
  have T' := Lib.hid T
  clear T
  obtain ⟨b0, b1, b2, b3, b4, b5⟩ := hB
  go_enter Try.func29, Try.ntmps29
  go_wp2_with fail
  refine (T'.out _).mono ?_
  rintro e w1 ⟨rfl, hg⟩
  have c0 : w1.cell? ⟨w.heap.size, 0, none⟩ = some (.int .i64 v) := hg.cell (by go_simp) (by simp)
  have cz0 : w1.frozen? ⟨w.heap.size, 0, none⟩ = false := (gfroz hg (v := .int .i64 v) (by go_simp) (by simp)).trans (by go_simp)
  have c1 : w1.cell? ⟨w.heap.size, 1, none⟩ = some (.int .i64 f) := hg.cell (by go_simp) (by simp)
  have cz1 : w1.frozen? ⟨w.heap.size, 1, none⟩ = false := (gfroz hg (v := .int .i64 f) (by go_simp) (by simp)).trans (by go_simp)
  have c2 : w1.cell? ⟨w.heap.size, 2, none⟩ = some (.int .u64 n) := hg.cell (by go_simp) (by simp)
  have cz2 : w1.frozen? ⟨w.heap.size, 2, none⟩ = false := (gfroz hg (v := .int .u64 n) (by go_simp) (by simp)).trans (by go_simp)
  have p0 : w1.cell? ⟨w.heap.size + 1, 0, none⟩ = some (.int .i64 0) := hg.cell (by go_simp) (by simp)
  have pz0 : w1.frozen? ⟨w.heap.size + 1, 0, none⟩ = false := (gfroz hg (v := .int .i64 0) (by go_simp) (by simp)).trans (by go_simp)
  have p1 : w1.cell? ⟨w.heap.size + 1, 1, none⟩ = some (.int .i64 0) := hg.cell (by go_simp) (by simp)
  have pz1 : w1.frozen? ⟨w.heap.size + 1, 1, none⟩ = false := (gfroz hg (v := .int .i64 0) (by go_simp) (by simp)).trans (by go_simp)
  have p2 : w1.cell? ⟨w.heap.size + 1, 2, none⟩ = some (.int .u64 0) := hg.cell (by go_simp) (by simp)
  have pz2 : w1.frozen? ⟨w.heap.size + 1, 2, none⟩ = false := (gfroz hg (v := .int .u64 0) (by go_simp) (by simp)).trans (by go_simp)
  have hgw : w.grownBy w1 none := by refine gtrans ?_ hg; (repeat' (first | (with_reducible exact World.grownBy.refl _ _) | (with_reducible assumption) | (with_reducible refine galloc ?_ _) | (with_reducible refine gdrewN ?_ _) | (with_reducible refine gdrew ?_) | (with_reducible refine gset ?_ (.inl (by simp; try omega)) _)))
  have hs : w.heap.size + 1 < w1.heap.size := by have := hg.size; (try simp at this); omega
  clear hg T'
  go_wp2_with fail
  refine wp_loop_rounds 2 ?_
  rw [rounds_succ]
  go_wp2_with fail
  refine bodyPost_ret (v := .tuple #[.agg #[.int .i64 (v - m), .int .i64 f, .int .u64 (n + 1)], .int .i64 0]) (by simp [results, Try.results29, go_sem, p0, p1, p2]) rfl ?_
  exact ⟨rfl, by (repeat' (first | (with_reducible exact World.grownBy.refl _ _) | (with_reducible assumption) | (with_reducible refine galloc ?_ _) | (with_reducible refine gdrewN ?_ _) | (with_reducible refine gdrew ?_) | (with_reducible refine gset ?_ (.inl (by simp; try omega)) _)))⟩

set_option maxRecDepth 100000 in
set_option maxHeartbeats 2000000 in
theorem deb_big (v f n : Int) (w : World) (hB : Bd v f n) (h : f ≤ v) (c : 9223372036854775808 ≤ v - f) (hn : n ≠ 4611686018427387904) (hn' : n ≤ 4611686018427387904) : Calls Try.prog 29 #[.agg #[.int .i64 v, .int .i64 f, .int .u64 n], .int .u64 9223372036854775808] w fun e w' => e = .returned (.tuple #[.agg #[.int .i64 (v - 9223372036854775807 - 1), .int .i64 f, .int .u64 (n + 1)], .int .i64 0]) ∧ w.grownBy w' none := by
  have T := fun W => spares.refSpare v f n W hB h
  have T' := Lib.hid T
  clear T
  obtain ⟨b0, b1, b2, b3, b4, b5⟩ := hB
  go_enter Try.func29, Try.ntmps29
  go_wp2_with fail
  refine (T'.out _).mono ?_
  rintro e w1 ⟨rfl, hg⟩
  have c0 : w1.cell? ⟨w.heap.size, 0, none⟩ = some (.int .i64 v) := hg.cell (by go_simp) (by simp)
  have cz0 : w1.frozen? ⟨w.heap.size, 0, none⟩ = false := (gfroz hg (v := .int .i64 v) (by go_simp) (by simp)).trans (by go_simp)
  have c1 : w1.cell? ⟨w.heap.size, 1, none⟩ = some (.int .i64 f) := hg.cell (by go_simp) (by simp)
  have cz1 : w1.frozen? ⟨w.heap.size, 1, none⟩ = false := (gfroz hg (v := .int .i64 f) (by go_simp) (by simp)).trans (by go_simp)
  have c2 : w1.cell? ⟨w.heap.size, 2, none⟩ = some (.int .u64 n) := hg.cell (by go_simp) (by simp)
  have cz2 : w1.frozen? ⟨w.heap.size, 2, none⟩ = false := (gfroz hg (v := .int .u64 n) (by go_simp) (by simp)).trans (by go_simp)
  have p0 : w1.cell? ⟨w.heap.size + 1, 0, none⟩ = some (.int .i64 0) := hg.cell (by go_simp) (by simp)
  have pz0 : w1.frozen? ⟨w.heap.size + 1, 0, none⟩ = false := (gfroz hg (v := .int .i64 0) (by go_simp) (by simp)).trans (by go_simp)
  have p1 : w1.cell? ⟨w.heap.size + 1, 1, none⟩ = some (.int .i64 0) := hg.cell (by go_simp) (by simp)
  have pz1 : w1.frozen? ⟨w.heap.size + 1, 1, none⟩ = false := (gfroz hg (v := .int .i64 0) (by go_simp) (by simp)).trans (by go_simp)
  have p2 : w1.cell? ⟨w.heap.size + 1, 2, none⟩ = some (.int .u64 0) := hg.cell (by go_simp) (by simp)
  have pz2 : w1.frozen? ⟨w.heap.size + 1, 2, none⟩ = false := (gfroz hg (v := .int .u64 0) (by go_simp) (by simp)).trans (by go_simp)
  have hgw : w.grownBy w1 none := by refine gtrans ?_ hg; (repeat' (first | (with_reducible exact World.grownBy.refl _ _) | (with_reducible assumption) | (with_reducible refine galloc ?_ _) | (with_reducible refine gdrewN ?_ _) | (with_reducible refine gdrew ?_) | (with_reducible refine gset ?_ (.inl (by simp; try omega)) _)))
  have hs : w.heap.size + 1 < w1.heap.size := by have := hg.size; (try simp at this); omega
  clear hg T'
  go_wp2_with fail
  refine wp_loop_rounds 3 ?_
  rw [rounds_succ]
  go_wp2_with fail
  rw [rounds_succ]
  go_wp2_with fail
  refine bodyPost_ret (v := .tuple #[.agg #[.int .i64 (v - 9223372036854775807 - 1), .int .i64 f, .int .u64 (n + 1)], .int .i64 0]) (by simp [results, Try.results29, go_sem, p0, p1, p2]) rfl ?_
  exact ⟨rfl, by (repeat' (first | (with_reducible exact World.grownBy.refl _ _) | (with_reducible assumption) | (with_reducible refine galloc ?_ _) | (with_reducible refine gdrewN ?_ _) | (with_reducible refine gdrew ?_) | (with_reducible refine gset ?_ (.inl (by simp; try omega)) _)))⟩

/-- What one call tells: an error, or the counter. -/
def chg (E v f n : Int) : Value := .tuple #[.agg #[.int .i64 (if E = 0 then v else 0), .int .i64 (if E = 0 then f else 0), .int .u64 (if E = 0 then n else 0)], .int .i64 E]

theorem moveE_right {d : Bool} {v f n m : Int} (h : rightB v f n = true) (hm : 0 < m) : moveE d v f n m = if askB d v f m then lowE d else if n = 4611686018427387904 then 142 else 0 := by
  unfold moveE
  have : (m == 0) = false := by simp; omega
  simp [h, this]
theorem deb29 (v f n m : Int) (w : World) (hB : Bd v f n) (hr : rightB v f n = true) (hm0 : 0 < m) (hm : m ≤ 9223372036854775808) :
    Calls Try.prog 29 #[.agg #[.int .i64 v, .int .i64 f, .int .u64 n], .int .u64 m] w fun e w' => e = .returned (chg (moveE true v f n m) (v - m) f (n + 1)) ∧ w.grownBy w' none := by
  obtain ⟨h1, h2⟩ := rightB_t hr
  rw [moveE_right hr hm0]
  simp only [askB, lowE, if_true]
  by_cases c : v - f < m
  · have := deb_low v f n m w hB h1 c
    simpa [c, chg] using this
  · by_cases hn : n = 4611686018427387904
    · subst hn
      have := deb_spent v f m w hB h1 (by omega)
      simpa [c, chg] using this
    · by_cases hb : m ≤ 9223372036854775807
      · have := deb_ok v f n m w hB h1 (by omega) hm0 hb hn h2
        simpa [c, chg, hn] using this
      · obtain rfl : m = 9223372036854775808 := by omega
        have := deb_big v f n w hB h1 (by omega) hn h2
        rw [show v - 9223372036854775807 - 1 = v - 9223372036854775808 by omega] at this
        simpa [c, chg, hn] using this

set_option maxRecDepth 100000 in
set_option maxHeartbeats 2000000 in
theorem deb_f (v f n k : Int) (w : World) (hr : rightB v f n = false)  : Calls Try.prog 11 #[.agg #[.int .i64 v, .int .i64 f, .int .u64 n], .int .i64 k] w fun e w' => e = .returned (.tuple #[.agg #[.int .i64 0, .int .i64 0, .int .u64 0], .int .i64 2]) ∧ w.grownBy w' none := by
  have R := fun W => spares.refRight v f n W
  rw [hr] at R
  have R' := Lib.hid R
  clear R hr
  go_enter Try.func11, Try.ntmps11
  go_wp2_with fail
  refine (R'.out _).mono ?_
  rintro e w1 ⟨rfl, hg⟩
  have c0 : w1.cell? ⟨w.heap.size, 0, none⟩ = some (.int .i64 v) := hg.cell (by go_simp) (by simp)
  have cz0 : w1.frozen? ⟨w.heap.size, 0, none⟩ = false := (gfroz hg (v := .int .i64 v) (by go_simp) (by simp)).trans (by go_simp)
  have c1 : w1.cell? ⟨w.heap.size, 1, none⟩ = some (.int .i64 f) := hg.cell (by go_simp) (by simp)
  have cz1 : w1.frozen? ⟨w.heap.size, 1, none⟩ = false := (gfroz hg (v := .int .i64 f) (by go_simp) (by simp)).trans (by go_simp)
  have c2 : w1.cell? ⟨w.heap.size, 2, none⟩ = some (.int .u64 n) := hg.cell (by go_simp) (by simp)
  have cz2 : w1.frozen? ⟨w.heap.size, 2, none⟩ = false := (gfroz hg (v := .int .u64 n) (by go_simp) (by simp)).trans (by go_simp)
  have p0 : w1.cell? ⟨w.heap.size + 1, 0, none⟩ = some (.int .i64 0) := hg.cell (by go_simp) (by simp)
  have pz0 : w1.frozen? ⟨w.heap.size + 1, 0, none⟩ = false := (gfroz hg (v := .int .i64 0) (by go_simp) (by simp)).trans (by go_simp)
  have p1 : w1.cell? ⟨w.heap.size + 1, 1, none⟩ = some (.int .i64 0) := hg.cell (by go_simp) (by simp)
  have pz1 : w1.frozen? ⟨w.heap.size + 1, 1, none⟩ = false := (gfroz hg (v := .int .i64 0) (by go_simp) (by simp)).trans (by go_simp)
  have p2 : w1.cell? ⟨w.heap.size + 1, 2, none⟩ = some (.int .u64 0) := hg.cell (by go_simp) (by simp)
  have pz2 : w1.frozen? ⟨w.heap.size + 1, 2, none⟩ = false := (gfroz hg (v := .int .u64 0) (by go_simp) (by simp)).trans (by go_simp)
  have hgw : w.grownBy w1 none := by refine gtrans ?_ hg; (repeat' (first | (with_reducible exact World.grownBy.refl _ _) | (with_reducible assumption) | (with_reducible refine galloc ?_ _) | (with_reducible refine gdrewN ?_ _) | (with_reducible refine gdrew ?_) | (with_reducible refine gset ?_ (.inl (by simp; try omega)) _)))
  have hs : w.heap.size + 1 < w1.heap.size := by have := hg.size; simp at this; omega
  clear hg R'
  go_wp2_with fail
  refine bodyPost_ret (v := .tuple #[.agg #[.int .i64 0, .int .i64 0, .int .u64 0], .int .i64 2]) (by simp [results, Try.results11, go_sem, p0, p1, p2]) rfl ?_
  exact ⟨rfl, by (repeat' (first | (with_reducible exact World.grownBy.refl _ _) | (with_reducible assumption) | (with_reducible refine galloc ?_ _) | (with_reducible refine gdrewN ?_ _) | (with_reducible refine gdrew ?_) | (with_reducible refine gset ?_ (.inl (by simp; try omega)) _)))⟩

set_option maxRecDepth 100000 in
set_option maxHeartbeats 2000000 in
theorem deb_0 (v f n k : Int) (w : World) (hr : rightB v f n = true) (h : k < 1) : Calls Try.prog 11 #[.agg #[.int .i64 v, .int .i64 f, .int .u64 n], .int .i64 k] w fun e w' => e = .returned (.tuple #[.agg #[.int .i64 0, .int .i64 0, .int .u64 0], .int .i64 2]) ∧ w.grownBy w' none := by
  have R := fun W => spares.refRight v f n W
  rw [hr] at R
  have R' := Lib.hid R
  clear R hr
  go_enter Try.func11, Try.ntmps11
  go_wp2_with fail
  refine (R'.out _).mono ?_
  rintro e w1 ⟨rfl, hg⟩
  have c0 : w1.cell? ⟨w.heap.size, 0, none⟩ = some (.int .i64 v) := hg.cell (by go_simp) (by simp)
  have cz0 : w1.frozen? ⟨w.heap.size, 0, none⟩ = false := (gfroz hg (v := .int .i64 v) (by go_simp) (by simp)).trans (by go_simp)
  have c1 : w1.cell? ⟨w.heap.size, 1, none⟩ = some (.int .i64 f) := hg.cell (by go_simp) (by simp)
  have cz1 : w1.frozen? ⟨w.heap.size, 1, none⟩ = false := (gfroz hg (v := .int .i64 f) (by go_simp) (by simp)).trans (by go_simp)
  have c2 : w1.cell? ⟨w.heap.size, 2, none⟩ = some (.int .u64 n) := hg.cell (by go_simp) (by simp)
  have cz2 : w1.frozen? ⟨w.heap.size, 2, none⟩ = false := (gfroz hg (v := .int .u64 n) (by go_simp) (by simp)).trans (by go_simp)
  have p0 : w1.cell? ⟨w.heap.size + 1, 0, none⟩ = some (.int .i64 0) := hg.cell (by go_simp) (by simp)
  have pz0 : w1.frozen? ⟨w.heap.size + 1, 0, none⟩ = false := (gfroz hg (v := .int .i64 0) (by go_simp) (by simp)).trans (by go_simp)
  have p1 : w1.cell? ⟨w.heap.size + 1, 1, none⟩ = some (.int .i64 0) := hg.cell (by go_simp) (by simp)
  have pz1 : w1.frozen? ⟨w.heap.size + 1, 1, none⟩ = false := (gfroz hg (v := .int .i64 0) (by go_simp) (by simp)).trans (by go_simp)
  have p2 : w1.cell? ⟨w.heap.size + 1, 2, none⟩ = some (.int .u64 0) := hg.cell (by go_simp) (by simp)
  have pz2 : w1.frozen? ⟨w.heap.size + 1, 2, none⟩ = false := (gfroz hg (v := .int .u64 0) (by go_simp) (by simp)).trans (by go_simp)
  have hgw : w.grownBy w1 none := by refine gtrans ?_ hg; (repeat' (first | (with_reducible exact World.grownBy.refl _ _) | (with_reducible assumption) | (with_reducible refine galloc ?_ _) | (with_reducible refine gdrewN ?_ _) | (with_reducible refine gdrew ?_) | (with_reducible refine gset ?_ (.inl (by simp; try omega)) _)))
  have hs : w.heap.size + 1 < w1.heap.size := by have := hg.size; simp at this; omega
  clear hg R'
  go_wp2_with fail
  refine bodyPost_ret (v := .tuple #[.agg #[.int .i64 0, .int .i64 0, .int .u64 0], .int .i64 2]) (by simp [results, Try.results11, go_sem, p0, p1, p2]) rfl ?_
  exact ⟨rfl, by (repeat' (first | (with_reducible exact World.grownBy.refl _ _) | (with_reducible assumption) | (with_reducible refine galloc ?_ _) | (with_reducible refine gdrewN ?_ _) | (with_reducible refine gdrew ?_) | (with_reducible refine gset ?_ (.inl (by simp; try omega)) _)))⟩

set_option maxRecDepth 100000 in
set_option maxHeartbeats 2000000 in
theorem deb_t (v f n k : Int) (w : World) (hr : rightB v f n = true) (h : 1 ≤ k) (h2 : k ≤ 9223372036854775807) (x y z E : Int) (T : ∀ W, Calls Try.prog 29 #[.agg #[.int .i64 v, .int .i64 f, .int .u64 n], .int .u64 k] W fun e w' => e = .returned (.tuple #[.agg #[.int .i64 x, .int .i64 y, .int .u64 z], .int .i64 E]) ∧ W.grownBy w' none) : Calls Try.prog 11 #[.agg #[.int .i64 v, .int .i64 f, .int .u64 n], .int .i64 k] w fun e w' => e = .returned (.tuple #[.agg #[.int .i64 x, .int .i64 y, .int .u64 z], .int .i64 E]) ∧ w.grownBy w' none := by
  have T' := Lib.hid T
  clear T
  have R := fun W => spares.refRight v f n W
  rw [hr] at R
  have R' := Lib.hid R
  clear R hr
  go_enter Try.func11, Try.ntmps11
  go_wp2_with fail
  refine (R'.out _).mono ?_
  rintro e w1 ⟨rfl, hg⟩
  have c0 : w1.cell? ⟨w.heap.size, 0, none⟩ = some (.int .i64 v) := hg.cell (by go_simp) (by simp)
  have cz0 : w1.frozen? ⟨w.heap.size, 0, none⟩ = false := (gfroz hg (v := .int .i64 v) (by go_simp) (by simp)).trans (by go_simp)
  have c1 : w1.cell? ⟨w.heap.size, 1, none⟩ = some (.int .i64 f) := hg.cell (by go_simp) (by simp)
  have cz1 : w1.frozen? ⟨w.heap.size, 1, none⟩ = false := (gfroz hg (v := .int .i64 f) (by go_simp) (by simp)).trans (by go_simp)
  have c2 : w1.cell? ⟨w.heap.size, 2, none⟩ = some (.int .u64 n) := hg.cell (by go_simp) (by simp)
  have cz2 : w1.frozen? ⟨w.heap.size, 2, none⟩ = false := (gfroz hg (v := .int .u64 n) (by go_simp) (by simp)).trans (by go_simp)
  have p0 : w1.cell? ⟨w.heap.size + 1, 0, none⟩ = some (.int .i64 0) := hg.cell (by go_simp) (by simp)
  have pz0 : w1.frozen? ⟨w.heap.size + 1, 0, none⟩ = false := (gfroz hg (v := .int .i64 0) (by go_simp) (by simp)).trans (by go_simp)
  have p1 : w1.cell? ⟨w.heap.size + 1, 1, none⟩ = some (.int .i64 0) := hg.cell (by go_simp) (by simp)
  have pz1 : w1.frozen? ⟨w.heap.size + 1, 1, none⟩ = false := (gfroz hg (v := .int .i64 0) (by go_simp) (by simp)).trans (by go_simp)
  have p2 : w1.cell? ⟨w.heap.size + 1, 2, none⟩ = some (.int .u64 0) := hg.cell (by go_simp) (by simp)
  have pz2 : w1.frozen? ⟨w.heap.size + 1, 2, none⟩ = false := (gfroz hg (v := .int .u64 0) (by go_simp) (by simp)).trans (by go_simp)
  have hgw : w.grownBy w1 none := by refine gtrans ?_ hg; (repeat' (first | (with_reducible exact World.grownBy.refl _ _) | (with_reducible assumption) | (with_reducible refine galloc ?_ _) | (with_reducible refine gdrewN ?_ _) | (with_reducible refine gdrew ?_) | (with_reducible refine gset ?_ (.inl (by simp; try omega)) _)))
  have hs : w.heap.size + 1 < w1.heap.size := by have := hg.size; simp at this; omega
  clear hg R'
  go_wp2_with fail
  refine (T'.out _).mono ?_
  rintro e w2 ⟨rfl, hg⟩
  have p0 : w2.cell? ⟨w.heap.size + 1, 0, none⟩ = some (.int .i64 0) := hg.cell (by go_simp) (by simp)
  have pz0 : w2.frozen? ⟨w.heap.size + 1, 0, none⟩ = false := (gfroz hg (v := .int .i64 0) (by go_simp) (by simp)).trans (by go_simp)
  have p1 : w2.cell? ⟨w.heap.size + 1, 1, none⟩ = some (.int .i64 0) := hg.cell (by go_simp) (by simp)
  have pz1 : w2.frozen? ⟨w.heap.size + 1, 1, none⟩ = false := (gfroz hg (v := .int .i64 0) (by go_simp) (by simp)).trans (by go_simp)
  have p2 : w2.cell? ⟨w.heap.size + 1, 2, none⟩ = some (.int .u64 0) := hg.cell (by go_simp) (by simp)
  have pz2 : w2.frozen? ⟨w.heap.size + 1, 2, none⟩ = false := (gfroz hg (v := .int .u64 0) (by go_simp) (by simp)).trans (by go_simp)
  have hgw : w.grownBy w2 none := by refine gtrans ?_ hg; (repeat' (first | (with_reducible exact World.grownBy.refl _ _) | (with_reducible assumption) | (with_reducible refine galloc ?_ _) | (with_reducible refine gdrewN ?_ _) | (with_reducible refine gdrew ?_) | (with_reducible refine gset ?_ (.inl (by simp; try omega)) _)))
  have hs : w.heap.size + 1 < w2.heap.size := by have := hg.size; (try simp at this); omega
  clear hg T'
  go_wp2_with fail
  refine bodyPost_ret (v := .tuple #[.agg #[.int .i64 x, .int .i64 y, .int .u64 z], .int .i64 E]) (by simp [results, Try.results11, go_sem, p0, p1, p2]) rfl ?_
  exact ⟨rfl, by (repeat' (first | (with_reducible exact World.grownBy.refl _ _) | (with_reducible assumption) | (with_reducible refine galloc ?_ _) | (with_reducible refine gdrewN ?_ _) | (with_reducible refine gdrew ?_) | (with_reducible refine gset ?_ (.inl (by simp; try omega)) _)))⟩

set_option maxRecDepth 100000 in
set_option maxHeartbeats 2000000 in
theorem cre_f (v f n k : Int) (w : World) (hr : rightB v f n = false)  : Calls Try.prog 12 #[.agg #[.int .i64 v, .int .i64 f, .int .u64 n], .int .i64 k] w fun e w' => e = .returned (.tuple #[.agg #[.int .i64 0, .int .i64 0, .int .u64 0], .int .i64 2]) ∧ w.grownBy w' none := by
  have R := fun W => spares.refRight v f n W
  rw [hr] at R
  have R' := Lib.hid R
  clear R hr
  go_enter Try.func12, Try.ntmps12
  go_wp2_with fail
  refine (R'.out _).mono ?_
  rintro e w1 ⟨rfl, hg⟩
  have c0 : w1.cell? ⟨w.heap.size, 0, none⟩ = some (.int .i64 v) := hg.cell (by go_simp) (by simp)
  have cz0 : w1.frozen? ⟨w.heap.size, 0, none⟩ = false := (gfroz hg (v := .int .i64 v) (by go_simp) (by simp)).trans (by go_simp)
  have c1 : w1.cell? ⟨w.heap.size, 1, none⟩ = some (.int .i64 f) := hg.cell (by go_simp) (by simp)
  have cz1 : w1.frozen? ⟨w.heap.size, 1, none⟩ = false := (gfroz hg (v := .int .i64 f) (by go_simp) (by simp)).trans (by go_simp)
  have c2 : w1.cell? ⟨w.heap.size, 2, none⟩ = some (.int .u64 n) := hg.cell (by go_simp) (by simp)
  have cz2 : w1.frozen? ⟨w.heap.size, 2, none⟩ = false := (gfroz hg (v := .int .u64 n) (by go_simp) (by simp)).trans (by go_simp)
  have p0 : w1.cell? ⟨w.heap.size + 1, 0, none⟩ = some (.int .i64 0) := hg.cell (by go_simp) (by simp)
  have pz0 : w1.frozen? ⟨w.heap.size + 1, 0, none⟩ = false := (gfroz hg (v := .int .i64 0) (by go_simp) (by simp)).trans (by go_simp)
  have p1 : w1.cell? ⟨w.heap.size + 1, 1, none⟩ = some (.int .i64 0) := hg.cell (by go_simp) (by simp)
  have pz1 : w1.frozen? ⟨w.heap.size + 1, 1, none⟩ = false := (gfroz hg (v := .int .i64 0) (by go_simp) (by simp)).trans (by go_simp)
  have p2 : w1.cell? ⟨w.heap.size + 1, 2, none⟩ = some (.int .u64 0) := hg.cell (by go_simp) (by simp)
  have pz2 : w1.frozen? ⟨w.heap.size + 1, 2, none⟩ = false := (gfroz hg (v := .int .u64 0) (by go_simp) (by simp)).trans (by go_simp)
  have hgw : w.grownBy w1 none := by refine gtrans ?_ hg; (repeat' (first | (with_reducible exact World.grownBy.refl _ _) | (with_reducible assumption) | (with_reducible refine galloc ?_ _) | (with_reducible refine gdrewN ?_ _) | (with_reducible refine gdrew ?_) | (with_reducible refine gset ?_ (.inl (by simp; try omega)) _)))
  have hs : w.heap.size + 1 < w1.heap.size := by have := hg.size; simp at this; omega
  clear hg R'
  go_wp2_with fail
  refine bodyPost_ret (v := .tuple #[.agg #[.int .i64 0, .int .i64 0, .int .u64 0], .int .i64 2]) (by simp [results, Try.results12, go_sem, p0, p1, p2]) rfl ?_
  exact ⟨rfl, by (repeat' (first | (with_reducible exact World.grownBy.refl _ _) | (with_reducible assumption) | (with_reducible refine galloc ?_ _) | (with_reducible refine gdrewN ?_ _) | (with_reducible refine gdrew ?_) | (with_reducible refine gset ?_ (.inl (by simp; try omega)) _)))⟩

set_option maxRecDepth 100000 in
set_option maxHeartbeats 2000000 in
theorem cre_0 (v f n k : Int) (w : World) (hr : rightB v f n = true) (h : k < 1) : Calls Try.prog 12 #[.agg #[.int .i64 v, .int .i64 f, .int .u64 n], .int .i64 k] w fun e w' => e = .returned (.tuple #[.agg #[.int .i64 0, .int .i64 0, .int .u64 0], .int .i64 2]) ∧ w.grownBy w' none := by
  have R := fun W => spares.refRight v f n W
  rw [hr] at R
  have R' := Lib.hid R
  clear R hr
  go_enter Try.func12, Try.ntmps12
  go_wp2_with fail
  refine (R'.out _).mono ?_
  rintro e w1 ⟨rfl, hg⟩
  have c0 : w1.cell? ⟨w.heap.size, 0, none⟩ = some (.int .i64 v) := hg.cell (by go_simp) (by simp)
  have cz0 : w1.frozen? ⟨w.heap.size, 0, none⟩ = false := (gfroz hg (v := .int .i64 v) (by go_simp) (by simp)).trans (by go_simp)
  have c1 : w1.cell? ⟨w.heap.size, 1, none⟩ = some (.int .i64 f) := hg.cell (by go_simp) (by simp)
  have cz1 : w1.frozen? ⟨w.heap.size, 1, none⟩ = false := (gfroz hg (v := .int .i64 f) (by go_simp) (by simp)).trans (by go_simp)
  have c2 : w1.cell? ⟨w.heap.size, 2, none⟩ = some (.int .u64 n) := hg.cell (by go_simp) (by simp)
  have cz2 : w1.frozen? ⟨w.heap.size, 2, none⟩ = false := (gfroz hg (v := .int .u64 n) (by go_simp) (by simp)).trans (by go_simp)
  have p0 : w1.cell? ⟨w.heap.size + 1, 0, none⟩ = some (.int .i64 0) := hg.cell (by go_simp) (by simp)
  have pz0 : w1.frozen? ⟨w.heap.size + 1, 0, none⟩ = false := (gfroz hg (v := .int .i64 0) (by go_simp) (by simp)).trans (by go_simp)
  have p1 : w1.cell? ⟨w.heap.size + 1, 1, none⟩ = some (.int .i64 0) := hg.cell (by go_simp) (by simp)
  have pz1 : w1.frozen? ⟨w.heap.size + 1, 1, none⟩ = false := (gfroz hg (v := .int .i64 0) (by go_simp) (by simp)).trans (by go_simp)
  have p2 : w1.cell? ⟨w.heap.size + 1, 2, none⟩ = some (.int .u64 0) := hg.cell (by go_simp) (by simp)
  have pz2 : w1.frozen? ⟨w.heap.size + 1, 2, none⟩ = false := (gfroz hg (v := .int .u64 0) (by go_simp) (by simp)).trans (by go_simp)
  have hgw : w.grownBy w1 none := by refine gtrans ?_ hg; (repeat' (first | (with_reducible exact World.grownBy.refl _ _) | (with_reducible assumption) | (with_reducible refine galloc ?_ _) | (with_reducible refine gdrewN ?_ _) | (with_reducible refine gdrew ?_) | (with_reducible refine gset ?_ (.inl (by simp; try omega)) _)))
  have hs : w.heap.size + 1 < w1.heap.size := by have := hg.size; simp at this; omega
  clear hg R'
  go_wp2_with fail
  refine bodyPost_ret (v := .tuple #[.agg #[.int .i64 0, .int .i64 0, .int .u64 0], .int .i64 2]) (by simp [results, Try.results12, go_sem, p0, p1, p2]) rfl ?_
  exact ⟨rfl, by (repeat' (first | (with_reducible exact World.grownBy.refl _ _) | (with_reducible assumption) | (with_reducible refine galloc ?_ _) | (with_reducible refine gdrewN ?_ _) | (with_reducible refine gdrew ?_) | (with_reducible refine gset ?_ (.inl (by simp; try omega)) _)))⟩

set_option maxRecDepth 100000 in
set_option maxHeartbeats 2000000 in
theorem cre_low (v f n k : Int) (w : World) (hr : rightB v f n = true) (hB : Bd v f n) (h : 1 ≤ k) (h2 : k ≤ 9223372036854775807) (c : 9223372036854775807 - v < k) : Calls Try.prog 12 #[.agg #[.int .i64 v, .int .i64 f, .int .u64 n], .int .i64 k] w fun e w' => e = .returned (.tuple #[.agg #[.int .i64 0, .int .i64 0, .int .u64 0], .int .i64 141]) ∧ w.grownBy w' none := by
  obtain ⟨b0, b1, b2, b3, b4, b5⟩ := hB
  have R := fun W => spares.refRight v f n W
  rw [hr] at R
  have R' := Lib.hid R
  clear R hr
  go_enter Try.func12, Try.ntmps12
  go_wp2_with fail
  refine (R'.out _).mono ?_
  rintro e w1 ⟨rfl, hg⟩
  have c0 : w1.cell? ⟨w.heap.size, 0, none⟩ = some (.int .i64 v) := hg.cell (by go_simp) (by simp)
  have cz0 : w1.frozen? ⟨w.heap.size, 0, none⟩ = false := (gfroz hg (v := .int .i64 v) (by go_simp) (by simp)).trans (by go_simp)
  have c1 : w1.cell? ⟨w.heap.size, 1, none⟩ = some (.int .i64 f) := hg.cell (by go_simp) (by simp)
  have cz1 : w1.frozen? ⟨w.heap.size, 1, none⟩ = false := (gfroz hg (v := .int .i64 f) (by go_simp) (by simp)).trans (by go_simp)
  have c2 : w1.cell? ⟨w.heap.size, 2, none⟩ = some (.int .u64 n) := hg.cell (by go_simp) (by simp)
  have cz2 : w1.frozen? ⟨w.heap.size, 2, none⟩ = false := (gfroz hg (v := .int .u64 n) (by go_simp) (by simp)).trans (by go_simp)
  have p0 : w1.cell? ⟨w.heap.size + 1, 0, none⟩ = some (.int .i64 0) := hg.cell (by go_simp) (by simp)
  have pz0 : w1.frozen? ⟨w.heap.size + 1, 0, none⟩ = false := (gfroz hg (v := .int .i64 0) (by go_simp) (by simp)).trans (by go_simp)
  have p1 : w1.cell? ⟨w.heap.size + 1, 1, none⟩ = some (.int .i64 0) := hg.cell (by go_simp) (by simp)
  have pz1 : w1.frozen? ⟨w.heap.size + 1, 1, none⟩ = false := (gfroz hg (v := .int .i64 0) (by go_simp) (by simp)).trans (by go_simp)
  have p2 : w1.cell? ⟨w.heap.size + 1, 2, none⟩ = some (.int .u64 0) := hg.cell (by go_simp) (by simp)
  have pz2 : w1.frozen? ⟨w.heap.size + 1, 2, none⟩ = false := (gfroz hg (v := .int .u64 0) (by go_simp) (by simp)).trans (by go_simp)
  have hgw : w.grownBy w1 none := by refine gtrans ?_ hg; (repeat' (first | (with_reducible exact World.grownBy.refl _ _) | (with_reducible assumption) | (with_reducible refine galloc ?_ _) | (with_reducible refine gdrewN ?_ _) | (with_reducible refine gdrew ?_) | (with_reducible refine gset ?_ (.inl (by simp; try omega)) _)))
  have hs : w.heap.size + 1 < w1.heap.size := by have := hg.size; simp at this; omega
  clear hg R'
  go_wp2_with fail
  refine bodyPost_ret (v := .tuple #[.agg #[.int .i64 0, .int .i64 0, .int .u64 0], .int .i64 141]) (by simp [results, Try.results12, go_sem, p0, p1, p2]) rfl ?_
  exact ⟨rfl, by (repeat' (first | (with_reducible exact World.grownBy.refl _ _) | (with_reducible assumption) | (with_reducible refine galloc ?_ _) | (with_reducible refine gdrewN ?_ _) | (with_reducible refine gdrew ?_) | (with_reducible refine gset ?_ (.inl (by simp; try omega)) _)))⟩

set_option maxRecDepth 100000 in
set_option maxHeartbeats 2000000 in
theorem cre_spent (v f k : Int) (w : World) (hr : rightB v f 4611686018427387904 = true) (hB : Bd v f 4611686018427387904) (h : 1 ≤ k) (h2 : k ≤ 9223372036854775807) (c : k ≤ 9223372036854775807 - v) : Calls Try.prog 12 #[.agg #[.int .i64 v, .int .i64 f, .int .u64 4611686018427387904], .int .i64 k] w fun e w' => e = .returned (.tuple #[.agg #[.int .i64 0, .int .i64 0, .int .u64 0], .int .i64 142]) ∧ w.grownBy w' none := by
  obtain ⟨b0, b1, b2, b3, b4, b5⟩ := hB
  have R := fun W => spares.refRight v f 4611686018427387904 W
  rw [hr] at R
  have R' := Lib.hid R
  clear R hr
  go_enter Try.func12, Try.ntmps12
  go_wp2_with fail
  refine (R'.out _).mono ?_
  rintro e w1 ⟨rfl, hg⟩
  have c0 : w1.cell? ⟨w.heap.size, 0, none⟩ = some (.int .i64 v) := hg.cell (by go_simp) (by simp)
  have cz0 : w1.frozen? ⟨w.heap.size, 0, none⟩ = false := (gfroz hg (v := .int .i64 v) (by go_simp) (by simp)).trans (by go_simp)
  have c1 : w1.cell? ⟨w.heap.size, 1, none⟩ = some (.int .i64 f) := hg.cell (by go_simp) (by simp)
  have cz1 : w1.frozen? ⟨w.heap.size, 1, none⟩ = false := (gfroz hg (v := .int .i64 f) (by go_simp) (by simp)).trans (by go_simp)
  have c2 : w1.cell? ⟨w.heap.size, 2, none⟩ = some (.int .u64 4611686018427387904) := hg.cell (by go_simp) (by simp)
  have cz2 : w1.frozen? ⟨w.heap.size, 2, none⟩ = false := (gfroz hg (v := .int .u64 4611686018427387904) (by go_simp) (by simp)).trans (by go_simp)
  have p0 : w1.cell? ⟨w.heap.size + 1, 0, none⟩ = some (.int .i64 0) := hg.cell (by go_simp) (by simp)
  have pz0 : w1.frozen? ⟨w.heap.size + 1, 0, none⟩ = false := (gfroz hg (v := .int .i64 0) (by go_simp) (by simp)).trans (by go_simp)
  have p1 : w1.cell? ⟨w.heap.size + 1, 1, none⟩ = some (.int .i64 0) := hg.cell (by go_simp) (by simp)
  have pz1 : w1.frozen? ⟨w.heap.size + 1, 1, none⟩ = false := (gfroz hg (v := .int .i64 0) (by go_simp) (by simp)).trans (by go_simp)
  have p2 : w1.cell? ⟨w.heap.size + 1, 2, none⟩ = some (.int .u64 0) := hg.cell (by go_simp) (by simp)
  have pz2 : w1.frozen? ⟨w.heap.size + 1, 2, none⟩ = false := (gfroz hg (v := .int .u64 0) (by go_simp) (by simp)).trans (by go_simp)
  have hgw : w.grownBy w1 none := by refine gtrans ?_ hg; (repeat' (first | (with_reducible exact World.grownBy.refl _ _) | (with_reducible assumption) | (with_reducible refine galloc ?_ _) | (with_reducible refine gdrewN ?_ _) | (with_reducible refine gdrew ?_) | (with_reducible refine gset ?_ (.inl (by simp; try omega)) _)))
  have hs : w.heap.size + 1 < w1.heap.size := by have := hg.size; simp at this; omega
  clear hg R'
  go_wp2_with fail
  refine bodyPost_ret (v := .tuple #[.agg #[.int .i64 0, .int .i64 0, .int .u64 0], .int .i64 142]) (by simp [results, Try.results12, go_sem, p0, p1, p2]) rfl ?_
  exact ⟨rfl, by (repeat' (first | (with_reducible exact World.grownBy.refl _ _) | (with_reducible assumption) | (with_reducible refine galloc ?_ _) | (with_reducible refine gdrewN ?_ _) | (with_reducible refine gdrew ?_) | (with_reducible refine gset ?_ (.inl (by simp; try omega)) _)))⟩

set_option maxRecDepth 100000 in
set_option maxHeartbeats 2000000 in
theorem cre_ok (v f n k : Int) (w : World) (hr : rightB v f n = true) (hB : Bd v f n) (h : 1 ≤ k) (h2 : k ≤ 9223372036854775807) (c : k ≤ 9223372036854775807 - v) (hn : n ≠ 4611686018427387904) (hn' : n ≤ 4611686018427387904) : Calls Try.prog 12 #[.agg #[.int .i64 v, .int .i64 f, .int .u64 n], .int .i64 k] w fun e w' => e = .returned (.tuple #[.agg #[.int .i64 (v + k), .int .i64 f, .int .u64 (n + 1)], .int .i64 0]) ∧ w.grownBy w' none := by
  obtain ⟨b0, b1, b2, b3, b4, b5⟩ := hB
  have R := fun W => spares.refRight v f n W
  rw [hr] at R
  have R' := Lib.hid R
  clear R hr
  go_enter Try.func12, Try.ntmps12
  go_wp2_with fail
  refine (R'.out _).mono ?_
  rintro e w1 ⟨rfl, hg⟩
  have c0 : w1.cell? ⟨w.heap.size, 0, none⟩ = some (.int .i64 v) := hg.cell (by go_simp) (by simp)
  have cz0 : w1.frozen? ⟨w.heap.size, 0, none⟩ = false := (gfroz hg (v := .int .i64 v) (by go_simp) (by simp)).trans (by go_simp)
  have c1 : w1.cell? ⟨w.heap.size, 1, none⟩ = some (.int .i64 f) := hg.cell (by go_simp) (by simp)
  have cz1 : w1.frozen? ⟨w.heap.size, 1, none⟩ = false := (gfroz hg (v := .int .i64 f) (by go_simp) (by simp)).trans (by go_simp)
  have c2 : w1.cell? ⟨w.heap.size, 2, none⟩ = some (.int .u64 n) := hg.cell (by go_simp) (by simp)
  have cz2 : w1.frozen? ⟨w.heap.size, 2, none⟩ = false := (gfroz hg (v := .int .u64 n) (by go_simp) (by simp)).trans (by go_simp)
  have p0 : w1.cell? ⟨w.heap.size + 1, 0, none⟩ = some (.int .i64 0) := hg.cell (by go_simp) (by simp)
  have pz0 : w1.frozen? ⟨w.heap.size + 1, 0, none⟩ = false := (gfroz hg (v := .int .i64 0) (by go_simp) (by simp)).trans (by go_simp)
  have p1 : w1.cell? ⟨w.heap.size + 1, 1, none⟩ = some (.int .i64 0) := hg.cell (by go_simp) (by simp)
  have pz1 : w1.frozen? ⟨w.heap.size + 1, 1, none⟩ = false := (gfroz hg (v := .int .i64 0) (by go_simp) (by simp)).trans (by go_simp)
  have p2 : w1.cell? ⟨w.heap.size + 1, 2, none⟩ = some (.int .u64 0) := hg.cell (by go_simp) (by simp)
  have pz2 : w1.frozen? ⟨w.heap.size + 1, 2, none⟩ = false := (gfroz hg (v := .int .u64 0) (by go_simp) (by simp)).trans (by go_simp)
  have hgw : w.grownBy w1 none := by refine gtrans ?_ hg; (repeat' (first | (with_reducible exact World.grownBy.refl _ _) | (with_reducible assumption) | (with_reducible refine galloc ?_ _) | (with_reducible refine gdrewN ?_ _) | (with_reducible refine gdrew ?_) | (with_reducible refine gset ?_ (.inl (by simp; try omega)) _)))
  have hs : w.heap.size + 1 < w1.heap.size := by have := hg.size; simp at this; omega
  clear hg R'
  go_wp2_with fail
  refine bodyPost_ret (v := .tuple #[.agg #[.int .i64 (v + k), .int .i64 f, .int .u64 (n + 1)], .int .i64 0]) (by simp [results, Try.results12, go_sem, p0, p1, p2]) rfl ?_
  exact ⟨rfl, by (repeat' (first | (with_reducible exact World.grownBy.refl _ _) | (with_reducible assumption) | (with_reducible refine galloc ?_ _) | (with_reducible refine gdrewN ?_ _) | (with_reducible refine gdrew ?_) | (with_reducible refine gset ?_ (.inl (by simp; try omega)) _)))⟩

set_option maxRecDepth 100000 in
set_option maxHeartbeats 2000000 in
theorem chn_f (v f n k : Int) (w : World) (hr : rightB v f n = false)  : Calls Try.prog 13 #[.agg #[.int .i64 v, .int .i64 f, .int .u64 n], .int .i64 k] w fun e w' => e = .returned (.tuple #[.agg #[.int .i64 0, .int .i64 0, .int .u64 0], .int .i64 2]) ∧ w.grownBy w' none := by
  have R := fun W => spares.refRight v f n W
  rw [hr] at R
  have R' := Lib.hid R
  clear R hr
  go_enter Try.func13, Try.ntmps13
  go_wp2_with fail
  refine (R'.out _).mono ?_
  rintro e w1 ⟨rfl, hg⟩
  have c0 : w1.cell? ⟨w.heap.size, 0, none⟩ = some (.int .i64 v) := hg.cell (by go_simp) (by simp)
  have cz0 : w1.frozen? ⟨w.heap.size, 0, none⟩ = false := (gfroz hg (v := .int .i64 v) (by go_simp) (by simp)).trans (by go_simp)
  have c1 : w1.cell? ⟨w.heap.size, 1, none⟩ = some (.int .i64 f) := hg.cell (by go_simp) (by simp)
  have cz1 : w1.frozen? ⟨w.heap.size, 1, none⟩ = false := (gfroz hg (v := .int .i64 f) (by go_simp) (by simp)).trans (by go_simp)
  have c2 : w1.cell? ⟨w.heap.size, 2, none⟩ = some (.int .u64 n) := hg.cell (by go_simp) (by simp)
  have cz2 : w1.frozen? ⟨w.heap.size, 2, none⟩ = false := (gfroz hg (v := .int .u64 n) (by go_simp) (by simp)).trans (by go_simp)
  have p0 : w1.cell? ⟨w.heap.size + 1, 0, none⟩ = some (.int .i64 0) := hg.cell (by go_simp) (by simp)
  have pz0 : w1.frozen? ⟨w.heap.size + 1, 0, none⟩ = false := (gfroz hg (v := .int .i64 0) (by go_simp) (by simp)).trans (by go_simp)
  have p1 : w1.cell? ⟨w.heap.size + 1, 1, none⟩ = some (.int .i64 0) := hg.cell (by go_simp) (by simp)
  have pz1 : w1.frozen? ⟨w.heap.size + 1, 1, none⟩ = false := (gfroz hg (v := .int .i64 0) (by go_simp) (by simp)).trans (by go_simp)
  have p2 : w1.cell? ⟨w.heap.size + 1, 2, none⟩ = some (.int .u64 0) := hg.cell (by go_simp) (by simp)
  have pz2 : w1.frozen? ⟨w.heap.size + 1, 2, none⟩ = false := (gfroz hg (v := .int .u64 0) (by go_simp) (by simp)).trans (by go_simp)
  have hgw : w.grownBy w1 none := by refine gtrans ?_ hg; (repeat' (first | (with_reducible exact World.grownBy.refl _ _) | (with_reducible assumption) | (with_reducible refine galloc ?_ _) | (with_reducible refine gdrewN ?_ _) | (with_reducible refine gdrew ?_) | (with_reducible refine gset ?_ (.inl (by simp; try omega)) _)))
  have hs : w.heap.size + 1 < w1.heap.size := by have := hg.size; simp at this; omega
  clear hg R'
  go_wp2_with fail
  refine bodyPost_ret (v := .tuple #[.agg #[.int .i64 0, .int .i64 0, .int .u64 0], .int .i64 2]) (by simp [results, Try.results13, go_sem, p0, p1, p2]) rfl ?_
  exact ⟨rfl, by (repeat' (first | (with_reducible exact World.grownBy.refl _ _) | (with_reducible assumption) | (with_reducible refine galloc ?_ _) | (with_reducible refine gdrewN ?_ _) | (with_reducible refine gdrew ?_) | (with_reducible refine gset ?_ (.inl (by simp; try omega)) _)))⟩

set_option maxRecDepth 100000 in
set_option maxHeartbeats 2000000 in
theorem chn_0 (v f n k : Int) (w : World) (hr : rightB v f n = true) (h : k = 0) : Calls Try.prog 13 #[.agg #[.int .i64 v, .int .i64 f, .int .u64 n], .int .i64 k] w fun e w' => e = .returned (.tuple #[.agg #[.int .i64 0, .int .i64 0, .int .u64 0], .int .i64 2]) ∧ w.grownBy w' none := by
  subst h
  have R := fun W => spares.refRight v f n W
  rw [hr] at R
  have R' := Lib.hid R
  clear R hr
  go_enter Try.func13, Try.ntmps13
  go_wp2_with fail
  refine (R'.out _).mono ?_
  rintro e w1 ⟨rfl, hg⟩
  have c0 : w1.cell? ⟨w.heap.size, 0, none⟩ = some (.int .i64 v) := hg.cell (by go_simp) (by simp)
  have cz0 : w1.frozen? ⟨w.heap.size, 0, none⟩ = false := (gfroz hg (v := .int .i64 v) (by go_simp) (by simp)).trans (by go_simp)
  have c1 : w1.cell? ⟨w.heap.size, 1, none⟩ = some (.int .i64 f) := hg.cell (by go_simp) (by simp)
  have cz1 : w1.frozen? ⟨w.heap.size, 1, none⟩ = false := (gfroz hg (v := .int .i64 f) (by go_simp) (by simp)).trans (by go_simp)
  have c2 : w1.cell? ⟨w.heap.size, 2, none⟩ = some (.int .u64 n) := hg.cell (by go_simp) (by simp)
  have cz2 : w1.frozen? ⟨w.heap.size, 2, none⟩ = false := (gfroz hg (v := .int .u64 n) (by go_simp) (by simp)).trans (by go_simp)
  have p0 : w1.cell? ⟨w.heap.size + 1, 0, none⟩ = some (.int .i64 0) := hg.cell (by go_simp) (by simp)
  have pz0 : w1.frozen? ⟨w.heap.size + 1, 0, none⟩ = false := (gfroz hg (v := .int .i64 0) (by go_simp) (by simp)).trans (by go_simp)
  have p1 : w1.cell? ⟨w.heap.size + 1, 1, none⟩ = some (.int .i64 0) := hg.cell (by go_simp) (by simp)
  have pz1 : w1.frozen? ⟨w.heap.size + 1, 1, none⟩ = false := (gfroz hg (v := .int .i64 0) (by go_simp) (by simp)).trans (by go_simp)
  have p2 : w1.cell? ⟨w.heap.size + 1, 2, none⟩ = some (.int .u64 0) := hg.cell (by go_simp) (by simp)
  have pz2 : w1.frozen? ⟨w.heap.size + 1, 2, none⟩ = false := (gfroz hg (v := .int .u64 0) (by go_simp) (by simp)).trans (by go_simp)
  have hgw : w.grownBy w1 none := by refine gtrans ?_ hg; (repeat' (first | (with_reducible exact World.grownBy.refl _ _) | (with_reducible assumption) | (with_reducible refine galloc ?_ _) | (with_reducible refine gdrewN ?_ _) | (with_reducible refine gdrew ?_) | (with_reducible refine gset ?_ (.inl (by simp; try omega)) _)))
  have hs : w.heap.size + 1 < w1.heap.size := by have := hg.size; simp at this; omega
  clear hg R'
  go_wp2_with fail
  refine bodyPost_ret (v := .tuple #[.agg #[.int .i64 0, .int .i64 0, .int .u64 0], .int .i64 2]) (by simp [results, Try.results13, go_sem, p0, p1, p2]) rfl ?_
  exact ⟨rfl, by (repeat' (first | (with_reducible exact World.grownBy.refl _ _) | (with_reducible assumption) | (with_reducible refine galloc ?_ _) | (with_reducible refine gdrewN ?_ _) | (with_reducible refine gdrew ?_) | (with_reducible refine gset ?_ (.inl (by simp; try omega)) _)))⟩

set_option maxRecDepth 100000 in
set_option maxHeartbeats 2000000 in
theorem chn_neg (v f n k : Int) (w : World) (hr : rightB v f n = true) (h : k < 0) (h2 : -9223372036854775808 ≤ k) (x y z E : Int) (T : ∀ W, Calls Try.prog 29 #[.agg #[.int .i64 v, .int .i64 f, .int .u64 n], .int .u64 (-1 - k + 1)] W fun e w' => e = .returned (.tuple #[.agg #[.int .i64 x, .int .i64 y, .int .u64 z], .int .i64 E]) ∧ W.grownBy w' none) : Calls Try.prog 13 #[.agg #[.int .i64 v, .int .i64 f, .int .u64 n], .int .i64 k] w fun e w' => e = .returned (.tuple #[.agg #[.int .i64 x, .int .i64 y, .int .u64 z], .int .i64 E]) ∧ w.grownBy w' none := by
  have T' := Lib.hid T
  clear T
  have R := fun W => spares.refRight v f n W
  rw [hr] at R
  have R' := Lib.hid R
  clear R hr
  go_enter Try.func13, Try.ntmps13
  go_wp2_with fail
  refine (R'.out _).mono ?_
  rintro e w1 ⟨rfl, hg⟩
  have c0 : w1.cell? ⟨w.heap.size, 0, none⟩ = some (.int .i64 v) := hg.cell (by go_simp) (by simp)
  have cz0 : w1.frozen? ⟨w.heap.size, 0, none⟩ = false := (gfroz hg (v := .int .i64 v) (by go_simp) (by simp)).trans (by go_simp)
  have c1 : w1.cell? ⟨w.heap.size, 1, none⟩ = some (.int .i64 f) := hg.cell (by go_simp) (by simp)
  have cz1 : w1.frozen? ⟨w.heap.size, 1, none⟩ = false := (gfroz hg (v := .int .i64 f) (by go_simp) (by simp)).trans (by go_simp)
  have c2 : w1.cell? ⟨w.heap.size, 2, none⟩ = some (.int .u64 n) := hg.cell (by go_simp) (by simp)
  have cz2 : w1.frozen? ⟨w.heap.size, 2, none⟩ = false := (gfroz hg (v := .int .u64 n) (by go_simp) (by simp)).trans (by go_simp)
  have p0 : w1.cell? ⟨w.heap.size + 1, 0, none⟩ = some (.int .i64 0) := hg.cell (by go_simp) (by simp)
  have pz0 : w1.frozen? ⟨w.heap.size + 1, 0, none⟩ = false := (gfroz hg (v := .int .i64 0) (by go_simp) (by simp)).trans (by go_simp)
  have p1 : w1.cell? ⟨w.heap.size + 1, 1, none⟩ = some (.int .i64 0) := hg.cell (by go_simp) (by simp)
  have pz1 : w1.frozen? ⟨w.heap.size + 1, 1, none⟩ = false := (gfroz hg (v := .int .i64 0) (by go_simp) (by simp)).trans (by go_simp)
  have p2 : w1.cell? ⟨w.heap.size + 1, 2, none⟩ = some (.int .u64 0) := hg.cell (by go_simp) (by simp)
  have pz2 : w1.frozen? ⟨w.heap.size + 1, 2, none⟩ = false := (gfroz hg (v := .int .u64 0) (by go_simp) (by simp)).trans (by go_simp)
  have hgw : w.grownBy w1 none := by refine gtrans ?_ hg; (repeat' (first | (with_reducible exact World.grownBy.refl _ _) | (with_reducible assumption) | (with_reducible refine galloc ?_ _) | (with_reducible refine gdrewN ?_ _) | (with_reducible refine gdrew ?_) | (with_reducible refine gset ?_ (.inl (by simp; try omega)) _)))
  have hs : w.heap.size + 1 < w1.heap.size := by have := hg.size; simp at this; omega
  clear hg R'
  go_wp2_with fail
  refine (T'.out _).mono ?_
  rintro e w2 ⟨rfl, hg⟩
  have p0 : w2.cell? ⟨w.heap.size + 1, 0, none⟩ = some (.int .i64 0) := hg.cell (by go_simp) (by simp)
  have pz0 : w2.frozen? ⟨w.heap.size + 1, 0, none⟩ = false := (gfroz hg (v := .int .i64 0) (by go_simp) (by simp)).trans (by go_simp)
  have p1 : w2.cell? ⟨w.heap.size + 1, 1, none⟩ = some (.int .i64 0) := hg.cell (by go_simp) (by simp)
  have pz1 : w2.frozen? ⟨w.heap.size + 1, 1, none⟩ = false := (gfroz hg (v := .int .i64 0) (by go_simp) (by simp)).trans (by go_simp)
  have p2 : w2.cell? ⟨w.heap.size + 1, 2, none⟩ = some (.int .u64 0) := hg.cell (by go_simp) (by simp)
  have pz2 : w2.frozen? ⟨w.heap.size + 1, 2, none⟩ = false := (gfroz hg (v := .int .u64 0) (by go_simp) (by simp)).trans (by go_simp)
  have hgw : w.grownBy w2 none := by refine gtrans ?_ hg; (repeat' (first | (with_reducible exact World.grownBy.refl _ _) | (with_reducible assumption) | (with_reducible refine galloc ?_ _) | (with_reducible refine gdrewN ?_ _) | (with_reducible refine gdrew ?_) | (with_reducible refine gset ?_ (.inl (by simp; try omega)) _)))
  have hs : w.heap.size + 1 < w2.heap.size := by have := hg.size; (try simp at this); omega
  clear hg T'
  go_wp2_with fail
  refine bodyPost_ret (v := .tuple #[.agg #[.int .i64 x, .int .i64 y, .int .u64 z], .int .i64 E]) (by simp [results, Try.results13, go_sem, p0, p1, p2]) rfl ?_
  exact ⟨rfl, by (repeat' (first | (with_reducible exact World.grownBy.refl _ _) | (with_reducible assumption) | (with_reducible refine galloc ?_ _) | (with_reducible refine gdrewN ?_ _) | (with_reducible refine gdrew ?_) | (with_reducible refine gset ?_ (.inl (by simp; try omega)) _)))⟩

set_option maxRecDepth 100000 in
set_option maxHeartbeats 2000000 in
theorem chn_pos (v f n k : Int) (w : World) (hr : rightB v f n = true) (h : 0 < k) (h2 : k ≤ 9223372036854775807) (x y z E : Int) (T : ∀ W, Calls Try.prog 12 #[.agg #[.int .i64 v, .int .i64 f, .int .u64 n], .int .i64 k] W fun e w' => e = .returned (.tuple #[.agg #[.int .i64 x, .int .i64 y, .int .u64 z], .int .i64 E]) ∧ W.grownBy w' none) : Calls Try.prog 13 #[.agg #[.int .i64 v, .int .i64 f, .int .u64 n], .int .i64 k] w fun e w' => e = .returned (.tuple #[.agg #[.int .i64 x, .int .i64 y, .int .u64 z], .int .i64 E]) ∧ w.grownBy w' none := by
  have T' := Lib.hid T
  clear T
  have R := fun W => spares.refRight v f n W
  rw [hr] at R
  have R' := Lib.hid R
  clear R hr
  go_enter Try.func13, Try.ntmps13
  go_wp2_with fail
  refine (R'.out _).mono ?_
  rintro e w1 ⟨rfl, hg⟩
  have c0 : w1.cell? ⟨w.heap.size, 0, none⟩ = some (.int .i64 v) := hg.cell (by go_simp) (by simp)
  have cz0 : w1.frozen? ⟨w.heap.size, 0, none⟩ = false := (gfroz hg (v := .int .i64 v) (by go_simp) (by simp)).trans (by go_simp)
  have c1 : w1.cell? ⟨w.heap.size, 1, none⟩ = some (.int .i64 f) := hg.cell (by go_simp) (by simp)
  have cz1 : w1.frozen? ⟨w.heap.size, 1, none⟩ = false := (gfroz hg (v := .int .i64 f) (by go_simp) (by simp)).trans (by go_simp)
  have c2 : w1.cell? ⟨w.heap.size, 2, none⟩ = some (.int .u64 n) := hg.cell (by go_simp) (by simp)
  have cz2 : w1.frozen? ⟨w.heap.size, 2, none⟩ = false := (gfroz hg (v := .int .u64 n) (by go_simp) (by simp)).trans (by go_simp)
  have p0 : w1.cell? ⟨w.heap.size + 1, 0, none⟩ = some (.int .i64 0) := hg.cell (by go_simp) (by simp)
  have pz0 : w1.frozen? ⟨w.heap.size + 1, 0, none⟩ = false := (gfroz hg (v := .int .i64 0) (by go_simp) (by simp)).trans (by go_simp)
  have p1 : w1.cell? ⟨w.heap.size + 1, 1, none⟩ = some (.int .i64 0) := hg.cell (by go_simp) (by simp)
  have pz1 : w1.frozen? ⟨w.heap.size + 1, 1, none⟩ = false := (gfroz hg (v := .int .i64 0) (by go_simp) (by simp)).trans (by go_simp)
  have p2 : w1.cell? ⟨w.heap.size + 1, 2, none⟩ = some (.int .u64 0) := hg.cell (by go_simp) (by simp)
  have pz2 : w1.frozen? ⟨w.heap.size + 1, 2, none⟩ = false := (gfroz hg (v := .int .u64 0) (by go_simp) (by simp)).trans (by go_simp)
  have hgw : w.grownBy w1 none := by refine gtrans ?_ hg; (repeat' (first | (with_reducible exact World.grownBy.refl _ _) | (with_reducible assumption) | (with_reducible refine galloc ?_ _) | (with_reducible refine gdrewN ?_ _) | (with_reducible refine gdrew ?_) | (with_reducible refine gset ?_ (.inl (by simp; try omega)) _)))
  have hs : w.heap.size + 1 < w1.heap.size := by have := hg.size; simp at this; omega
  clear hg R'
  go_wp2_with fail
  refine (T'.out _).mono ?_
  rintro e w2 ⟨rfl, hg⟩
  have p0 : w2.cell? ⟨w.heap.size + 1, 0, none⟩ = some (.int .i64 0) := hg.cell (by go_simp) (by simp)
  have pz0 : w2.frozen? ⟨w.heap.size + 1, 0, none⟩ = false := (gfroz hg (v := .int .i64 0) (by go_simp) (by simp)).trans (by go_simp)
  have p1 : w2.cell? ⟨w.heap.size + 1, 1, none⟩ = some (.int .i64 0) := hg.cell (by go_simp) (by simp)
  have pz1 : w2.frozen? ⟨w.heap.size + 1, 1, none⟩ = false := (gfroz hg (v := .int .i64 0) (by go_simp) (by simp)).trans (by go_simp)
  have p2 : w2.cell? ⟨w.heap.size + 1, 2, none⟩ = some (.int .u64 0) := hg.cell (by go_simp) (by simp)
  have pz2 : w2.frozen? ⟨w.heap.size + 1, 2, none⟩ = false := (gfroz hg (v := .int .u64 0) (by go_simp) (by simp)).trans (by go_simp)
  have hgw : w.grownBy w2 none := by refine gtrans ?_ hg; (repeat' (first | (with_reducible exact World.grownBy.refl _ _) | (with_reducible assumption) | (with_reducible refine galloc ?_ _) | (with_reducible refine gdrewN ?_ _) | (with_reducible refine gdrew ?_) | (with_reducible refine gset ?_ (.inl (by simp; try omega)) _)))
  have hs : w.heap.size + 1 < w2.heap.size := by have := hg.size; (try simp at this); omega
  clear hg T'
  go_wp2_with fail
  refine bodyPost_ret (v := .tuple #[.agg #[.int .i64 x, .int .i64 y, .int .u64 z], .int .i64 E]) (by simp [results, Try.results13, go_sem, p0, p1, p2]) rfl ?_
  exact ⟨rfl, by (repeat' (first | (with_reducible exact World.grownBy.refl _ _) | (with_reducible assumption) | (with_reducible refine galloc ?_ _) | (with_reducible refine gdrewN ?_ _) | (with_reducible refine gdrew ?_) | (with_reducible refine gset ?_ (.inl (by simp; try omega)) _)))⟩

end Go.Proofs.Ytgcejfcfaaidhaa.refs
