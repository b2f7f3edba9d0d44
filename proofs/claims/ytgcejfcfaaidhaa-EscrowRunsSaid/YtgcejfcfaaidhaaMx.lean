/- A move that is allowed answers the moved counter. -/
import Derived.Test.YtgcejfcfaaidhaaMw
set_option linter.unusedSimpArgs false
set_option linter.unusedVariables false
namespace Go.Proofs.Ytgcejfcfaaidhaa
open Go.RowKit

theorem Acct.moved {w : World} {b : Nat} {v f n d : Int} (h : Acct w b v f n d) (v' n' d' : Int) (o : Obj) :
    Acct ((((w.setCell ⟨b, 0, none⟩ (.int .i64 v')).setCell ⟨b, 2, none⟩ (.int .u64 n')).setCell ⟨b, 3, none⟩ (.int .i64 d')).alloc o) b v' f n' d' := by
  have hlt : b < (((w.setCell ⟨b, 0, none⟩ (.int .i64 v')).setCell ⟨b, 2, none⟩ (.int .u64 n')).setCell ⟨b, 3, none⟩ (.int .i64 d')).heap.size := by
    simpa [World.setCell] using h.lt
  refine ⟨?_, ?_, ?_, ?_, fun o' => ?_⟩
  · rw [calloc_lt hlt, cset_ne (by simp), cset_ne (by simp)]
    exact cset_same h.c0
  · rw [calloc_lt hlt, cset_ne (by simp), cset_ne (by simp), cset_ne (by simp)]
    exact h.c1
  · rw [calloc_lt hlt, cset_ne (by simp)]
    exact cset_same (u := .int .u64 n) (by rw [cset_ne (by simp)]; exact h.c2)
  · rw [calloc_lt hlt]
    exact cset_same (u := .int .i64 d) (by rw [cset_ne (by simp), cset_ne (by simp)]; exact h.c3)
  · rw [falloc_ne (by show b ≠ _; omega), World.frozen?_setCell, World.frozen?_setCell, World.frozen?_setCell]
    exact h.z o'

set_option maxRecDepth 100000 in
set_option maxHeartbeats 2000000 in
theorem move_ok (b : Nat) (v f n d m : Int) (down : Bool) (w : World) (hA : Acct w b v f n d)
    (hv : -9223372036854775808 ≤ v) (hv' : v ≤ 9223372036854775807) (hf : -9223372036854775808 ≤ f) (hvf : f ≤ v) (hm : 0 ≤ m) (hn0 : 0 ≤ n) (hn1 : n < 4611686018427387904) (hd0 : 0 ≤ d) (hd1 : d < 9223372036854775807)
    (e1 : (!rightB v f n || m == 0) = false) (e2 : askB down v f m = false) (e3 : (n == 4611686018427387904) = false) :
    Calls Try.prog 25 #[.pointer (some ⟨b, 0, none⟩), .bool down, .int .u64 m] w fun e w' => e = .returned (.int .i64 0) ∧ w.grownBy w' (some b) ∧ Acct w' b (if down then v - m else v + m) f (n + 1) (d + 1) := by
  have hmf : ∀ (fn : Fn) (first cap : Array Value) (w : World), (Instr.makeFunc fn first cap).run Try.prog w = .ok (.func fn first cap) w := fun _ _ _ _ => rfl
  have hb := hA.lt
  have E1 := Lib.hid e1
  have E2 := Lib.hid e2
  have E3 := Lib.hid e3
  clear e1 e3
  have hlim : (down = false → m ≤ 9223372036854775807 - v) ∧ (down = true → m ≤ v - f) := by
    constructor <;> rintro rfl <;> simp [askB] at e2 <;> omega
  clear e2
  go_enter Try.func25, Try.ntmps25
  go_wp2
  refine wp_scope_fwd ?_
  go_wp2
  go_region
  cases down
  · have hl := hlim.1 rfl
    clear hlim
    go_wp2_with fail
    refine (first_any (w.heap.size + 1 + 1 + 1) w.heap.size (w.heap.size + 1) (w.heap.size + 1 + 1) 141 false false false _ (by go_simp) (by go_simp) (by go_simp) (by go_simp) (by go_simp) (by go_simp) ?_ ?_ ?_).mono ?_
    · intro W hW
      have hgw : w.grownBy W none := by refine gtrans ?_ hW; (repeat' (first | (with_reducible exact World.grownBy.refl _ _) | (with_reducible exact gwider hgw _) | (with_reducible refine galloc ?_ _) | (with_reducible refine gdrewN ?_ _) | (with_reducible refine gdrew ?_) | (with_reducible refine gset ?_ (by first | exact .inr rfl | exact .inl (by simp; try omega)) _)))
      have A := hA.kept hgw (by simp)
      have := ask1_any b w.heap.size (w.heap.size + 1) v f n m W A.c0 A.c1 A.c2 (hW.cell (by go_simp) (by simp)) (hW.cell (by go_simp) (by simp))
      rw [E1.out] at this
      exact this
    · intro h1 W hW
      have hgw : w.grownBy W none := by refine gtrans ?_ hW; (repeat' (first | (with_reducible exact World.grownBy.refl _ _) | (with_reducible exact gwider hgw _) | (with_reducible refine galloc ?_ _) | (with_reducible refine gdrewN ?_ _) | (with_reducible refine gdrew ?_) | (with_reducible refine gset ?_ (by first | exact .inr rfl | exact .inl (by simp; try omega)) _)))
      have A := hA.kept hgw (by simp)
      have e2 := E2.out
      simp only [askB, Bool.false_eq_true, if_false] at e2
      have := ask2_up b (w.heap.size + 1) (w.heap.size + 1 + 1) v m W A.c0 hv hv' (hW.cell (by go_simp) (by simp)) (hW.cell (by go_simp) (by simp))
      rw [e2] at this
      exact this
    · intro W hW
      have hgw : w.grownBy W none := by refine gtrans ?_ hW; (repeat' (first | (with_reducible exact World.grownBy.refl _ _) | (with_reducible exact gwider hgw _) | (with_reducible refine galloc ?_ _) | (with_reducible refine gdrewN ?_ _) | (with_reducible refine gdrew ?_) | (with_reducible refine gset ?_ (by first | exact .inr rfl | exact .inl (by simp; try omega)) _)))
      have A := hA.kept hgw (by simp)
      have := ask3_any b w.heap.size n W A.c2 (hW.cell (by go_simp) (by simp))
      rw [E3.out] at this
      exact this
    rintro e w1 ⟨rfl, hg⟩
    have hgw : w.grownBy w1 none := by refine gtrans ?_ hg; (repeat' (first | (with_reducible exact World.grownBy.refl _ _) | (with_reducible exact gwider hgw _) | (with_reducible refine galloc ?_ _) | (with_reducible refine gdrewN ?_ _) | (with_reducible refine gdrew ?_) | (with_reducible refine gset ?_ (by first | exact .inr rfl | exact .inl (by simp; try omega)) _)))
    have A := hA.kept hgw (by simp)
    have a0 := A.c0
    have a1 := A.c1
    have a2 := A.c2
    have a3 := A.c3
    have z0 := A.z 0
    have z1 := A.z 1
    have z2 := A.z 2
    have z3 := A.z 3
    have x0 : w1.cell? ⟨w.heap.size, 0, none⟩ = some (.pointer (some ⟨b, 0, none⟩)) := hg.cell (by go_simp) (by simp)
    have x1 : w1.cell? ⟨w.heap.size + 1, 0, none⟩ = some (.int .u64 m) := hg.cell (by go_simp) (by simp)
    have hs : w.heap.size + 1 < w1.heap.size := by have := hg.size; simp at this; omega
    have hs0 : w.heap.size < w1.heap.size := by omega
    have hb1 : b < w1.heap.size := by omega
    have hs' : w.heap.size + 1 < w1.heap.size + 1 := by omega
    have hs0' : w.heap.size < w1.heap.size + 1 := by omega
    have hb1' : b < w1.heap.size + 1 := by omega
    have HA := Lib.hid A
    clear hg E1 E2 E3 hA A
    unfold firstV
    go_wp2_with fail
    refine (more_any b v m _ (by go_simp) (by go_simp) hv hm (by omega)).mono ?_
    rintro e w2 ⟨rfl, rfl⟩
    have y0 : ¬ (w.heap.size = b) := by omega
    have y1 : ¬ (w.heap.size + 1 = b) := by omega
    go_wp2_with fail
    try rw [fwd_ret]
    go_ret
    exact ⟨rfl, by (repeat' (first | (with_reducible exact World.grownBy.refl _ _) | (with_reducible exact gwider hgw _) | (with_reducible refine galloc ?_ _) | (with_reducible refine gdrewN ?_ _) | (with_reducible refine gdrew ?_) | (with_reducible refine gset ?_ (by first | exact .inr rfl | exact .inl (by simp; try omega)) _))), HA.out.moved _ _ _ _⟩
  · have hl := hlim.2 rfl
    clear hlim
    go_wp2_with fail
    go_region
    go_wp2_with fail
    refine (first_any (w.heap.size + 1 + 1 + 1) w.heap.size (w.heap.size + 1) (w.heap.size + 1 + 1) 140 false false false _ (by go_simp) (by go_simp) (by go_simp) (by go_simp) (by go_simp) (by go_simp) ?_ ?_ ?_).mono ?_
    · intro W hW
      have hgw : w.grownBy W none := by refine gtrans ?_ hW; (repeat' (first | (with_reducible exact World.grownBy.refl _ _) | (with_reducible exact gwider hgw _) | (with_reducible refine galloc ?_ _) | (with_reducible refine gdrewN ?_ _) | (with_reducible refine gdrew ?_) | (with_reducible refine gset ?_ (by first | exact .inr rfl | exact .inl (by simp; try omega)) _)))
      have A := hA.kept hgw (by simp)
      have := ask1_any b w.heap.size (w.heap.size + 1) v f n m W A.c0 A.c1 A.c2 (hW.cell (by go_simp) (by simp)) (hW.cell (by go_simp) (by simp))
      rw [E1.out] at this
      exact this
    · intro h1 W hW
      have hgw : w.grownBy W none := by refine gtrans ?_ hW; (repeat' (first | (with_reducible exact World.grownBy.refl _ _) | (with_reducible exact gwider hgw _) | (with_reducible refine galloc ?_ _) | (with_reducible refine gdrewN ?_ _) | (with_reducible refine gdrew ?_) | (with_reducible refine gset ?_ (by first | exact .inr rfl | exact .inl (by simp; try omega)) _)))
      have A := hA.kept hgw (by simp)
      have e2 := E2.out
      simp only [askB, if_true] at e2
      have := ask2_down b (w.heap.size + 1) (w.heap.size + 1 + 1) v f m W A.c0 A.c1 hv' hf hvf (hW.cell (by go_simp) (by simp)) (hW.cell (by go_simp) (by simp))
      rw [e2] at this
      exact this
    · intro W hW
      have hgw : w.grownBy W none := by refine gtrans ?_ hW; (repeat' (first | (with_reducible exact World.grownBy.refl _ _) | (with_reducible exact gwider hgw _) | (with_reducible refine galloc ?_ _) | (with_reducible refine gdrewN ?_ _) | (with_reducible refine gdrew ?_) | (with_reducible refine gset ?_ (by first | exact .inr rfl | exact .inl (by simp; try omega)) _)))
      have A := hA.kept hgw (by simp)
      have := ask3_any b w.heap.size n W A.c2 (hW.cell (by go_simp) (by simp))
      rw [E3.out] at this
      exact this
    rintro e w1 ⟨rfl, hg⟩
    have hgw : w.grownBy w1 none := by refine gtrans ?_ hg; (repeat' (first | (with_reducible exact World.grownBy.refl _ _) | (with_reducible exact gwider hgw _) | (with_reducible refine galloc ?_ _) | (with_reducible refine gdrewN ?_ _) | (with_reducible refine gdrew ?_) | (with_reducible refine gset ?_ (by first | exact .inr rfl | exact .inl (by simp; try omega)) _)))
    have A := hA.kept hgw (by simp)
    have a0 := A.c0
    have a1 := A.c1
    have a2 := A.c2
    have a3 := A.c3
    have z0 := A.z 0
    have z1 := A.z 1
    have z2 := A.z 2
    have z3 := A.z 3
    have x0 : w1.cell? ⟨w.heap.size, 0, none⟩ = some (.pointer (some ⟨b, 0, none⟩)) := hg.cell (by go_simp) (by simp)
    have x1 : w1.cell? ⟨w.heap.size + 1, 0, none⟩ = some (.int .u64 m) := hg.cell (by go_simp) (by simp)
    have hs : w.heap.size + 1 < w1.heap.size := by have := hg.size; simp at this; omega
    have hs0 : w.heap.size < w1.heap.size := by omega
    have hb1 : b < w1.heap.size := by omega
    have hs' : w.heap.size + 1 < w1.heap.size + 1 := by omega
    have hs0' : w.heap.size < w1.heap.size + 1 := by omega
    have hb1' : b < w1.heap.size + 1 := by omega
    have HA := Lib.hid A
    clear hg E1 E2 E3 hA A
    unfold firstV
    go_wp2_with fail
    refine (less_any b v m _ (by go_simp) (by go_simp) hv hv' hm (by omega)).mono ?_
    rintro e w2 ⟨rfl, rfl⟩
    have y0 : ¬ (w.heap.size = b) := by omega
    have y1 : ¬ (w.heap.size + 1 = b) := by omega
    go_wp2_with fail
    try rw [fwd_ret]
    go_ret
    exact ⟨rfl, by (repeat' (first | (with_reducible exact World.grownBy.refl _ _) | (with_reducible exact gwider hgw _) | (with_reducible refine galloc ?_ _) | (with_reducible refine gdrewN ?_ _) | (with_reducible refine gdrew ?_) | (with_reducible refine gset ?_ (by first | exact .inr rfl | exact .inl (by simp; try omega)) _))), HA.out.moved _ _ _ _⟩
end Go.Proofs.Ytgcejfcfaaidhaa
