/- A move that is refused answers the refusal and no counter. -/
import Derived.Test.YtgcejfcfaaidhaaMv
set_option linter.unusedSimpArgs false
set_option linter.unusedVariables false
namespace Go.Proofs.Ytgcejfcfaaidhaa
open Go.RowKit

/-- Block b is an account. -/
structure Acct (w : World) (b : Nat) (v f n d : Int) : Prop where
  c0 : w.cell? ⟨b, 0, none⟩ = some (.int .i64 v)
  c1 : w.cell? ⟨b, 1, none⟩ = some (.int .i64 f)
  c2 : w.cell? ⟨b, 2, none⟩ = some (.int .u64 n)
  c3 : w.cell? ⟨b, 3, none⟩ = some (.int .i64 d)
  z : ∀ o, w.frozen? ⟨b, o, none⟩ = false
theorem Acct.lt {w : World} {b : Nat} {v f n d : Int} (h : Acct w b v f n d) : b < w.heap.size := World.block_lt_of_cell? w _ h.c0
theorem Acct.kept {w W : World} {b : Nat} {v f n d : Int} {row : Option Nat} (h : Acct w b v f n d) (hg : w.grownBy W row) (hne : some b ≠ row) : Acct W b v f n d :=
  ⟨gcell hg h.c0 hne, gcell hg h.c1 hne, gcell hg h.c2 hne, gcell hg h.c3 hne, fun o => (World.frozen?_of_block (hg.block b h.lt hne)).trans (h.z o)⟩

def lowE (down : Bool) : Int := if down then 140 else 141
def askB (down : Bool) (v f m : Int) : Bool := if down then decide (v - f < m) else decide (9223372036854775807 - v < m)

set_option maxRecDepth 100000 in
set_option maxHeartbeats 2000000 in
theorem move_bad (b : Nat) (v f n d m : Int) (down : Bool) (w : World) (hA : Acct w b v f n d)
    (hv : -9223372036854775808 ≤ v) (hv' : v ≤ 9223372036854775807) (hf : -9223372036854775808 ≤ f)
    (r1 r2 r3 : Bool) (e1 : (!rightB v f n || m == 0) = r1) (e2 : askB down v f m = r2) (e3 : (n == 4611686018427387904) = r3) (hr : (r1 || r2 || r3) = true) :
    Calls Try.prog 25 #[.pointer (some ⟨b, 0, none⟩), .bool down, .int .u64 m] w fun e w' => e = .returned (.int .i64 (if r1 then 2 else if r2 then lowE down else 142)) ∧ w.grownBy w' none := by
  have hmf : ∀ (fn : Fn) (first cap : Array Value) (w : World), (Instr.makeFunc fn first cap).run Try.prog w = .ok (.func fn first cap) w := fun _ _ _ _ => rfl
  have hb := hA.lt
  have E1 := Lib.hid e1
  have E2 := Lib.hid e2
  have E3 := Lib.hid e3
  clear e1 e2 e3
  go_enter Try.func25, Try.ntmps25
  go_wp2
  refine wp_scope_fwd ?_
  go_wp2
  go_region
  cases down
  · go_wp2_with fail
    refine (first_any (w.heap.size + 1 + 1 + 1) w.heap.size (w.heap.size + 1) (w.heap.size + 1 + 1) 141 r1 r2 r3 _ (by go_simp) (by go_simp) (by go_simp) (by go_simp) (by go_simp) (by go_simp) ?_ ?_ ?_).mono ?_
    · intro W hW
      have hgw : w.grownBy W none := by refine gtrans ?_ hW; (repeat' (first | (with_reducible exact World.grownBy.refl _ _) | (with_reducible assumption) | (with_reducible refine galloc ?_ _) | (with_reducible refine gdrewN ?_ _) | (with_reducible refine gdrew ?_) | (with_reducible refine gset ?_ (.inl (by simp; try omega)) _)))
      have A := hA.kept hgw (by simp)
      have := ask1_any b w.heap.size (w.heap.size + 1) v f n m W A.c0 A.c1 A.c2 (hW.cell (by go_simp) (by simp)) (hW.cell (by go_simp) (by simp))
      rw [E1.out] at this
      exact this
    · intro h1 W hW
      have hgw : w.grownBy W none := by refine gtrans ?_ hW; (repeat' (first | (with_reducible exact World.grownBy.refl _ _) | (with_reducible assumption) | (with_reducible refine galloc ?_ _) | (with_reducible refine gdrewN ?_ _) | (with_reducible refine gdrew ?_) | (with_reducible refine gset ?_ (.inl (by simp; try omega)) _)))
      have A := hA.kept hgw (by simp)
      have e2 := E2.out
      simp only [askB, Bool.false_eq_true, if_false] at e2
      have := ask2_up b (w.heap.size + 1) (w.heap.size + 1 + 1) v m W A.c0 hv hv' (hW.cell (by go_simp) (by simp)) (hW.cell (by go_simp) (by simp))
      rw [e2] at this
      exact this
    · intro W hW
      have hgw : w.grownBy W none := by refine gtrans ?_ hW; (repeat' (first | (with_reducible exact World.grownBy.refl _ _) | (with_reducible assumption) | (with_reducible refine galloc ?_ _) | (with_reducible refine gdrewN ?_ _) | (with_reducible refine gdrew ?_) | (with_reducible refine gset ?_ (.inl (by simp; try omega)) _)))
      have A := hA.kept hgw (by simp)
      have := ask3_any b w.heap.size n W A.c2 (hW.cell (by go_simp) (by simp))
      rw [E3.out] at this
      exact this
    rintro e w1 ⟨rfl, hg⟩
    have hgw : w.grownBy w1 none := by refine gtrans ?_ hg; (repeat' (first | (with_reducible exact World.grownBy.refl _ _) | (with_reducible assumption) | (with_reducible refine galloc ?_ _) | (with_reducible refine gdrewN ?_ _) | (with_reducible refine gdrew ?_) | (with_reducible refine gset ?_ (.inl (by simp; try omega)) _)))
    clear hg E1 E2 E3
    unfold firstV
    have hcase : (r1 = true) ∨ (r1 = false ∧ r2 = true) ∨ (r1 = false ∧ r2 = false ∧ r3 = true) := by cases r1 <;> cases r2 <;> cases r3 <;> simp_all
    clear hr
    rcases hcase with rfl | ⟨rfl, rfl⟩ | ⟨rfl, rfl, rfl⟩
    · go_wp2_with fail
      apply wp_goto
      simp only [Exit.then, Exit.inBlock]
      refine ⟨_, rfl, ?_⟩
      go_wp2_with fail
      try rw [Exit.noGoto_ret]
      go_ret
      exact ⟨rfl, by (repeat' (first | (with_reducible exact World.grownBy.refl _ _) | (with_reducible assumption) | (with_reducible refine galloc ?_ _) | (with_reducible refine gdrewN ?_ _) | (with_reducible refine gdrew ?_) | (with_reducible refine gset ?_ (.inl (by simp; try omega)) _)))⟩
    · go_wp2_with fail
      apply wp_goto
      simp only [Exit.then, Exit.inBlock]
      refine ⟨_, rfl, ?_⟩
      go_wp2_with fail
      try rw [Exit.noGoto_ret]
      go_ret
      exact ⟨rfl, by (repeat' (first | (with_reducible exact World.grownBy.refl _ _) | (with_reducible assumption) | (with_reducible refine galloc ?_ _) | (with_reducible refine gdrewN ?_ _) | (with_reducible refine gdrew ?_) | (with_reducible refine gset ?_ (.inl (by simp; try omega)) _)))⟩
    · go_wp2_with fail
      apply wp_goto
      simp only [Exit.then, Exit.inBlock]
      refine ⟨_, rfl, ?_⟩
      go_wp2_with fail
      try rw [Exit.noGoto_ret]
      go_ret
      exact ⟨rfl, by (repeat' (first | (with_reducible exact World.grownBy.refl _ _) | (with_reducible assumption) | (with_reducible refine galloc ?_ _) | (with_reducible refine gdrewN ?_ _) | (with_reducible refine gdrew ?_) | (with_reducible refine gset ?_ (.inl (by simp; try omega)) _)))⟩
  · go_wp2_with fail
    go_region
    go_wp2_with fail
    refine (first_any (w.heap.size + 1 + 1 + 1) w.heap.size (w.heap.size + 1) (w.heap.size + 1 + 1) 140 r1 r2 r3 _ (by go_simp) (by go_simp) (by go_simp) (by go_simp) (by go_simp) (by go_simp) ?_ ?_ ?_).mono ?_
    · intro W hW
      have hgw : w.grownBy W none := by refine gtrans ?_ hW; (repeat' (first | (with_reducible exact World.grownBy.refl _ _) | (with_reducible assumption) | (with_reducible refine galloc ?_ _) | (with_reducible refine gdrewN ?_ _) | (with_reducible refine gdrew ?_) | (with_reducible refine gset ?_ (.inl (by simp; try omega)) _)))
      have A := hA.kept hgw (by simp)
      have := ask1_any b w.heap.size (w.heap.size + 1) v f n m W A.c0 A.c1 A.c2 (hW.cell (by go_simp) (by simp)) (hW.cell (by go_simp) (by simp))
      rw [E1.out] at this
      exact this
    · intro h1 W hW
      have hgw : w.grownBy W none := by refine gtrans ?_ hW; (repeat' (first | (with_reducible exact World.grownBy.refl _ _) | (with_reducible assumption) | (with_reducible refine galloc ?_ _) | (with_reducible refine gdrewN ?_ _) | (with_reducible refine gdrew ?_) | (with_reducible refine gset ?_ (.inl (by simp; try omega)) _)))
      have A := hA.kept hgw (by simp)
      have e2 := E2.out
      simp only [askB, if_true] at e2
      have hvf : f ≤ v := by have e1 := E1.out; rw [h1] at e1; simp at e1; exact (rightB_t e1.1).1
      have := ask2_down b (w.heap.size + 1) (w.heap.size + 1 + 1) v f m W A.c0 A.c1 hv' hf hvf (hW.cell (by go_simp) (by simp)) (hW.cell (by go_simp) (by simp))
      rw [e2] at this
      exact this
    · intro W hW
      have hgw : w.grownBy W none := by refine gtrans ?_ hW; (repeat' (first | (with_reducible exact World.grownBy.refl _ _) | (with_reducible assumption) | (with_reducible refine galloc ?_ _) | (with_reducible refine gdrewN ?_ _) | (with_reducible refine gdrew ?_) | (with_reducible refine gset ?_ (.inl (by simp; try omega)) _)))
      have A := hA.kept hgw (by simp)
      have := ask3_any b w.heap.size n W A.c2 (hW.cell (by go_simp) (by simp))
      rw [E3.out] at this
      exact this
    rintro e w1 ⟨rfl, hg⟩
    have hgw : w.grownBy w1 none := by refine gtrans ?_ hg; (repeat' (first | (with_reducible exact World.grownBy.refl _ _) | (with_reducible assumption) | (with_reducible refine galloc ?_ _) | (with_reducible refine gdrewN ?_ _) | (with_reducible refine gdrew ?_) | (with_reducible refine gset ?_ (.inl (by simp; try omega)) _)))
    clear hg E1 E2 E3
    unfold firstV
    have hcase : (r1 = true) ∨ (r1 = false ∧ r2 = true) ∨ (r1 = false ∧ r2 = false ∧ r3 = true) := by cases r1 <;> cases r2 <;> cases r3 <;> simp_all
    clear hr
    rcases hcase with rfl | ⟨rfl, rfl⟩ | ⟨rfl, rfl, rfl⟩
    · go_wp2_with fail
      apply wp_goto
      simp only [Exit.then, Exit.inBlock]
      refine ⟨_, rfl, ?_⟩
      go_wp2_with fail
      try rw [Exit.noGoto_ret]
      go_ret
      exact ⟨rfl, by (repeat' (first | (with_reducible exact World.grownBy.refl _ _) | (with_reducible assumption) | (with_reducible refine galloc ?_ _) | (with_reducible refine gdrewN ?_ _) | (with_reducible refine gdrew ?_) | (with_reducible refine gset ?_ (.inl (by simp; try omega)) _)))⟩
    · go_wp2_with fail
      apply wp_goto
      simp only [Exit.then, Exit.inBlock]
      refine ⟨_, rfl, ?_⟩
      go_wp2_with fail
      try rw [Exit.noGoto_ret]
      go_ret
      exact ⟨rfl, by (repeat' (first | (with_reducible exact World.grownBy.refl _ _) | (with_reducible assumption) | (with_reducible refine galloc ?_ _) | (with_reducible refine gdrewN ?_ _) | (with_reducible refine gdrew ?_) | (with_reducible refine gset ?_ (.inl (by simp; try omega)) _)))⟩
    · go_wp2_with fail
      apply wp_goto
      simp only [Exit.then, Exit.inBlock]
      refine ⟨_, rfl, ?_⟩
      go_wp2_with fail
      try rw [Exit.noGoto_ret]
      go_ret
      exact ⟨rfl, by (repeat' (first | (with_reducible exact World.grownBy.refl _ _) | (with_reducible assumption) | (with_reducible refine galloc ?_ _) | (with_reducible refine gdrewN ?_ _) | (with_reducible refine gdrew ?_) | (with_reducible refine gset ?_ (.inl (by simp; try omega)) _)))⟩

end Go.Proofs.Ytgcejfcfaaidhaa
