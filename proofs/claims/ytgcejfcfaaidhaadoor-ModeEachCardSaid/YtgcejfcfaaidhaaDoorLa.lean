/- The walk of the law ModePairs. The tables are laid. -/
import Derived.Test.YtgcejfcfaaidhaaDoorWk
set_option linter.unusedSimpArgs false
set_option linter.unusedVariables false
namespace Go.Proofs.YtgcejfcfaaidhaaDoor
open Go.RowKit ref

theorem checkT (a : Int) (w : World) : Tells Tryd.prog w 13 #[.int .i64 a] (.int .i64 (if isM a then 0 else 130)) := .pure (check_any a)

set_option maxRecDepth 100000 in
set_option maxHeartbeats 4000000 in
theorem pairs_both (i j : Nat) (hi : i < 6) (hj : j < 6) (w : World) (hT : Tabs w) (hN : TabN w) : Tells Tryd.prog w 3 #[.int .i64 i, .int .i64 j] (.bool true) := by
  have mi : isM (i : Int) = true := by simp [isM]; omega
  have mj : isM (j : Int) = true := by simp [isM]; omega
  have T1 := fitsT' i j w hT
  have T2 := coversT' i j w hT
  rw [show askV (fitB (i : Int).toNat (j : Int).toNat) i j = .tuple #[.bool (fitB i j), .int .i64 0] by simp [askV, mi, mj]] at T1
  rw [show askV (covB (i : Int).toNat (j : Int).toNat) i j = .tuple #[.bool (covB i j), .int .i64 0] by simp [askV, mi, mj]] at T2
  have T3 := checkT i w
  rw [mi, if_pos rfl] at T3
  have T4 := rightT i w
  have T5 := rightT j w
  rw [mi] at T4
  rw [mj] at T5
  have T6 := fitsT i j hi hj w
  have T7 := coversT i j hi hj w
  have TW := works w hT hN
  have NT := fun x => numT x w
  generalize fitB i j = p at *
  generalize covB i j = q at *
  clear hT hN mi mj hi hj
  refine .walk fun b w1 hb g hs => ?_
  go_enter Tryd.func3, Tryd.ntmps3
  go_wp2_with (with_reducible apply Tells.arm (w := w) (b := b); (first | with_reducible assumption | (refine NT _)); (with_reducible exact hb); (focus (first | with_reducible exact g | (repeat' (first | (with_reducible exact World.grownBy.refl _ _) | (with_reducible assumption) | (with_reducible refine galloc ?_ _) | (with_reducible refine gdrewN ?_ _) | (with_reducible refine gdrew ?_) | (with_reducible refine gset ?_ (.inl ?_) _) | (with_reducible refine gput ?_ (.inl ?_) _) | (refine gtrans ?_ (by with_reducible assumption)) | omega | (simp; done) | (simp; omega))))); intro w' g' h'; clear h' g; have g := g'; clear g')
  go_ret
  exact ⟨by first | rfl | (simp; done) | (simp; omega), by (repeat' (first | (with_reducible exact World.grownBy.refl _ _) | (with_reducible assumption) | (with_reducible refine galloc ?_ _) | (with_reducible refine gdrewN ?_ _) | (with_reducible refine gdrew ?_) | (with_reducible refine gset ?_ (.inl ?_) _) | (with_reducible refine gput ?_ (.inl ?_) _) | (refine gtrans ?_ (by with_reducible assumption)) | omega | (simp; done) | (simp; omega)))⟩

set_option maxRecDepth 100000 in
set_option maxHeartbeats 4000000 in
theorem pairs_bad (a b : Int) (hab : (isM a && isM b) = false) (w : World) (hT : Tabs w) (hN : TabN w) : Tells Tryd.prog w 3 #[.int .i64 a, .int .i64 b] (.bool true) := by
  have T1 := fitsT' a b w hT
  have T2 := coversT' a b w hT
  rw [show askV (fitB a.toNat b.toNat) a b = .tuple #[.bool false, .int .i64 130] by simp [askV, hab]] at T1
  rw [show askV (covB a.toNat b.toNat) a b = .tuple #[.bool false, .int .i64 130] by simp [askV, hab]] at T2
  have T3 := checkT a w
  have T4 := rightT a w
  have T5 := rightT b w
  have TW := works w hT hN
  have NT := fun x => numT x w
  rw [Bool.and_eq_false_iff] at hab
  cases ha : isM a
  · rw [ha] at T3 T4
    simp only [if_false, Bool.false_eq_true] at T3
    clear hT hN hab ha
    refine .walk fun b w1 hb g hs => ?_
    go_enter Tryd.func3, Tryd.ntmps3
    go_wp2_with (with_reducible apply Tells.arm (w := w) (b := b); (first | with_reducible assumption | (refine NT _)); (with_reducible exact hb); (focus (first | with_reducible exact g | (repeat' (first | (with_reducible exact World.grownBy.refl _ _) | (with_reducible assumption) | (with_reducible refine galloc ?_ _) | (with_reducible refine gdrewN ?_ _) | (with_reducible refine gdrew ?_) | (with_reducible refine gset ?_ (.inl ?_) _) | (with_reducible refine gput ?_ (.inl ?_) _) | (refine gtrans ?_ (by with_reducible assumption)) | omega | (simp; done) | (simp; omega))))); intro w' g' h'; clear h' g; have g := g'; clear g')
    go_ret
    exact ⟨by first | rfl | (simp; done) | (simp; omega), by (repeat' (first | (with_reducible exact World.grownBy.refl _ _) | (with_reducible assumption) | (with_reducible refine galloc ?_ _) | (with_reducible refine gdrewN ?_ _) | (with_reducible refine gdrew ?_) | (with_reducible refine gset ?_ (.inl ?_) _) | (with_reducible refine gput ?_ (.inl ?_) _) | (refine gtrans ?_ (by with_reducible assumption)) | omega | (simp; done) | (simp; omega)))⟩
  · have hb : isM b = false := by rw [ha] at hab; simpa using hab
    rw [ha, if_pos rfl] at T3
    rw [ha] at T4
    rw [hb] at T5
    clear hT hN hab ha hb
    refine .walk fun b w1 hb g hs => ?_
    go_enter Tryd.func3, Tryd.ntmps3
    go_wp2_with (with_reducible apply Tells.arm (w := w) (b := b); (first | with_reducible assumption | (refine NT _)); (with_reducible exact hb); (focus (first | with_reducible exact g | (repeat' (first | (with_reducible exact World.grownBy.refl _ _) | (with_reducible assumption) | (with_reducible refine galloc ?_ _) | (with_reducible refine gdrewN ?_ _) | (with_reducible refine gdrew ?_) | (with_reducible refine gset ?_ (.inl ?_) _) | (with_reducible refine gput ?_ (.inl ?_) _) | (refine gtrans ?_ (by with_reducible assumption)) | omega | (simp; done) | (simp; omega))))); intro w' g' h'; clear h' g; have g := g'; clear g')
    go_ret
    exact ⟨by first | rfl | (simp; done) | (simp; omega), by (repeat' (first | (with_reducible exact World.grownBy.refl _ _) | (with_reducible assumption) | (with_reducible refine galloc ?_ _) | (with_reducible refine gdrewN ?_ _) | (with_reducible refine gdrew ?_) | (with_reducible refine gset ?_ (.inl ?_) _) | (with_reducible refine gput ?_ (.inl ?_) _) | (refine gtrans ?_ (by with_reducible assumption)) | omega | (simp; done) | (simp; omega)))⟩
theorem pairs (a b : Int) (w : World) (hT : Tabs w) (hN : TabN w) : Tells Tryd.prog w 3 #[.int .i64 a, .int .i64 b] (.bool true) := by
  cases h : (isM a && isM b)
  · exact pairs_bad a b h w hT hN
  · simp only [isM, Bool.and_eq_true, decide_eq_true_eq] at h
    obtain ⟨i, rfl⟩ := Int.eq_ofNat_of_zero_le h.1.1
    obtain ⟨j, rfl⟩ := Int.eq_ofNat_of_zero_le h.2.1
    exact pairs_both i j (by omega) (by omega) w hT hN
end Go.Proofs.YtgcejfcfaaidhaaDoor
