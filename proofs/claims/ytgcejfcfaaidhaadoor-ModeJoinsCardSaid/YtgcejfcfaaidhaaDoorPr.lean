/- Fits and Covers tell, for every two modes and for what is none, what the tables say, or the error. The tables are laid. -/
import Derived.Test.YtgcejfcfaaidhaaDoorTab
import Derived.Test.YtgcejfcfaaidhaaDoorLib3
import Derived.Lib.Hide
set_option linter.unusedSimpArgs false
set_option linter.unusedVariables false
namespace Go.Proofs.YtgcejfcfaaidhaaDoor
open Go.RowKit

/-- It is a mode. -/
def isM (a : Int) : Bool := decide (0 ≤ a) && decide (a < 6)

set_option maxRecDepth 100000 in
set_option maxHeartbeats 400000 in
theorem right_any (a : Int) (w : World) : Calls Tryd.prog 69 #[.agg #[.int .i64 a]] w fun e w' => e = .returned (.bool (isM a)) ∧ w.grownBy w' none := by
  by_cases h1 : 0 ≤ a
  · by_cases h2 : a < 6
    · rw [show isM a = true by simp [isM, h1, h2]]
      go_enter Tryd.func69, Tryd.ntmps69
      go_wp2
      go_ret
      exact ⟨by first | rfl | (simp; done) | (simp; omega), galloc (World.grownBy.refl _ _) _⟩
    · rw [show isM a = false by simp [isM, h1, h2]]
      go_enter Tryd.func69, Tryd.ntmps69
      go_wp2
      go_ret
      exact ⟨by first | rfl | (simp; done) | (simp; omega), galloc (World.grownBy.refl _ _) _⟩
  · rw [show isM a = false by simp [isM, h1]]
    go_enter Tryd.func69, Tryd.ntmps69
    go_wp2
    go_ret
    exact ⟨by first | rfl | (simp; done) | (simp; omega), galloc (World.grownBy.refl _ _) _⟩

set_option maxRecDepth 100000 in
set_option maxHeartbeats 400000 in
theorem both_any (a b : Int) (w : World) : Calls Tryd.prog 66 #[.agg #[.int .i64 a, .int .i64 b]] w fun e w' => e = .returned (.bool (isM a && isM b)) ∧ w.grownBy w' none := by
  have R := Lib.hid right_any
  cases ha : isM a
  · have RA := fun W => R.out a W
    rw [ha] at RA
    have RA' := Lib.hid RA
    clear RA ha
    go_enter Tryd.func66, Tryd.ntmps66
    go_wp2_with (go_at_call 69; refine (RA'.out _).mono ?_; rintro e w1 ⟨rfl, hg⟩)
    go_ret
    exact ⟨rfl, by refine gtrans ?_ hg; (repeat' (first | (with_reducible exact World.grownBy.refl _ _) | (with_reducible assumption) | (with_reducible refine galloc ?_ _) | (with_reducible refine gdrewN ?_ _) | (with_reducible refine gdrew ?_) | (with_reducible refine gset ?_ (.inl (by simp; try omega)) _)))⟩
  · have RA := fun W => R.out a W
    rw [ha] at RA
    have RA' := Lib.hid RA
    clear RA ha
    go_enter Tryd.func66, Tryd.ntmps66
    go_wp2_with fail
    refine (RA'.out _).mono ?_
    rintro e w1 ⟨rfl, hg⟩
    have c1 : w1.cell? ⟨w.heap.size, 1, none⟩ = some (.int .i64 b) := hg.cell (by go_simp) (by simp)
    have g1 : w.grownBy w1 none := by refine gtrans ?_ hg; (repeat' (first | (with_reducible exact World.grownBy.refl _ _) | (with_reducible assumption) | (with_reducible refine galloc ?_ _) | (with_reducible refine gdrewN ?_ _) | (with_reducible refine gdrew ?_) | (with_reducible refine gset ?_ (.inl (by simp; try omega)) _)))
    clear hg
    go_wp2_with (go_at_call 69; refine (R.out _ _).mono ?_; rintro e w2 ⟨rfl, hg⟩)
    go_ret
    exact ⟨by simp, by refine gtrans ?_ hg; (repeat' (first | (with_reducible exact World.grownBy.refl _ _) | (with_reducible assumption) | (with_reducible refine galloc ?_ _) | (with_reducible refine gdrewN ?_ _) | (with_reducible refine gdrew ?_) | (with_reducible refine gset ?_ (.inl (by simp; try omega)) _)))⟩

set_option maxRecDepth 100000 in
set_option maxHeartbeats 400000 in
theorem fits_ij (i j : Nat) (hi : i < 6) (hj : j < 6) (w : World) (hT : Tabs w) : Calls Tryd.prog 46 #[.agg #[.int .i64 i, .int .i64 j]] w fun e w' => e = .returned (.bool (fitB i j)) ∧ w.grownBy w' none := by
  have hc := hT.fits i j hi hj
  have hl : 0 < w.heap.size := World.block_lt_of_cell? w _ hc
  have e1 : (i : Int) < 6 := by omega
  have e2 : (j : Int) < 6 := by omega
  have hl1 : 0 < w.heap.size + 1 := by omega
  clear hT hi hj
  go_enter Tryd.func46, Tryd.ntmps46
  go_wp2_with fail
  go_quiet (fail)
  go_wp2_with fail
  go_ret
  exact ⟨rfl, by (repeat' (first | (with_reducible exact World.grownBy.refl _ _) | (with_reducible assumption) | (with_reducible refine galloc ?_ _) | (with_reducible refine gdrewN ?_ _) | (with_reducible refine gdrew ?_) | (with_reducible refine gset ?_ (.inl (by simp; try omega)) _)))⟩

set_option maxRecDepth 100000 in
set_option maxHeartbeats 400000 in
theorem covers_ij (i j : Nat) (hi : i < 6) (hj : j < 6) (w : World) (hT : Tabs w) : Calls Tryd.prog 47 #[.agg #[.int .i64 i, .int .i64 j]] w fun e w' => e = .returned (.bool (covB i j)) ∧ w.grownBy w' none := by
  have hc := hT.covers i j hi hj
  have hl : 2 < w.heap.size := World.block_lt_of_cell? w _ hc
  have e1 : (i : Int) < 6 := by omega
  have e2 : (j : Int) < 6 := by omega
  have hl1 : 2 < w.heap.size + 1 := by omega
  clear hT hi hj
  go_enter Tryd.func47, Tryd.ntmps47
  go_wp2_with fail
  go_quiet (fail)
  go_wp2_with fail
  go_ret
  exact ⟨rfl, by (repeat' (first | (with_reducible exact World.grownBy.refl _ _) | (with_reducible assumption) | (with_reducible refine galloc ?_ _) | (with_reducible refine gdrewN ?_ _) | (with_reducible refine gdrew ?_) | (with_reducible refine gset ?_ (.inl (by simp; try omega)) _)))⟩

theorem Tabs.grown {w W : World} (h : Tabs w) (hg : w.grownBy W none) : Tabs W :=
  ⟨fun i j hi hj => gcell hg (h.fits i j hi hj) (by simp), fun i j hi hj => gcell hg (h.covers i j hi hj) (by simp)⟩

/-- What a question of two modes tells: the answer, or the error. -/
def askV (r : Bool) (a b : Int) : Value := if isM a && isM b then .tuple #[.bool r, .int .i64 0] else .tuple #[.bool false, .int .i64 130]

set_option maxRecDepth 100000 in
set_option maxHeartbeats 1000000 in
theorem ask_fits (r : Bool) (a b : Int) (w : World) (Q : isM a = true → isM b = true → ∀ W, w.grownBy W none → Calls Tryd.prog 46 #[.agg #[.int .i64 a, .int .i64 b]] W fun e w' => e = .returned (.bool r) ∧ W.grownBy w' none) :
    Calls Tryd.prog 45 #[.func (.func 46) #[] #[], .int .i64 a, .int .i64 b] w fun e w' => e = .returned (askV r a b) ∧ w.grownBy w' none := by
  have B := fun W => both_any a b W
  cases h : (isM a && isM b)
  · rw [h] at B
    rw [show askV r a b = .tuple #[.bool false, .int .i64 130] by simp [askV, h]]
    have B' := Lib.hid B
    clear B Q h
    go_enter Tryd.func45, Tryd.ntmps45
    go_wp2
    refine wp_scope_fwd ?_
    go_wp2_with fail
    refine (B'.out _).mono ?_
    rintro e w1 ⟨rfl, hg⟩
    have g1 : w.grownBy w1 none := by refine gtrans ?_ hg; (repeat' (first | (with_reducible exact World.grownBy.refl _ _) | (with_reducible assumption) | (with_reducible refine galloc ?_ _) | (with_reducible refine gdrewN ?_ _) | (with_reducible refine gdrew ?_) | (with_reducible refine gset ?_ (.inl (by simp; try omega)) _)))
    clear hg
    go_wp2_with fail
    apply wp_goto
    simp only [Exit.then, Exit.inBlock]
    refine ⟨_, rfl, ?_⟩
    go_wp2_with fail
    rw [Exit.noGoto_ret]
    go_ret2
    exact ⟨rfl, g1⟩
  · rw [h] at B
    rw [show askV r a b = .tuple #[.bool r, .int .i64 0] by simp [askV, h]]
    simp only [Bool.and_eq_true] at h
    have B' := Lib.hid B
    have Q' := Lib.hid (Q h.1 h.2)
    clear B Q h
    go_enter Tryd.func45, Tryd.ntmps45
    go_wp2
    go_step3
    go_wp2_with fail
    refine (B'.out _).mono ?_
    rintro e w1 ⟨rfl, hg⟩
    have g1 : w.grownBy w1 none := by refine gtrans ?_ hg; (repeat' (first | (with_reducible exact World.grownBy.refl _ _) | (with_reducible assumption) | (with_reducible refine galloc ?_ _) | (with_reducible refine gdrewN ?_ _) | (with_reducible refine gdrew ?_) | (with_reducible refine gset ?_ (.inl (by simp; try omega)) _)))
    have c0 : w1.cell? ⟨w.heap.size, 0, none⟩ = some (.int .i64 a) := hg.cell (by go_simp) (by simp)
    have c1 : w1.cell? ⟨w.heap.size, 1, none⟩ = some (.int .i64 b) := hg.cell (by go_simp) (by simp)
    clear hg
    go_wp2_with fail
    refine (Q'.out _ g1).mono ?_
    rintro e w2 ⟨rfl, hg⟩
    go_wp2_with fail
    try rw [Exit.noGoto_ret]
    go_ret2
    exact ⟨rfl, gtrans g1 hg⟩

set_option maxRecDepth 100000 in
set_option maxHeartbeats 1000000 in
theorem ask_covers (r : Bool) (a b : Int) (w : World) (Q : isM a = true → isM b = true → ∀ W, w.grownBy W none → Calls Tryd.prog 47 #[.agg #[.int .i64 a, .int .i64 b]] W fun e w' => e = .returned (.bool r) ∧ W.grownBy w' none) :
    Calls Tryd.prog 45 #[.func (.func 47) #[] #[], .int .i64 a, .int .i64 b] w fun e w' => e = .returned (askV r a b) ∧ w.grownBy w' none := by
  have B := fun W => both_any a b W
  cases h : (isM a && isM b)
  · rw [h] at B
    rw [show askV r a b = .tuple #[.bool false, .int .i64 130] by simp [askV, h]]
    have B' := Lib.hid B
    clear B Q h
    go_enter Tryd.func45, Tryd.ntmps45
    go_wp2
    refine wp_scope_fwd ?_
    go_wp2_with fail
    refine (B'.out _).mono ?_
    rintro e w1 ⟨rfl, hg⟩
    have g1 : w.grownBy w1 none := by refine gtrans ?_ hg; (repeat' (first | (with_reducible exact World.grownBy.refl _ _) | (with_reducible assumption) | (with_reducible refine galloc ?_ _) | (with_reducible refine gdrewN ?_ _) | (with_reducible refine gdrew ?_) | (with_reducible refine gset ?_ (.inl (by simp; try omega)) _)))
    clear hg
    go_wp2_with fail
    apply wp_goto
    simp only [Exit.then, Exit.inBlock]
    refine ⟨_, rfl, ?_⟩
    go_wp2_with fail
    rw [Exit.noGoto_ret]
    go_ret2
    exact ⟨rfl, g1⟩
  · rw [h] at B
    rw [show askV r a b = .tuple #[.bool r, .int .i64 0] by simp [askV, h]]
    simp only [Bool.and_eq_true] at h
    have B' := Lib.hid B
    have Q' := Lib.hid (Q h.1 h.2)
    clear B Q h
    go_enter Tryd.func45, Tryd.ntmps45
    go_wp2
    go_step3
    go_wp2_with fail
    refine (B'.out _).mono ?_
    rintro e w1 ⟨rfl, hg⟩
    have g1 : w.grownBy w1 none := by refine gtrans ?_ hg; (repeat' (first | (with_reducible exact World.grownBy.refl _ _) | (with_reducible assumption) | (with_reducible refine galloc ?_ _) | (with_reducible refine gdrewN ?_ _) | (with_reducible refine gdrew ?_) | (with_reducible refine gset ?_ (.inl (by simp; try omega)) _)))
    have c0 : w1.cell? ⟨w.heap.size, 0, none⟩ = some (.int .i64 a) := hg.cell (by go_simp) (by simp)
    have c1 : w1.cell? ⟨w.heap.size, 1, none⟩ = some (.int .i64 b) := hg.cell (by go_simp) (by simp)
    clear hg
    go_wp2_with fail
    refine (Q'.out _ g1).mono ?_
    rintro e w2 ⟨rfl, hg⟩
    go_wp2_with fail
    try rw [Exit.noGoto_ret]
    go_ret2
    exact ⟨rfl, gtrans g1 hg⟩

theorem Fits_any (a b : Int) (w : World) (hT : Tabs w) : Calls Tryd.prog 10 #[.int .i64 a, .int .i64 b] w fun e w' => e = .returned (askV (fitB a.toNat b.toNat) a b) ∧ w.grownBy w' none := by
  have A := fun W (hW : w.grownBy W none) => ask_fits (fitB a.toNat b.toNat) a b W (fun ha hb W' hW' => by
    simp only [isM, Bool.and_eq_true, decide_eq_true_eq] at ha hb
    obtain ⟨i, rfl⟩ := Int.eq_ofNat_of_zero_le ha.1
    obtain ⟨j, rfl⟩ := Int.eq_ofNat_of_zero_le hb.1
    simp only [Int.toNat_natCast]
    exact fits_ij i j (by omega) (by omega) W' ((hT.grown hW).grown hW'))
  have hv : ∃ r er, askV (fitB a.toNat b.toNat) a b = .tuple #[.bool r, .int .i64 er] := by
    unfold askV
    split
    · exact ⟨_, _, rfl⟩
    · exact ⟨_, _, rfl⟩
  obtain ⟨r, er, hv⟩ := hv
  rw [hv] at A ⊢
  have A' := Lib.hid A
  clear A hv hT
  go_enter Tryd.func10, Tryd.ntmps10
  go_wp2_with (go_at_call 45; refine (A'.out _ (World.grownBy.refl _ _)).mono ?_; rintro e w1 ⟨rfl, hg⟩)
  go_ret2
  exact ⟨rfl, hg⟩

theorem Covers_any (a b : Int) (w : World) (hT : Tabs w) : Calls Tryd.prog 11 #[.int .i64 a, .int .i64 b] w fun e w' => e = .returned (askV (covB a.toNat b.toNat) a b) ∧ w.grownBy w' none := by
  have A := fun W (hW : w.grownBy W none) => ask_covers (covB a.toNat b.toNat) a b W (fun ha hb W' hW' => by
    simp only [isM, Bool.and_eq_true, decide_eq_true_eq] at ha hb
    obtain ⟨i, rfl⟩ := Int.eq_ofNat_of_zero_le ha.1
    obtain ⟨j, rfl⟩ := Int.eq_ofNat_of_zero_le hb.1
    simp only [Int.toNat_natCast]
    exact covers_ij i j (by omega) (by omega) W' ((hT.grown hW).grown hW'))
  have hv : ∃ r er, askV (covB a.toNat b.toNat) a b = .tuple #[.bool r, .int .i64 er] := by
    unfold askV
    split
    · exact ⟨_, _, rfl⟩
    · exact ⟨_, _, rfl⟩
  obtain ⟨r, er, hv⟩ := hv
  rw [hv] at A ⊢
  have A' := Lib.hid A
  clear A hv hT
  go_enter Tryd.func11, Tryd.ntmps11
  go_wp2_with (go_at_call 45; refine (A'.out _ (World.grownBy.refl _ _)).mono ?_; rintro e w1 ⟨rfl, hg⟩)
  go_ret2
  exact ⟨rfl, hg⟩

end Go.Proofs.YtgcejfcfaaidhaaDoor
