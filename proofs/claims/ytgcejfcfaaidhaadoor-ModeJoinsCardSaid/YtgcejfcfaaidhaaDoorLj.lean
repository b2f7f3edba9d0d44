/- The walks of the laws ModeHolds, where one is no mode, and ModeNames. The tables are laid. -/
import Derived.Test.YtgcejfcfaaidhaaDoorLh
set_option linter.unusedSimpArgs false
set_option linter.unusedVariables false
namespace Go.Proofs.YtgcejfcfaaidhaaDoor
open Go.RowKit ref

set_option maxRecDepth 100000 in
set_option maxHeartbeats 8000000 in
theorem holds_wrong (a b c : Int) (h : (isM a && isM b && isM c) = false) (w : World) (hT : Tabs w) (hN : TabN w) : Tells Tryd.prog w 7 #[.int .i64 a, .int .i64 b, .int .i64 c] (.bool true) := by
  have C1 := checkT a w
  have C2 := checkT b w
  have C3 := checkT c w
  have NT := fun x => numT x w
  have TW := works w hT hN
  clear hT hN
  generalize isM a = p at *
  generalize isM b = q at *
  generalize isM c = r at *
  cases p <;> cases q <;> cases r <;> simp only [Bool.and_true, Bool.true_and, Bool.and_false, Bool.false_and, reduceCtorEq] at h
  all_goals
    simp only [if_true, if_false, Bool.false_eq_true] at C1 C2 C3
    clear h
    refine .walk fun b w1 hb g hs => ?_
    go_enter Tryd.func7, Tryd.ntmps7
    go_wp2_with (with_reducible apply Tells.arm (w := w) (b := b); (first | with_reducible assumption | (refine NT _)); (with_reducible exact hb); (focus (first | with_reducible exact g | (repeat' (first | (with_reducible exact World.grownBy.refl _ _) | (with_reducible assumption) | (with_reducible refine galloc ?_ _) | (with_reducible refine gdrewN ?_ _) | (with_reducible refine gdrew ?_) | (with_reducible refine gset ?_ (.inl ?_) _) | (with_reducible refine gput ?_ (.inl ?_) _) | (refine gtrans ?_ (by with_reducible assumption)) | omega | (simp; done) | (simp; omega))))); intro w' g' h'; clear h' g; have g := g'; clear g')
    go_ret
    exact ⟨by first | rfl | (simp; done) | (simp; omega), by (repeat' (first | (with_reducible exact World.grownBy.refl _ _) | (with_reducible assumption) | (with_reducible refine galloc ?_ _) | (with_reducible refine gdrewN ?_ _) | (with_reducible refine gdrew ?_) | (with_reducible refine gset ?_ (.inl ?_) _) | (with_reducible refine gput ?_ (.inl ?_) _) | (refine gtrans ?_ (by with_reducible assumption)) | omega | (simp; done) | (simp; omega)))⟩
theorem holds (a b c : Int) (w : World) (hT : Tabs w) (hN : TabN w) : Tells Tryd.prog w 7 #[.int .i64 a, .int .i64 b, .int .i64 c] (.bool true) := by
  cases h : (isM a && isM b && isM c)
  · exact holds_wrong a b c h w hT hN
  · simp only [isM, Bool.and_eq_true, decide_eq_true_eq] at h
    obtain ⟨⟨⟨h1, h2⟩, h3, h4⟩, h5, h6⟩ := h
    obtain ⟨i, rfl⟩ := Int.eq_ofNat_of_zero_le h1
    obtain ⟨j, rfl⟩ := Int.eq_ofNat_of_zero_le h3
    obtain ⟨k, rfl⟩ := Int.eq_ofNat_of_zero_le h5
    exact holds_right i j k (by omega) (by omega) (by omega) w hT hN

theorem readsT (a : Int) (w : World) : Tells Tryd.prog w 26 #[.int .i64 a] (.bool (isM a && decide (3 ≤ a))) := .pure (reads_any a)
theorem writesT (a : Int) (w : World) : Tells Tryd.prog w 28 #[.int .i64 a] (.bool (isM a && decide (5 ≤ a))) := .pure (writes_any a)
theorem rReadsT (a : Int) (w : World) : Tells Tryd.prog w 27 #[.int .i64 a] (.bool (isM a && decide (3 ≤ a))) := .pure (ref.reads a)
theorem rWritesT (a : Int) (w : World) : Tells Tryd.prog w 29 #[.int .i64 a] (.bool (isM a && decide (5 ≤ a))) := .pure (ref.writes a)

set_option maxRecDepth 100000 in
set_option maxHeartbeats 8000000 in
theorem names_long (a : Int) (s : ByteArray) (hs : 100 < (s.size : Int)) (w : World) (hT : Tabs w) (hN : TabN w) : Tells Tryd.prog w 5 #[.int .i64 a, .string s] (.bool true) := by
  have TW := works w hT hN
  clear hT hN
  refine .walk fun b w1 hb g hs => ?_
  go_enter Tryd.func5, Tryd.ntmps5
  go_wp2_with (with_reducible apply Tells.arm (w := w) (b := b); (first | with_reducible assumption); (with_reducible exact hb); (focus (first | with_reducible exact g | (repeat' (first | (with_reducible exact World.grownBy.refl _ _) | (with_reducible assumption) | (with_reducible refine galloc ?_ _) | (with_reducible refine gdrewN ?_ _) | (with_reducible refine gdrew ?_) | (with_reducible refine gset ?_ (.inl ?_) _) | (with_reducible refine gput ?_ (.inl ?_) _) | (refine gtrans ?_ (by with_reducible assumption)) | omega | (simp; done) | (simp; omega))))); intro w' g' h'; clear h' g; have g := g'; clear g')
  go_ret
  exact ⟨by first | rfl | (simp; done) | (simp; omega), by (repeat' (first | (with_reducible exact World.grownBy.refl _ _) | (with_reducible assumption) | (with_reducible refine galloc ?_ _) | (with_reducible refine gdrewN ?_ _) | (with_reducible refine gdrew ?_) | (with_reducible refine gset ?_ (.inl ?_) _) | (with_reducible refine gput ?_ (.inl ?_) _) | (refine gtrans ?_ (by with_reducible assumption)) | omega | (simp; done) | (simp; omega)))⟩

set_option maxRecDepth 100000 in
set_option maxHeartbeats 8000000 in
theorem names (a : Int) (s : ByteArray) (w : World) (hT : Tabs w) (hN : TabN w) : Tells Tryd.prog w 5 #[.int .i64 a, .string s] (.bool true) := by
  by_cases hs : 100 < (s.size : Int)
  · exact names_long a s hs w hT hN
  have hs' : (s.size : Int) ≤ 100 := by omega
  have TW := works w hT hN
  have NT := fun x => numT x w
  have P1 : Tells Tryd.prog w 24 #[.string s] (.tuple #[.int .i64 (if modeOf s.data.toList < 6 then (modeOf s.data.toList : Int) else 0), .int .i64 (if modeOf s.data.toList < 6 then 0 else 130)]) := by
    by_cases h : modeOf s.data.toList < 6
    · rw [if_pos h, if_pos h]; exact parse_hit s w hN h
    · rw [if_neg h, if_neg h]; exact parse_miss s w hN h
  have P2 := ref.parse s w
  rw [show parseR s = .tuple #[.int .i64 (if modeOf s.data.toList < 6 then (modeOf s.data.toList : Int) else 0), .bool (decide (modeOf s.data.toList < 6))] by
    unfold parseR; split <;> simp [*]] at P2
  have R1 := readsT a w
  have R2 := writesT a w
  have R3 := rReadsT a w
  have R4 := rWritesT a w
  have R5 := rightT a w
  generalize (isM a && decide (3 ≤ a)) = p1 at *
  generalize (isM a && decide (5 ≤ a)) = p2 at *
  generalize (if modeOf s.data.toList < 6 then (modeOf s.data.toList : Int) else 0) = mo at *
  have e6 : (if modeOf s.data.toList < 6 then (0 : Int) else 130) = if decide (modeOf s.data.toList < 6) = true then 0 else 130 := by simp
  rw [e6] at P1
  generalize decide (modeOf s.data.toList < 6) = is at *
  clear e6
  cases hm : isM a
  · have N1 := textBadT a w hm
    rw [hm] at R5
    clear hT hN hs hm
    cases is
    all_goals
      simp only [if_true, if_false, Bool.false_eq_true] at P1
      refine .walk fun b w1 hb g hs => ?_
      go_enter Tryd.func5, Tryd.ntmps5
      go_wp2_with (with_reducible apply Tells.arm (w := w) (b := b); (first | with_reducible assumption | (refine NT _)); (with_reducible exact hb); (focus (first | with_reducible exact g | (repeat' (first | (with_reducible exact World.grownBy.refl _ _) | (with_reducible assumption) | (with_reducible refine galloc ?_ _) | (with_reducible refine gdrewN ?_ _) | (with_reducible refine gdrew ?_) | (with_reducible refine gset ?_ (.inl ?_) _) | (with_reducible refine gput ?_ (.inl ?_) _) | (refine gtrans ?_ (by with_reducible assumption)) | omega | (simp; done) | (simp; omega))))); intro w' g' h'; clear h' g; have g := g'; clear g')
      go_ret
      exact ⟨by first | rfl | (simp; done) | (simp; omega), by (repeat' (first | (with_reducible exact World.grownBy.refl _ _) | (with_reducible assumption) | (with_reducible refine galloc ?_ _) | (with_reducible refine gdrewN ?_ _) | (with_reducible refine gdrew ?_) | (with_reducible refine gset ?_ (.inl ?_) _) | (with_reducible refine gput ?_ (.inl ?_) _) | (refine gtrans ?_ (by with_reducible assumption)) | omega | (simp; done) | (simp; omega)))⟩
  · rw [hm] at R5
    simp only [isM, Bool.and_eq_true, decide_eq_true_eq] at hm
    obtain ⟨i, rfl⟩ := Int.eq_ofNat_of_zero_le hm.1
    have N1 : Tells Tryd.prog w 23 #[.int .i64 i] (.tuple #[nameV i, .int .i64 0]) := fun W hW => text_good i (by omega) W (hN.grown hW)
    have N2 := ref.name i (by omega) w
    obtain ⟨nk, hnk⟩ : ∃ b : ByteArray, nameV i = .string b := ⟨_, rfl⟩
    rw [hnk] at N1 N2
    clear hT hN hs hm hnk
    cases is
    all_goals
      simp only [if_true, if_false, Bool.false_eq_true] at P1
      refine .walk fun b w1 hb g hs => ?_
      go_enter Tryd.func5, Tryd.ntmps5
      go_wp2_with (with_reducible apply Tells.arm (w := w) (b := b); (first | with_reducible assumption | (refine NT _)); (with_reducible exact hb); (focus (first | with_reducible exact g | (repeat' (first | (with_reducible exact World.grownBy.refl _ _) | (with_reducible assumption) | (with_reducible refine galloc ?_ _) | (with_reducible refine gdrewN ?_ _) | (with_reducible refine gdrew ?_) | (with_reducible refine gset ?_ (.inl ?_) _) | (with_reducible refine gput ?_ (.inl ?_) _) | (refine gtrans ?_ (by with_reducible assumption)) | omega | (simp; done) | (simp; omega))))); intro w' g' h'; clear h' g; have g := g'; clear g')
      go_ret
      exact ⟨by first | rfl | (simp; done) | (simp; omega), by (repeat' (first | (with_reducible exact World.grownBy.refl _ _) | (with_reducible assumption) | (with_reducible refine galloc ?_ _) | (with_reducible refine gdrewN ?_ _) | (with_reducible refine gdrew ?_) | (with_reducible refine gset ?_ (.inl ?_) _) | (with_reducible refine gput ?_ (.inl ?_) _) | (refine gtrans ?_ (by with_reducible assumption)) | omega | (simp; done) | (simp; omega)))⟩
end Go.Proofs.YtgcejfcfaaidhaaDoor
