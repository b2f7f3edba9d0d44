/- The walk of the law ModeHolds. The tables are laid. -/
import Derived.Test.YtgcejfcfaaidhaaDoorLa
set_option linter.unusedSimpArgs false
set_option linter.unusedVariables false
namespace Go.Proofs.YtgcejfcfaaidhaaDoor
open Go.RowKit ref

theorem hf1 : ∀ i j : Fin 6, fitB j.1 i.1 = fitB i.1 j.1 := by decide +kernel
theorem hf3 : ∀ i j : Fin 6, covB i.1 j.1 = true → covB j.1 i.1 = true → i = j := by decide +kernel
theorem hf4 : ∀ i j k : Fin 6, covB i.1 j.1 = true → covB j.1 k.1 = true → covB i.1 k.1 = true := by decide +kernel
theorem hf5 : ∀ i j k : Fin 6, covB i.1 j.1 = true → fitB i.1 k.1 = true → fitB j.1 k.1 = true := by decide +kernel
theorem hf6 : ∀ j k : Fin 6, joinL [j.1, k.1] = joinN j.1 k.1 ∧ joinL [k.1, j.1] = joinN j.1 k.1 ∧ covB (joinN j.1 k.1) j.1 = true ∧ covB (joinN j.1 k.1) k.1 = true := by decide +kernel

theorem fitsNN (i j : Nat) (hi : i < 6) (hj : j < 6) (w : World) (hT : Tabs w) : Tells Tryd.prog w 10 #[.int .i64 i, .int .i64 j] (.tuple #[.bool (fitB i j), .int .i64 0]) :=
  (fitsT' i j w hT).eq (by simp [askV, isM, show (i : Int) < 6 by omega, show (j : Int) < 6 by omega])
theorem coversNN (i j : Nat) (hi : i < 6) (hj : j < 6) (w : World) (hT : Tabs w) : Tells Tryd.prog w 11 #[.int .i64 i, .int .i64 j] (.tuple #[.bool (covB i j), .int .i64 0]) :=
  (coversT' i j w hT).eq (by simp [askV, isM, show (i : Int) < 6 by omega, show (j : Int) < 6 by omega])
theorem checkN (i : Nat) (hi : i < 6) (w : World) : Tells Tryd.prog w 13 #[.int .i64 i] (.int .i64 0) :=
  (checkT i w).eq (by simp [isM, show (i : Int) < 6 by omega])
theorem join2 (j k n : Nat) (hj : j < 6) (hk : k < 6) (hn : joinL [j, k] = n) (b : Nat) (t : TypeId) (w : World) (hT : Tabs w) (h : w.heap[b]? = some (.cells #[.int .i64 j, .int .i64 k] t (0, 0))) :
    Tells Tryd.prog w 18 #[.slice (some ⟨b, 0, none⟩) 2 2] (.tuple #[.int .i64 n, .int .i64 0]) := by
  have := joinT (some ⟨b, 0, none⟩) 2 [j, k] w hT (by simp) (by intro m hm; simp at hm; omega) (row2 h)
  rw [hn] at this
  exact this

set_option maxRecDepth 100000 in
set_option maxHeartbeats 8000000 in
theorem holds_right (i j k : Nat) (hi : i < 6) (hj : j < 6) (hk : k < 6) (w : World) (hT : Tabs w) (hN : TabN w) : Tells Tryd.prog w 7 #[.int .i64 i, .int .i64 j, .int .i64 k] (.bool true) := by
  have C1 := checkN i hi w
  have C2 := checkN j hj w
  have C3 := checkN k hk w
  have NT := fun x => numT x w
  have TW := works w hT hN
  obtain ⟨e1, e2, e3, e4⟩ := hf6 ⟨j, hj⟩ ⟨k, hk⟩
  simp only at e1 e2 e3 e4
  have hn6 := (join_ge j hj k hk).2
  have e5 := cov_join_f ⟨i, hi⟩ ⟨j, hj⟩ ⟨k, hk⟩
  simp only at e5
  have F1 := fitsNN i j hi hj w hT
  have F2 := fitsNN j i hj hi w hT
  rw [hf1 ⟨i, hi⟩ ⟨j, hj⟩] at F2
  have F3 := fitsNN j k hj hk w hT
  have F4 := fitsNN i k hi hk w hT
  have V1 := coversNN i j hi hj w hT
  have V2 := coversNN j i hj hi w hT
  have V3 := coversNN j k hj hk w hT
  have V4 := coversNN i k hi hk w hT
  have V5 := coversNN i i hi hi w hT
  rw [cov_refl_f ⟨i, hi⟩] at V5
  have V6 := coversNN (joinN j k) j hn6 hj w hT
  have V7 := coversNN (joinN j k) k hn6 hk w hT
  have V8 := coversNN i (joinN j k) hi hn6 w hT
  rw [e3] at V6
  rw [e4] at V7
  rw [e5] at V8
  have k3 := hf3 ⟨i, hi⟩ ⟨j, hj⟩
  have k4 := hf4 ⟨i, hi⟩ ⟨j, hj⟩ ⟨k, hk⟩
  have k5 := hf5 ⟨i, hi⟩ ⟨j, hj⟩ ⟨k, hk⟩
  simp only [Fin.mk.injEq] at k3 k4 k5
  have J1 := fun b t w => join2 j k (joinN j k) hj hk e1 b t w
  have J2 := fun b t w => join2 k j (joinN j k) hk hj e2 b t w
  generalize joinN j k = n at *
  have HJ1 := Lib.hid J1
  have HJ2 := Lib.hid J2
  have HT := Lib.hid hT
  clear J1 J2 e1 e2 e3 e4 e5 hn6
  generalize fitB i j = fab at *
  have hw : ∀ (cab cba cbc cac fac fbc : Bool), (cab = true → cba = true → i = j) → (cab = true → cbc = true → cac = true) → (cab = true → fac = true → fbc = true) → (i = j → cbc = cac ∧ fac = fbc) →
      Tells Tryd.prog w 11 #[.int .i64 i, .int .i64 j] (.tuple #[.bool cab, .int .i64 0]) → Tells Tryd.prog w 11 #[.int .i64 j, .int .i64 i] (.tuple #[.bool cba, .int .i64 0]) →
      Tells Tryd.prog w 11 #[.int .i64 j, .int .i64 k] (.tuple #[.bool cbc, .int .i64 0]) → Tells Tryd.prog w 11 #[.int .i64 i, .int .i64 k] (.tuple #[.bool cac, .int .i64 0]) →
      Tells Tryd.prog w 10 #[.int .i64 i, .int .i64 k] (.tuple #[.bool fac, .int .i64 0]) → Tells Tryd.prog w 10 #[.int .i64 j, .int .i64 k] (.tuple #[.bool fbc, .int .i64 0]) →
      Tells Tryd.prog w 11 #[.int .i64 i, .int .i64 n] (.tuple #[.bool (cab && cac), .int .i64 0]) → Tells Tryd.prog w 7 #[.int .i64 i, .int .i64 j, .int .i64 k] (.bool true) := by
    clear V1 V2 V3 V4 F4 F3 V8 k3 k4 k5 hi hj hk hT hN
    intro cab cba cbc cac fac fbc q1 q2 q3 q4 V1 V2 V3 V4 F4 F3 V8
    have go : ∀ P : Prop, P → P := fun _ h => h
    clear go
    cases cab
    · clear q1 q2 q3 q4
      rw [Bool.false_and] at V8
      refine .walk fun b w1 hb g hs => ?_
      go_enter Tryd.func7, Tryd.ntmps7
      go_wp2_with (with_reducible apply Tells.arm (w := w) (b := b); (first | with_reducible assumption | (refine NT _)); (with_reducible exact hb); (focus (first | with_reducible exact g | (repeat' (first | (with_reducible exact World.grownBy.refl _ _) | (with_reducible assumption) | (with_reducible refine galloc ?_ _) | (with_reducible refine gdrewN ?_ _) | (with_reducible refine gdrew ?_) | (with_reducible refine gset ?_ (.inl ?_) _) | (with_reducible refine gput ?_ (.inl ?_) _) | (refine gtrans ?_ (by with_reducible assumption)) | omega | (simp; done) | (simp; omega))))); intro w' g' h'; clear h' g; have g := g'; clear g')
      refine Tells.useHere (HJ1.out _ _ _ (HT.out.grown (gtrans hb (by (repeat' (first | (with_reducible exact World.grownBy.refl _ _) | (with_reducible assumption) | (with_reducible refine galloc ?_ _) | (with_reducible refine gdrewN ?_ _) | (with_reducible refine gdrew ?_) | (with_reducible refine gset ?_ (.inl ?_) _) | (with_reducible refine gput ?_ (.inl ?_) _) | (refine gtrans ?_ (by with_reducible assumption)) | omega | (simp; done) | (simp; omega)))))) (hnewAt rfl)) (fun w' h' => ?_)
      have g' : b.grownBy w' none := by (refine gtrans ?_ h'; (repeat' (first | (with_reducible exact World.grownBy.refl _ _) | (with_reducible assumption) | (with_reducible refine galloc ?_ _) | (with_reducible refine gdrewN ?_ _) | (with_reducible refine gdrew ?_) | (with_reducible refine gset ?_ (.inl ?_) _) | (with_reducible refine gput ?_ (.inl ?_) _) | (refine gtrans ?_ (by with_reducible assumption)) | omega | (simp; done) | (simp; omega))))
      clear h' g
      have g := g'
      clear g'
      go_wp2_with (with_reducible apply Tells.arm (w := w) (b := b); (first | with_reducible assumption | (refine NT _)); (with_reducible exact hb); (focus (first | with_reducible exact g | (repeat' (first | (with_reducible exact World.grownBy.refl _ _) | (with_reducible assumption) | (with_reducible refine galloc ?_ _) | (with_reducible refine gdrewN ?_ _) | (with_reducible refine gdrew ?_) | (with_reducible refine gset ?_ (.inl ?_) _) | (with_reducible refine gput ?_ (.inl ?_) _) | (refine gtrans ?_ (by with_reducible assumption)) | omega | (simp; done) | (simp; omega))))); intro w' g' h'; clear h' g; have g := g'; clear g')
      refine Tells.useHere (HJ2.out _ _ _ (HT.out.grown (gtrans hb (by (repeat' (first | (with_reducible exact World.grownBy.refl _ _) | (with_reducible assumption) | (with_reducible refine galloc ?_ _) | (with_reducible refine gdrewN ?_ _) | (with_reducible refine gdrew ?_) | (with_reducible refine gset ?_ (.inl ?_) _) | (with_reducible refine gput ?_ (.inl ?_) _) | (refine gtrans ?_ (by with_reducible assumption)) | omega | (simp; done) | (simp; omega)))))) (hnewAt rfl)) (fun w' h' => ?_)
      have g' : b.grownBy w' none := by (refine gtrans ?_ h'; (repeat' (first | (with_reducible exact World.grownBy.refl _ _) | (with_reducible assumption) | (with_reducible refine galloc ?_ _) | (with_reducible refine gdrewN ?_ _) | (with_reducible refine gdrew ?_) | (with_reducible refine gset ?_ (.inl ?_) _) | (with_reducible refine gput ?_ (.inl ?_) _) | (refine gtrans ?_ (by with_reducible assumption)) | omega | (simp; done) | (simp; omega))))
      clear h' g
      have g := g'
      clear g'
      go_wp2_with (with_reducible apply Tells.arm (w := w) (b := b); (first | with_reducible assumption | (refine NT _)); (with_reducible exact hb); (focus (first | with_reducible exact g | (repeat' (first | (with_reducible exact World.grownBy.refl _ _) | (with_reducible assumption) | (with_reducible refine galloc ?_ _) | (with_reducible refine gdrewN ?_ _) | (with_reducible refine gdrew ?_) | (with_reducible refine gset ?_ (.inl ?_) _) | (with_reducible refine gput ?_ (.inl ?_) _) | (refine gtrans ?_ (by with_reducible assumption)) | omega | (simp; done) | (simp; omega))))); intro w' g' h'; clear h' g; have g := g'; clear g')
      go_ret
      exact ⟨by first | rfl | (simp; done) | (simp; omega), by (repeat' (first | (with_reducible exact World.grownBy.refl _ _) | (with_reducible assumption) | (with_reducible refine galloc ?_ _) | (with_reducible refine gdrewN ?_ _) | (with_reducible refine gdrew ?_) | (with_reducible refine gset ?_ (.inl ?_) _) | (with_reducible refine gput ?_ (.inl ?_) _) | (refine gtrans ?_ (by with_reducible assumption)) | omega | (simp; done) | (simp; omega)))⟩
    · simp only [Bool.true_and, true_implies] at V8 q1 q2 q3
      have all9 : (cba = false ∨ cba = true) ∧ (cbc = false ∨ cbc = true ∧ cac = true) ∧ (fac = false ∨ fac = true ∧ fbc = true) := by
        refine ⟨by cases cba <;> simp, ?_, ?_⟩
        · cases cbc
          · exact .inl rfl
          · exact .inr ⟨rfl, q2 rfl⟩
        · cases fac
          · exact .inl rfl
          · exact .inr ⟨rfl, q3 rfl⟩
      have Q1 := Lib.hid q1
      have Q4 := Lib.hid q4
      clear q1 q2 q3 q4
      obtain ⟨a1, a2, a3⟩ := all9
      rcases a1 with rfl | rfl
      · rcases a2 with rfl | ⟨rfl, rfl⟩ <;> rcases a3 with rfl | ⟨rfl, rfl⟩
        all_goals
          refine .walk fun b w1 hb g hs => ?_
          go_enter Tryd.func7, Tryd.ntmps7
          go_wp2_with (with_reducible apply Tells.arm (w := w) (b := b); (first | with_reducible assumption | (refine NT _)); (with_reducible exact hb); (focus (first | with_reducible exact g | (repeat' (first | (with_reducible exact World.grownBy.refl _ _) | (with_reducible assumption) | (with_reducible refine galloc ?_ _) | (with_reducible refine gdrewN ?_ _) | (with_reducible refine gdrew ?_) | (with_reducible refine gset ?_ (.inl ?_) _) | (with_reducible refine gput ?_ (.inl ?_) _) | (refine gtrans ?_ (by with_reducible assumption)) | omega | (simp; done) | (simp; omega))))); intro w' g' h'; clear h' g; have g := g'; clear g')
          refine Tells.useHere (HJ1.out _ _ _ (HT.out.grown (gtrans hb (by (repeat' (first | (with_reducible exact World.grownBy.refl _ _) | (with_reducible assumption) | (with_reducible refine galloc ?_ _) | (with_reducible refine gdrewN ?_ _) | (with_reducible refine gdrew ?_) | (with_reducible refine gset ?_ (.inl ?_) _) | (with_reducible refine gput ?_ (.inl ?_) _) | (refine gtrans ?_ (by with_reducible assumption)) | omega | (simp; done) | (simp; omega)))))) (hnewAt rfl)) (fun w' h' => ?_)
          have g' : b.grownBy w' none := by (refine gtrans ?_ h'; (repeat' (first | (with_reducible exact World.grownBy.refl _ _) | (with_reducible assumption) | (with_reducible refine galloc ?_ _) | (with_reducible refine gdrewN ?_ _) | (with_reducible refine gdrew ?_) | (with_reducible refine gset ?_ (.inl ?_) _) | (with_reducible refine gput ?_ (.inl ?_) _) | (refine gtrans ?_ (by with_reducible assumption)) | omega | (simp; done) | (simp; omega))))
          clear h' g
          have g := g'
          clear g'
          go_wp2_with (with_reducible apply Tells.arm (w := w) (b := b); (first | with_reducible assumption | (refine NT _)); (with_reducible exact hb); (focus (first | with_reducible exact g | (repeat' (first | (with_reducible exact World.grownBy.refl _ _) | (with_reducible assumption) | (with_reducible refine galloc ?_ _) | (with_reducible refine gdrewN ?_ _) | (with_reducible refine gdrew ?_) | (with_reducible refine gset ?_ (.inl ?_) _) | (with_reducible refine gput ?_ (.inl ?_) _) | (refine gtrans ?_ (by with_reducible assumption)) | omega | (simp; done) | (simp; omega))))); intro w' g' h'; clear h' g; have g := g'; clear g')
          refine Tells.useHere (HJ2.out _ _ _ (HT.out.grown (gtrans hb (by (repeat' (first | (with_reducible exact World.grownBy.refl _ _) | (with_reducible assumption) | (with_reducible refine galloc ?_ _) | (with_reducible refine gdrewN ?_ _) | (with_reducible refine gdrew ?_) | (with_reducible refine gset ?_ (.inl ?_) _) | (with_reducible refine gput ?_ (.inl ?_) _) | (refine gtrans ?_ (by with_reducible assumption)) | omega | (simp; done) | (simp; omega)))))) (hnewAt rfl)) (fun w' h' => ?_)
          have g' : b.grownBy w' none := by (refine gtrans ?_ h'; (repeat' (first | (with_reducible exact World.grownBy.refl _ _) | (with_reducible assumption) | (with_reducible refine galloc ?_ _) | (with_reducible refine gdrewN ?_ _) | (with_reducible refine gdrew ?_) | (with_reducible refine gset ?_ (.inl ?_) _) | (with_reducible refine gput ?_ (.inl ?_) _) | (refine gtrans ?_ (by with_reducible assumption)) | omega | (simp; done) | (simp; omega))))
          clear h' g
          have g := g'
          clear g'
          go_wp2_with (with_reducible apply Tells.arm (w := w) (b := b); (first | with_reducible assumption | (refine NT _)); (with_reducible exact hb); (focus (first | with_reducible exact g | (repeat' (first | (with_reducible exact World.grownBy.refl _ _) | (with_reducible assumption) | (with_reducible refine galloc ?_ _) | (with_reducible refine gdrewN ?_ _) | (with_reducible refine gdrew ?_) | (with_reducible refine gset ?_ (.inl ?_) _) | (with_reducible refine gput ?_ (.inl ?_) _) | (refine gtrans ?_ (by with_reducible assumption)) | omega | (simp; done) | (simp; omega))))); intro w' g' h'; clear h' g; have g := g'; clear g')
          go_ret
          exact ⟨by first | rfl | (simp; done) | (simp; omega), by (repeat' (first | (with_reducible exact World.grownBy.refl _ _) | (with_reducible assumption) | (with_reducible refine galloc ?_ _) | (with_reducible refine gdrewN ?_ _) | (with_reducible refine gdrew ?_) | (with_reducible refine gset ?_ (.inl ?_) _) | (with_reducible refine gput ?_ (.inl ?_) _) | (refine gtrans ?_ (by with_reducible assumption)) | omega | (simp; done) | (simp; omega)))⟩
      · obtain rfl := Q1.out rfl
        obtain ⟨rfl, rfl⟩ := Q4.out rfl
        clear a2 a3 Q1 Q4 C2 F2 V2 V5
        cases cbc <;> cases fac
        all_goals
          refine .walk fun b w1 hb g hs => ?_
          go_enter Tryd.func7, Tryd.ntmps7
          go_wp2_with (with_reducible apply Tells.arm (w := w) (b := b); (first | with_reducible assumption | (refine NT _)); (with_reducible exact hb); (focus (first | with_reducible exact g | (repeat' (first | (with_reducible exact World.grownBy.refl _ _) | (with_reducible assumption) | (with_reducible refine galloc ?_ _) | (with_reducible refine gdrewN ?_ _) | (with_reducible refine gdrew ?_) | (with_reducible refine gset ?_ (.inl ?_) _) | (with_reducible refine gput ?_ (.inl ?_) _) | (refine gtrans ?_ (by with_reducible assumption)) | omega | (simp; done) | (simp; omega))))); intro w' g' h'; clear h' g; have g := g'; clear g')
          refine Tells.useHere (HJ1.out _ _ _ (HT.out.grown (gtrans hb (by (repeat' (first | (with_reducible exact World.grownBy.refl _ _) | (with_reducible assumption) | (with_reducible refine galloc ?_ _) | (with_reducible refine gdrewN ?_ _) | (with_reducible refine gdrew ?_) | (with_reducible refine gset ?_ (.inl ?_) _) | (with_reducible refine gput ?_ (.inl ?_) _) | (refine gtrans ?_ (by with_reducible assumption)) | omega | (simp; done) | (simp; omega)))))) (hnewAt rfl)) (fun w' h' => ?_)
          have g' : b.grownBy w' none := by (refine gtrans ?_ h'; (repeat' (first | (with_reducible exact World.grownBy.refl _ _) | (with_reducible assumption) | (with_reducible refine galloc ?_ _) | (with_reducible refine gdrewN ?_ _) | (with_reducible refine gdrew ?_) | (with_reducible refine gset ?_ (.inl ?_) _) | (with_reducible refine gput ?_ (.inl ?_) _) | (refine gtrans ?_ (by with_reducible assumption)) | omega | (simp; done) | (simp; omega))))
          clear h' g
          have g := g'
          clear g'
          go_wp2_with (with_reducible apply Tells.arm (w := w) (b := b); (first | with_reducible assumption | (refine NT _)); (with_reducible exact hb); (focus (first | with_reducible exact g | (repeat' (first | (with_reducible exact World.grownBy.refl _ _) | (with_reducible assumption) | (with_reducible refine galloc ?_ _) | (with_reducible refine gdrewN ?_ _) | (with_reducible refine gdrew ?_) | (with_reducible refine gset ?_ (.inl ?_) _) | (with_reducible refine gput ?_ (.inl ?_) _) | (refine gtrans ?_ (by with_reducible assumption)) | omega | (simp; done) | (simp; omega))))); intro w' g' h'; clear h' g; have g := g'; clear g')
          refine Tells.useHere (HJ2.out _ _ _ (HT.out.grown (gtrans hb (by (repeat' (first | (with_reducible exact World.grownBy.refl _ _) | (with_reducible assumption) | (with_reducible refine galloc ?_ _) | (with_reducible refine gdrewN ?_ _) | (with_reducible refine gdrew ?_) | (with_reducible refine gset ?_ (.inl ?_) _) | (with_reducible refine gput ?_ (.inl ?_) _) | (refine gtrans ?_ (by with_reducible assumption)) | omega | (simp; done) | (simp; omega)))))) (hnewAt rfl)) (fun w' h' => ?_)
          have g' : b.grownBy w' none := by (refine gtrans ?_ h'; (repeat' (first | (with_reducible exact World.grownBy.refl _ _) | (with_reducible assumption) | (with_reducible refine galloc ?_ _) | (with_reducible refine gdrewN ?_ _) | (with_reducible refine gdrew ?_) | (with_reducible refine gset ?_ (.inl ?_) _) | (with_reducible refine gput ?_ (.inl ?_) _) | (refine gtrans ?_ (by with_reducible assumption)) | omega | (simp; done) | (simp; omega))))
          clear h' g
          have g := g'
          clear g'
          go_wp2_with (with_reducible apply Tells.arm (w := w) (b := b); (first | with_reducible assumption | (refine NT _)); (with_reducible exact hb); (focus (first | with_reducible exact g | (repeat' (first | (with_reducible exact World.grownBy.refl _ _) | (with_reducible assumption) | (with_reducible refine galloc ?_ _) | (with_reducible refine gdrewN ?_ _) | (with_reducible refine gdrew ?_) | (with_reducible refine gset ?_ (.inl ?_) _) | (with_reducible refine gput ?_ (.inl ?_) _) | (refine gtrans ?_ (by with_reducible assumption)) | omega | (simp; done) | (simp; omega))))); intro w' g' h'; clear h' g; have g := g'; clear g')
          go_ret
          exact ⟨by first | rfl | (simp; done) | (simp; omega), by (repeat' (first | (with_reducible exact World.grownBy.refl _ _) | (with_reducible assumption) | (with_reducible refine galloc ?_ _) | (with_reducible refine gdrewN ?_ _) | (with_reducible refine gdrew ?_) | (with_reducible refine gset ?_ (.inl ?_) _) | (with_reducible refine gput ?_ (.inl ?_) _) | (refine gtrans ?_ (by with_reducible assumption)) | omega | (simp; done) | (simp; omega)))⟩
  exact hw _ _ _ _ _ _ k3 k4 k5 (by rintro rfl; exact ⟨rfl, rfl⟩) V1 V2 V3 V4 F4 F3 V8
end Go.Proofs.YtgcejfcfaaidhaaDoor
