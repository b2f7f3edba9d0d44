/- The law EscrowSpares returns true at every counter, and leaves it as it was. No condition. -/
import Derived.Test.YtgcejfcfaaidhaaRow
set_option linter.unusedSimpArgs false
set_option linter.unusedVariables false
namespace Go.Proofs.Ytgcejfcfaaidhaa.spares
open Go.ChangeShapes Go.WideShapes Go.ChangeAt Go.RowKit Go.Joins

set_option maxHeartbeats 400000 in
theorem refRight (v f n : Int) (w : World) : Calls Try.prog 16 #[.agg #[.int .i64 v, .int .i64 f, .int .u64 n]] w fun e w' => e = .returned (.bool (rightB v f n)) ∧ w.grownBy w' none := by
  cases hr : rightB v f n
  · have hf := rightB_f hr
    clear hr
    by_cases h1 : f ≤ v
    · have h2 : ¬ n ≤ 4611686018427387904 := fun h => hf ⟨h1, h⟩
      clear hf
      go_enter Try.func16, Try.ntmps16
      go_wp2
      go_ret
      exact ⟨by first | rfl | (simp; done) | (simp; omega), galloc (World.grownBy.refl _ _) _⟩
    · clear hf
      go_enter Try.func16, Try.ntmps16
      go_wp2
      go_ret
      exact ⟨by simp, galloc (World.grownBy.refl _ _) _⟩
  · obtain ⟨h1, h2⟩ := rightB_t hr
    clear hr
    go_enter Try.func16, Try.ntmps16
    go_wp2
    go_ret
    exact ⟨by first | rfl | (simp; done) | (simp; omega), galloc (World.grownBy.refl _ _) _⟩

set_option maxHeartbeats 400000 in
theorem refSpare (v f n : Int) (w : World) (hB : Bd v f n) (h : f ≤ v) : Calls Try.prog 19 #[.agg #[.int .i64 v, .int .i64 f, .int .u64 n]] w fun e w' => e = .returned (.int .u64 (v - f)) ∧ w.grownBy w' none := by
  obtain ⟨b0, b1, b2, b3, b4, b5⟩ := hB
  by_cases h1 : f < 0
  · by_cases h2 : 0 ≤ v
    · go_enter Try.func19, Try.ntmps19
      go_wp2
      go_ret
      exact ⟨ret_int (by first | rfl | omega | (simp only [IntKind.wrap_u64, wrap64]; omega)), galloc (World.grownBy.refl _ _) _⟩
    · go_enter Try.func19, Try.ntmps19
      go_wp2
      go_ret
      exact ⟨ret_int (by first | rfl | omega | (simp only [IntKind.wrap_u64, wrap64]; omega)), galloc (World.grownBy.refl _ _) _⟩
  · go_enter Try.func19, Try.ntmps19
    go_wp2
    go_ret
    exact ⟨ret_int (by first | rfl | omega | (simp only [IntKind.wrap_u64, wrap64]; omega)), galloc (World.grownBy.refl _ _) _⟩

set_option maxHeartbeats 1000000 in
theorem walk (v f n : Int) (w : World) (hB : Bd v f n) : Calls Try.prog 4 #[.agg #[.int .i64 v, .int .i64 f, .int .u64 n]] w fun e w' => e = .returned (.bool true) ∧ w.grownBy w' none := by
  have S := fun W => spareF_any v f n W hB
  have RR := fun W => refRight v f n W
  cases hr : rightB v f n
  · rw [hr] at S RR
    simp only [Bool.false_eq_true, if_false] at S
    have S' := Lib.hid S
    have R' := Lib.hid RR
    clear S RR hr
    go_enter Try.func4, Try.ntmps4
    go_wp2_with fail
    refine (S'.out _).mono ?_
    rintro e w1 ⟨rfl, hg⟩
    have f0 : w1.cell? ⟨w.heap.size, 0, none⟩ = some (.int .i64 v) := hg.cell (by go_simp) (by simp)
    have f1 : w1.cell? ⟨w.heap.size, 1, none⟩ = some (.int .i64 f) := hg.cell (by go_simp) (by simp)
    have f2 : w1.cell? ⟨w.heap.size, 2, none⟩ = some (.int .u64 n) := hg.cell (by go_simp) (by simp)
    have g1 : w.grownBy w1 none := gtrans (galloc (World.grownBy.refl _ _) _) hg
    clear hg
    go_wp2_with fail
    refine (R'.out _).mono ?_
    rintro e w2 ⟨rfl, hg⟩
    have g2 := gtrans g1 hg
    clear hg g1
    go_wp2_with (first | (go_at_call 14; refine (num_any _ _ (by decide) (by decide)).mono ?_; rintro e w' ⟨rfl, rfl⟩) | (go_at_call 17; refine (works_any _).mono ?_; rintro e w3 ⟨rfl, hg3⟩))
    go_ret
    exact ⟨rfl, gtrans g2 hg3⟩
  · rw [hr] at S RR
    simp only [if_true] at S
    have hf := (rightB_t hr).1
    have T := fun W => refSpare v f n W hB hf
    have S' := Lib.hid S
    have R' := Lib.hid RR
    have T' := Lib.hid T
    clear S RR hr T
    go_enter Try.func4, Try.ntmps4
    go_wp2_with fail
    refine (S'.out _).mono ?_
    rintro e w1 ⟨rfl, hg⟩
    have f0 : w1.cell? ⟨w.heap.size, 0, none⟩ = some (.int .i64 v) := hg.cell (by go_simp) (by simp)
    have f1 : w1.cell? ⟨w.heap.size, 1, none⟩ = some (.int .i64 f) := hg.cell (by go_simp) (by simp)
    have f2 : w1.cell? ⟨w.heap.size, 2, none⟩ = some (.int .u64 n) := hg.cell (by go_simp) (by simp)
    have g1 : w.grownBy w1 none := gtrans (galloc (World.grownBy.refl _ _) _) hg
    clear hg
    go_wp2_with fail
    refine (R'.out _).mono ?_
    rintro e w2 ⟨rfl, hg⟩
    have f0 : w2.cell? ⟨w.heap.size, 0, none⟩ = some (.int .i64 v) := hg.cell f0 (by simp)
    have f1 : w2.cell? ⟨w.heap.size, 1, none⟩ = some (.int .i64 f) := hg.cell f1 (by simp)
    have f2 : w2.cell? ⟨w.heap.size, 2, none⟩ = some (.int .u64 n) := hg.cell f2 (by simp)
    have g2 := gtrans g1 hg
    clear hg g1
    go_wp2_with fail
    refine (T'.out _).mono ?_
    rintro e w3 ⟨rfl, hg⟩
    have g3 := gtrans g2 hg
    clear hg g2
    go_wp2_with (first | (go_at_call 14; refine (num_any _ _ (by decide) (by decide)).mono ?_; rintro e w' ⟨rfl, rfl⟩) | (go_at_call 17; refine (works_any _).mono ?_; rintro e w4 ⟨rfl, hg4⟩))
    go_ret
    exact ⟨rfl, gtrans g3 hg4⟩

set_option maxRecDepth 100000 in
theorem lifted (os : Os) (started : os.Started) (H : Type) (enc : TypeId × Value → H) :
    ReturnsInHanded {} Try.checked os 4 .any (Rows.escrowSparesSpec.pre6 enc Try.prog Try.f4 Rows.escrowSparesRow.domain false) (Rows.escrowSparesSpec.post enc Try.prog Try.f4 false true false false) := by
  refine returnsInHanded_of_change (C := Try.checked) own started (by kernel_rfl) Try.func4
    (ChangeSpec.witness6 (enc := enc) (C := Try.checked) false ⟨#[], #[.agg #[.int .i64 0, .int .i64 0, .int .u64 0]], []⟩ 8 (by kernel_rfl) (by kernel_rfl) (by kernel_rfl) (by kernel_rfl)) ?_
  intro W base args ds gs before hval0 hW hcnd _
  have hval : ∀ (j : Nat) t v, Try.f4.params[j]? = some t → args[j]? = some v → Value.okWide Try.prog W .any base t v := hval0
  have hW' := hW
  obtain ⟨p, q, hA0, hV, rfl, hfz, hnd⟩ := hW
  have hA : DataW.TrodAll enc Try.prog W 0 (fun _ => true) true Try.f4.params.toList args.toList ds p := hA0
  rw [Try.params4] at hA hval
  obtain ⟨v0, vs0, d0, ds0, p0, q0, hargs, rfl, rfl, h0, r0⟩ := trodAll_cons hA
  obtain ⟨rfl, rfl, rfl⟩ := trodAll_nil r0
  obtain rfl : args = #[v0] := by cases args; simp_all
  obtain ⟨rfl, rfl⟩ := trodVars_none hV
  obtain ⟨x, f, n, rfl, rfl, rfl, wx, wf, wn⟩ := open_counter (hval 0 24 v0 rfl rfl) h0
  clear hA0 hval0
  simp only [List.append_nil] at hW'
  refine (walk x f n W (bd_of wx wf wn)).mono fun e W' ⟨he, hg⟩ => ?_
  subst he
  exact ⟨_, rfl, post_of_below (pa := []) (pv := []) hW' (fun _ _ _ => (trodAll_cons_mk (shut_bool Try.underlying4 _) trodAll_mk0)) (fun sp _ => (trodAll_cons_mk (shut_counter wx wf wn) trodAll_mk0)) (fun _ _ => rfl) rfl (gbelow hg (by simp))⟩

theorem proved : Rows.EscrowSparesSaid :=
  OpenClaim.holds_of_wide 4 Try.f4 rfl rfl rfl rfl rfl rfl rfl ⟨rfl, rfl, rfl, rfl, rfl⟩ rfl rfl rfl rfl rfl (by kernel_rfl) Try.func4 (by kernel_rfl)
    (of_decide_eq_true (by kernel_rfl)) (by unfold Func.isWrapper; first | (rw [if_pos (by decide +kernel)]; kernel_rfl) | (rw [if_neg (by decide +kernel)]; exact ⟨rfl, rfl⟩))
    (fun os started H enc _ => lifted os started H enc)
end Go.Proofs.Ytgcejfcfaaidhaa.spares
