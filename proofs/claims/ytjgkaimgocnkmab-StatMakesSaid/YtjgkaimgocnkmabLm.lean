/- The law StatMakes returns true whatever it is given. No condition. -/
import Derived.Test.YtjgkaimgocnkmabFf
set_option linter.unusedSimpArgs false
set_option linter.deprecated false
set_option linter.unusedVariables false
namespace Go.Proofs.Ytjgkaimgocnkmab.statMakes
open Go
open Go.ChangeShapes Go.WideShapes Go.ChangeAt Go.RowKit Go.Joins
open Sx (kmin kmax Rho Same Holds SV CK)
open stat
noncomputable section
def roms : Sx.Roms := []
def c0 : Sx.Ctr := ⟨3, [.agg [.int .i64 (.var .i64 1), .int .i64 (.var .i64 2), .int .i64 (.var .i64 3)], .agg [.int .i64 (.var .i64 4), .bool (.var 0), .int .i64 (.var .i64 5), .int .i64 (.var .i64 6)], .agg [.int .i64 (.var .i64 7), .bool (.var 1), .int .i64 (.var .i64 8), .int .i64 (.var .i64 9)]], roms, [], .bool (.lit true), [], 0, []⟩
end
theorem told0 : Sx.Told stat.Φ c0 := Sx.told_auto (cs := stat.csM) stat.told_all 4000 (by kernel_rfl) (by kernel_rfl) (by kernel_rfl) (Sx.post_nil rfl) (by kernel_rfl) (by kernel_rfl)
theorem law (x1 x2 x3 x4 x5 x6 x7 x8 x9 : Int) (b0 b1 : Bool) (hx1 : kmin .i64 ≤ x1 ∧ x1 ≤ kmax .i64) (hx2 : kmin .i64 ≤ x2 ∧ x2 ≤ kmax .i64) (hx3 : kmin .i64 ≤ x3 ∧ x3 ≤ kmax .i64) (hx4 : kmin .i64 ≤ x4 ∧ x4 ≤ kmax .i64) (hx5 : kmin .i64 ≤ x5 ∧ x5 ≤ kmax .i64) (hx6 : kmin .i64 ≤ x6 ∧ x6 ≤ kmax .i64) (hx7 : kmin .i64 ≤ x7 ∧ x7 ≤ kmax .i64) (hx8 : kmin .i64 ≤ x8 ∧ x8 ≤ kmax .i64) (hx9 : kmin .i64 ≤ x9 ∧ x9 ≤ kmax .i64) (W : World)  :
    Calls Try.prog 3 #[.agg #[.int .i64 x1, .int .i64 x2, .int .i64 x3], .agg #[.int .i64 x4, .bool b0, .int .i64 x5, .int .i64 x6], .agg #[.int .i64 x7, .bool b1, .int .i64 x8, .int .i64 x9]] W fun e w' => e = .returned (.bool true) ∧ W.grownBy w' none := by
  obtain ⟨rs, hrs⟩ : ∃ rs : Nat → Sx.RSl, rs = fun _ => Sx.RSl.none := ⟨_, rfl⟩
  obtain ⟨ρ, eρ⟩ : ∃ ρ, ρ = Sx.rho [⟨1, .i64, x1⟩, ⟨2, .i64, x2⟩, ⟨3, .i64, x3⟩, ⟨4, .i64, x4⟩, ⟨5, .i64, x5⟩, ⟨6, .i64, x6⟩, ⟨7, .i64, x7⟩, ⟨8, .i64, x8⟩, ⟨9, .i64, x9⟩] [b0, b1] [] (Sx.envOf stat.Φ W rs) := ⟨_, rfl⟩
  have hz : ρ.z = Sx.envOf stat.Φ W rs := by rw [eρ]; rfl
  have hg : Sx.Gd stat.Φ ρ := by rw [eρ]; exact Sx.rho_gd ⟨hx1, hx2, hx3, hx4, hx5, hx6, hx7, hx8, hx9, trivial⟩ trivial odd_ok (fun r => by rw [hrs]; exact Nat.zero_le _)
  have hr : Sx.RomsOk roms W ρ := Sx.roms_nil
  have := Sx.law_told told0 rfl (fun p hp => by cases hp) hg hr
  subst eρ
  exact this

set_option maxRecDepth 100000 in
set_option maxHeartbeats 4000000 in
theorem lifted (os : Os) (started : os.Started) (H : Type) (enc : TypeId × Value → H) :
    ReturnsInHanded {} Try.checked os 3 .any (Rows.statMakesSpec.pre6 enc Try.prog Try.f3 Rows.statMakesRow.domain false) (Rows.statMakesSpec.post enc Try.prog Try.f3 false true false false) := by
  refine returnsInHanded_of_change (C := Try.checked) own started (by kernel_rfl) Try.func3
    (ChangeSpec.witness6 (enc := enc) (C := Try.checked) false ⟨#[], #[.agg #[.int .i64 0, .int .i64 0, .int .i64 0], .agg #[.int .i64 0, .bool false, .int .i64 0, .int .i64 0], .agg #[.int .i64 0, .bool false, .int .i64 0, .int .i64 0]], []⟩ 8 (by kernel_rfl) (by kernel_rfl) (by kernel_rfl) (by kernel_rfl)) ?_
  intro W base args ds gs before hval0 hW hcnd _
  have hval : ∀ (j : Nat) t v, Try.f3.params[j]? = some t → args[j]? = some v → Value.okWide Try.prog W .any base t v := hval0
  have hW' := hW
  obtain ⟨p, q, hA0, hV, rfl, hfz, hnd⟩ := hW
  obtain ⟨rfl, rfl⟩ := trodVars_none hV
  rw [List.append_nil] at hW'
  have hA : DataW.TrodAll enc Try.prog W 0 (fun _ => true) true Try.f3.params.toList args.toList ds p := hA0
  have hAk := hA
  rw [Try.params3] at hA hval
  obtain ⟨v0, vs0, d0, ds0, p0, q0, hargs, rfl, rfl, h0, r0⟩ := trodAll_cons hA
  obtain ⟨v1, vs1, d1, ds1, p1, q1, rfl, rfl, rfl, h1, r1⟩ := trodAll_cons r0
  obtain ⟨v2, vs2, d2, ds2, p2, q2, rfl, rfl, rfl, h2, r2⟩ := trodAll_cons r1
  obtain ⟨rfl, rfl, rfl⟩ := trodAll_nil r2
  obtain rfl : args = #[v0, v1, v2] := by cases args; simp_all
  obtain ⟨c0, rfl, l0, f0⟩ := open_flat (ts := [3, 3, 3]) (n := 3) Try.underlying23 rfl (by kernel_rfl) (by kernel_rfl) rfl (hval 0 23 v0 rfl rfl)
  obtain ⟨u0_0, u0_1, u0_2, rfl⟩ := list3 l0
  obtain ⟨x1, rfl, hx1⟩ := cell_int Try.underlying3 (f0 0 u0_0 3 rfl rfl)
  obtain ⟨x2, rfl, hx2⟩ := cell_int Try.underlying3 (f0 1 u0_1 3 rfl rfl)
  obtain ⟨x3, rfl, hx3⟩ := cell_int Try.underlying3 (f0 2 u0_2 3 rfl rfl)
  obtain ⟨c1, rfl, l1, f1⟩ := open_flat (ts := [2, 4, 24, 3]) (n := 4) Try.underlying26 rfl (by kernel_rfl) (by kernel_rfl) rfl (hval 1 26 v1 rfl rfl)
  obtain ⟨u1_0, u1_1, u1_2, u1_3, rfl⟩ := list4 l1
  obtain ⟨x4, rfl, hx4⟩ := cell_int Try.underlying2 (f1 0 u1_0 2 rfl rfl)
  obtain ⟨b0, rfl⟩ := cell_bool Try.underlying4 (f1 1 u1_1 4 rfl rfl)
  obtain ⟨x5, rfl, hx5⟩ := cell_int Try.underlying24 (f1 2 u1_2 24 rfl rfl)
  obtain ⟨x6, rfl, hx6⟩ := cell_int Try.underlying3 (f1 3 u1_3 3 rfl rfl)
  obtain ⟨c2, rfl, l2, f2⟩ := open_flat (ts := [2, 4, 24, 3]) (n := 4) Try.underlying26 rfl (by kernel_rfl) (by kernel_rfl) rfl (hval 2 26 v2 rfl rfl)
  obtain ⟨u2_0, u2_1, u2_2, u2_3, rfl⟩ := list4 l2
  obtain ⟨x7, rfl, hx7⟩ := cell_int Try.underlying2 (f2 0 u2_0 2 rfl rfl)
  obtain ⟨b1, rfl⟩ := cell_bool Try.underlying4 (f2 1 u2_1 4 rfl rfl)
  obtain ⟨x8, rfl, hx8⟩ := cell_int Try.underlying24 (f2 2 u2_2 24 rfl rfl)
  obtain ⟨x9, rfl, hx9⟩ := cell_int Try.underlying3 (f2 3 u2_3 3 rfl rfl)
  refine (law x1 x2 x3 x4 x5 x6 x7 x8 x9 b0 b1 hx1 hx2 hx3 hx4 hx5 hx6 hx7 hx8 hx9 W ).below.mono fun e W' ⟨he, hg⟩ => ?_
  subst he
  exact ⟨_, rfl, law_post (by kernel_rfl) (by kernel_rfl) rfl Try.underlying4 rfl hW' hAk rfl hg⟩

theorem proved : Rows.StatMakesSaid :=
  OpenClaim.holds_of_wide 3 Try.f3 rfl rfl rfl rfl rfl rfl rfl ⟨rfl, rfl, rfl, rfl, rfl⟩ rfl rfl rfl rfl rfl (by kernel_rfl) Try.func3 (by kernel_rfl)
    (of_decide_eq_true (by kernel_rfl)) (by unfold Func.isWrapper; first | (rw [if_pos (by decide +kernel)]; kernel_rfl) | (rw [if_neg (by decide +kernel)]; exact ⟨rfl, rfl⟩))
    (fun os started H enc _ => lifted os started H enc)
end Go.Proofs.Ytjgkaimgocnkmab.statMakes

