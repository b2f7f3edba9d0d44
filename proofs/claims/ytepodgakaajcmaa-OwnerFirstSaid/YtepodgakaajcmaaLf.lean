/- The law OwnerFirst returns true whatever it is given. No condition. -/
import Derived.Test.YtepodgakaajcmaaOc
set_option linter.unusedSimpArgs false
set_option linter.unusedVariables false
set_option linter.deprecated false
namespace Go.Proofs.Ytepodgakaajcmaa.ownerFirst
open Go
open Go.ChangeShapes Go.WideShapes Go.ChangeAt Go.RowKit Go.Joins
open Sx (kmin kmax Rho Same Holds SV CK)
open own
noncomputable section
def roms : Sx.Roms := []
def c0 : Sx.Ctr := own.cFirst0
end
theorem told0 : Sx.Told own.Φ c0 := own.told_first0
theorem law (x1 x2 x3 x4 x5 x6 : Int) (b0 : Bool) (hx1 : kmin .i64 ≤ x1 ∧ x1 ≤ kmax .i64) (hx2 : kmin .i64 ≤ x2 ∧ x2 ≤ kmax .i64) (hx3 : kmin .i64 ≤ x3 ∧ x3 ≤ kmax .i64) (hx4 : kmin .i64 ≤ x4 ∧ x4 ≤ kmax .i64) (hx5 : kmin .i64 ≤ x5 ∧ x5 ≤ kmax .i64) (hx6 : kmin .i64 ≤ x6 ∧ x6 ≤ kmax .i64) (W : World)  :
    Calls Try.prog 5 #[.agg #[.int .i64 x1, .int .i64 x2, .int .i64 x3], .agg #[.int .i64 x4, .bool b0], .agg #[.int .i64 x5, .int .i64 x6]] W fun e w' => e = .returned (.bool true) ∧ W.grownBy w' none := by
  obtain ⟨rs, hrs⟩ : ∃ rs : Nat → Sx.RSl, rs = fun _ => Sx.RSl.none := ⟨_, rfl⟩
  obtain ⟨ρ, eρ⟩ : ∃ ρ, ρ = Sx.rho [⟨1, .i64, x1⟩, ⟨2, .i64, x2⟩, ⟨3, .i64, x3⟩, ⟨4, .i64, x4⟩, ⟨5, .i64, x5⟩, ⟨6, .i64, x6⟩] [false, b0] [] (Sx.envOf own.Φ W rs) := ⟨_, rfl⟩
  have hz : ρ.z = Sx.envOf own.Φ W rs := by rw [eρ]; rfl
  have hg : Sx.Gd own.Φ ρ := by rw [eρ]; exact Sx.rho_gd ⟨hx1, hx2, hx3, hx4, hx5, hx6, trivial⟩ trivial odd_ok (fun r => by rw [hrs]; exact Nat.zero_le _)
  have hr : Sx.RomsOk roms W ρ := Sx.roms_nil (F := own.Φ) hg.F (Sx.glob_nil rfl)
  have fin : ∀ (c : Sx.Ctr) (_ : Sx.Told own.Φ c) (_ : c.f = 5) (_ : c.pat = own.cFirst0.pat) (_ : c.roms = []) (_ : c.res = .bool (.lit true)) (_ : Holds ρ c.pre), Calls Try.prog 5 #[.agg #[.int .i64 x1, .int .i64 x2, .int .i64 x3], .agg #[.int .i64 x4, .bool b0], .agg #[.int .i64 x5, .int .i64 x6]] W fun e w' => e = .returned (.bool true) ∧ W.grownBy w' none := by
    intro c h hf hp hro hres hpre
    have := Sx.law_told h hres hpre hg (by rw [hro]; exact hr)
    rw [hf, hp] at this
    subst eρ
    exact this
  have ex1 : ρ.i .i64 1 = x1 := by rw [eρ]; rfl
  have ex4 : ρ.i .i64 4 = x4 := by rw [eρ]; rfl
  have ex5 : ρ.i .i64 5 = x5 := by rw [eρ]; rfl
  have eb0 : ρ.b 1 = b0 := by rw [eρ]; rfl
  by_cases z1 : x1 ≤ 1
  · exact fin cFirst0 told_first0 rfl rfl rfl rfl (by simp only [cFirst0, xv, Sx.h_cons, Sx.h_nil, Sx.d_le, Sx.IE.den, ex1]; exact ⟨z1, trivial⟩)
  · by_cases zb : b0 = true
    · exact fin cFirst1 told_first1 rfl rfl rfl rfl (by simp only [cFirst1, xv, Sx.h_cons, Sx.h_nil, Sx.d_le, Sx.d_var, Sx.IE.den, ex1, eb0]; exact ⟨by omega, zb, trivial⟩)
    · by_cases z2 : x5 = x4
      · exact fin cFirst2 told_first2 rfl rfl rfl rfl (by simp only [cFirst2, xv, Sx.h_cons, Sx.h_nil, Sx.d_le, Sx.d_var, Sx.d_not, Sx.d_eq, Sx.IE.den, ex1, eb0, ex5, ex4]; exact ⟨by omega, zb, z2, trivial⟩)
      · exact fin cFirst3 told_first3 rfl rfl rfl rfl (by simp only [cFirst3, xv, Sx.h_cons, Sx.h_nil, Sx.d_le, Sx.d_var, Sx.d_not, Sx.d_eq, Sx.IE.den, ex1, eb0, ex5, ex4]; exact ⟨by omega, zb, z2, trivial⟩)

set_option maxRecDepth 100000 in
set_option maxHeartbeats 4000000 in
theorem lifted (os : Os) (started : os.Started) (H : Type) (enc : TypeId × Value → H) :
    ReturnsInHanded {} Try.checked os 5 .any (Rows.ownerFirstSpec.pre6 enc Try.prog Try.f5 Rows.ownerFirstRow.domain false) (Rows.ownerFirstSpec.post enc Try.prog Try.f5 false true false false) := by
  refine returnsInHanded_of_change (C := Try.checked) own started (by kernel_rfl) Try.func5
    (ChangeSpec.witness6 (enc := enc) (C := Try.checked) false ⟨#[], #[.agg #[.int .i64 0, .int .i64 0, .int .i64 0], .agg #[.int .i64 0, .bool false], .agg #[.int .i64 0, .int .i64 0]], []⟩ 8 (by kernel_rfl) (by kernel_rfl) (by kernel_rfl) (by kernel_rfl)) ?_
  intro W base args ds gs before hval0 hW hcnd _
  have hval : ∀ (j : Nat) t v, Try.f5.params[j]? = some t → args[j]? = some v → Value.okWide Try.prog W .any base t v := hval0
  have hW' := hW
  obtain ⟨p, q, hA0, hV, rfl, hfz, hnd⟩ := hW
  obtain ⟨rfl, rfl⟩ := trodVars_none hV
  rw [List.append_nil] at hW'
  have hA : DataW.TrodAll enc Try.prog W 0 (fun _ => true) true Try.f5.params.toList args.toList ds p := hA0
  have hAk := hA
  rw [Try.params5] at hA hval
  obtain ⟨v0, vs0, d0, ds0, p0, q0, hargs, rfl, rfl, h0, r0⟩ := trodAll_cons hA
  obtain ⟨v1, vs1, d1, ds1, p1, q1, rfl, rfl, rfl, h1, r1⟩ := trodAll_cons r0
  obtain ⟨v2, vs2, d2, ds2, p2, q2, rfl, rfl, rfl, h2, r2⟩ := trodAll_cons r1
  obtain ⟨rfl, rfl, rfl⟩ := trodAll_nil r2
  obtain rfl : args = #[v0, v1, v2] := by cases args; simp_all
  obtain ⟨c0, rfl, l0, f0⟩ := open_flat (ts := [3, 3, 3]) (n := 3) Try.underlying23 rfl (by kernel_rfl) (by kernel_rfl) rfl (hval 0 23 v0 rfl rfl)
  obtain ⟨u0_0, u0_1, u0_2, rfl⟩ := list3 l0
  obtain ⟨x1, rfl, hx1⟩ := cell_int Try.underlying3 (f0 0 u0_0 3 rfl rfl)
  obtain ⟨x2, rfl, hx2⟩ := cell_int Try.underlying3 (f0 1 u0_1 3 rfl rfl)
  obtain ⟨x3, rfl, hx3⟩ := cell_int Try.underlying3 (f0 2 u0_2 3 rfl rfl)
  obtain ⟨c1, rfl, l1, f1⟩ := open_flat (ts := [3, 4]) (n := 2) Try.underlying41 rfl (by kernel_rfl) (by kernel_rfl) rfl (hval 1 41 v1 rfl rfl)
  obtain ⟨u1_0, u1_1, rfl⟩ := list2 l1
  obtain ⟨x4, rfl, hx4⟩ := cell_int Try.underlying3 (f1 0 u1_0 3 rfl rfl)
  obtain ⟨b0, rfl⟩ := cell_bool Try.underlying4 (f1 1 u1_1 4 rfl rfl)
  obtain ⟨c2, rfl, l2, f2⟩ := open_flat (ts := [3, 2]) (n := 2) Try.underlying25 rfl (by kernel_rfl) (by kernel_rfl) rfl (hval 2 25 v2 rfl rfl)
  obtain ⟨u2_0, u2_1, rfl⟩ := list2 l2
  obtain ⟨x5, rfl, hx5⟩ := cell_int Try.underlying3 (f2 0 u2_0 3 rfl rfl)
  obtain ⟨x6, rfl, hx6⟩ := cell_int Try.underlying2 (f2 1 u2_1 2 rfl rfl)
  refine (law x1 x2 x3 x4 x5 x6 b0 hx1 hx2 hx3 hx4 hx5 hx6 W ).below.mono fun e W' ⟨he, hg⟩ => ?_
  subst he
  exact ⟨_, rfl, law_post (by kernel_rfl) (by kernel_rfl) rfl Try.underlying4 rfl hW' hAk rfl hg⟩

theorem proved : Rows.OwnerFirstSaid :=
  OpenClaim.holds_of_wide 5 Try.f5 rfl rfl rfl rfl rfl rfl rfl ⟨rfl, rfl, rfl, rfl, rfl⟩ rfl rfl rfl rfl rfl (by kernel_rfl) Try.func5 (by kernel_rfl)
    (of_decide_eq_true (by kernel_rfl)) (by unfold Func.isWrapper; first | (rw [if_pos (by decide +kernel)]; kernel_rfl) | (rw [if_neg (by decide +kernel)]; exact ⟨rfl, rfl⟩))
    (fun os started H enc _ => lifted os started H enc)
end Go.Proofs.Ytepodgakaajcmaa.ownerFirst

