/- The law CallHolds returns true whatever it is given. No condition. -/
import Derived.Test.YthenenacmiiphaaCo
set_option linter.unusedSimpArgs false
set_option linter.unusedVariables false
set_option linter.deprecated false
namespace Go.Proofs.Ythenenacmiiphaa.callHolds
open Go
open Go.ChangeShapes Go.WideShapes Go.ChangeAt Go.RowKit Go.Joins
open Sx (kmin kmax Rho Same Holds SV CK)
open oct
noncomputable section
def roms : Sx.Roms := []
def c0 : Sx.Ctr := oct.cHolds
end
theorem told0 : Sx.Told oct.Φ c0 := oct.told_holds
theorem law (x1 x2 x3 x4 x5 x6 x7 x8 x9 x10 x11 x12 x13 x14 x15 x16 x17 x18 x19 x20 x21 x22 x23 x24 x25 x26 x27 x28 x29 : Int)  (hx1 : kmin .i64 ≤ x1 ∧ x1 ≤ kmax .i64) (hx2 : kmin .i64 ≤ x2 ∧ x2 ≤ kmax .i64) (hx3 : kmin .i64 ≤ x3 ∧ x3 ≤ kmax .i64) (hx4 : kmin .i64 ≤ x4 ∧ x4 ≤ kmax .i64) (hx5 : kmin .i64 ≤ x5 ∧ x5 ≤ kmax .i64) (hx6 : kmin .i64 ≤ x6 ∧ x6 ≤ kmax .i64) (hx7 : kmin .i64 ≤ x7 ∧ x7 ≤ kmax .i64) (hx8 : kmin .i64 ≤ x8 ∧ x8 ≤ kmax .i64) (hx9 : kmin .i64 ≤ x9 ∧ x9 ≤ kmax .i64) (hx10 : kmin .i64 ≤ x10 ∧ x10 ≤ kmax .i64) (hx11 : kmin .i64 ≤ x11 ∧ x11 ≤ kmax .i64) (hx12 : kmin .i64 ≤ x12 ∧ x12 ≤ kmax .i64) (hx13 : kmin .i64 ≤ x13 ∧ x13 ≤ kmax .i64) (hx14 : kmin .i64 ≤ x14 ∧ x14 ≤ kmax .i64) (hx15 : kmin .i64 ≤ x15 ∧ x15 ≤ kmax .i64) (hx16 : kmin .i64 ≤ x16 ∧ x16 ≤ kmax .i64) (hx17 : kmin .i64 ≤ x17 ∧ x17 ≤ kmax .i64) (hx18 : kmin .i64 ≤ x18 ∧ x18 ≤ kmax .i64) (hx19 : kmin .i64 ≤ x19 ∧ x19 ≤ kmax .i64) (hx20 : kmin .i64 ≤ x20 ∧ x20 ≤ kmax .i64) (hx21 : kmin .i64 ≤ x21 ∧ x21 ≤ kmax .i64) (hx22 : kmin .i64 ≤ x22 ∧ x22 ≤ kmax .i64) (hx23 : kmin .i64 ≤ x23 ∧ x23 ≤ kmax .i64) (hx24 : kmin .i64 ≤ x24 ∧ x24 ≤ kmax .i64) (hx25 : kmin .i64 ≤ x25 ∧ x25 ≤ kmax .i64) (hx26 : kmin .i64 ≤ x26 ∧ x26 ≤ kmax .i64) (hx27 : kmin .i64 ≤ x27 ∧ x27 ≤ kmax .i64) (hx28 : kmin .i64 ≤ x28 ∧ x28 ≤ kmax .i64) (hx29 : kmin .i64 ≤ x29 ∧ x29 ≤ kmax .i64) (W : World)  :
  Calls Try.prog 11 #[.agg #[.int .i64 x1, .int .i64 x2, .int .i64 x3], .agg #[.int .i64 x4, .int .i64 x5, .int .i64 x6, .int .i64 x7, .int .i64 x8, .int .i64 x9, .int .i64 x10, .int .i64 x11, .int .i64 x12, .int .i64 x13, .int .i64 x14, .int .i64 x15, .int .i64 x16, .int .i64 x17, .int .i64 x18, .int .i64 x19], .agg #[.int .i64 x20, .int .i64 x21, .int .i64 x22, .int .i64 x23, .int .i64 x24, .int .i64 x25, .int .i64 x26, .int .i64 x27, .int .i64 x28, .int .i64 x29]] W fun e w' => e = .returned (.bool true) ∧ W.grownBy w' none := by
 obtain ⟨rs, hrs⟩ : ∃ rs : Nat → Sx.RSl, rs = fun _ => Sx.RSl.none := ⟨_, rfl⟩
 obtain ⟨ρ, eρ⟩ : ∃ ρ, ρ = Sx.rho [⟨1, .i64, x1⟩, ⟨2, .i64, x2⟩, ⟨3, .i64, x3⟩, ⟨4, .i64, x4⟩, ⟨5, .i64, x5⟩, ⟨6, .i64, x6⟩, ⟨7, .i64, x7⟩, ⟨8, .i64, x8⟩, ⟨9, .i64, x9⟩, ⟨10, .i64, x10⟩, ⟨11, .i64, x11⟩, ⟨12, .i64, x12⟩, ⟨13, .i64, x13⟩, ⟨14, .i64, x14⟩, ⟨15, .i64, x15⟩, ⟨16, .i64, x16⟩, ⟨17, .i64, x17⟩, ⟨18, .i64, x18⟩, ⟨19, .i64, x19⟩, ⟨20, .i64, x20⟩, ⟨21, .i64, x21⟩, ⟨22, .i64, x22⟩, ⟨23, .i64, x23⟩, ⟨24, .i64, x24⟩, ⟨25, .i64, x25⟩, ⟨26, .i64, x26⟩, ⟨27, .i64, x27⟩, ⟨28, .i64, x28⟩, ⟨29, .i64, x29⟩] [] [] (Sx.envOf oct.Φ W rs) := ⟨_, rfl⟩
 have hz : ρ.z = Sx.envOf oct.Φ W rs := by rw [eρ]; rfl
 have hg : Sx.Gd oct.Φ ρ := by rw [eρ]; exact Sx.rho_gd ⟨hx1, hx2, hx3, hx4, hx5, hx6, hx7, hx8, hx9, hx10, hx11, hx12, hx13, hx14, hx15, hx16, hx17, hx18, hx19, hx20, hx21, hx22, hx23, hx24, hx25, hx26, hx27, hx28, hx29, trivial⟩ trivial odd_ok (fun r => by rw [hrs]; exact Nat.zero_le _)
 have hr : Sx.RomsOk roms W ρ := Sx.roms_nil (F := oct.Φ) hg.F (Sx.glob_nil rfl)
 have := Sx.law_told told0 rfl (fun p hp => by cases hp) hg hr
 subst eρ
 exact this

set_option maxRecDepth 100000 in
set_option maxHeartbeats 4000000 in
theorem lifted (os : Os) (started : os.Started) (H : Type) (enc : TypeId × Value → H) :
    ReturnsInHanded {} Try.checked os 11 .any (Rows.callHoldsSpec.pre6 enc Try.prog Try.f11 Rows.callHoldsRow.domain false) (Rows.callHoldsSpec.post enc Try.prog Try.f11 false true false false) := by
  refine returnsInHanded_of_change (C := Try.checked) own started (by kernel_rfl) Try.func11
    (ChangeSpec.witness6 (enc := enc) (C := Try.checked) false ⟨#[], #[.agg #[.int .i64 0, .int .i64 0, .int .i64 0], .agg #[.int .i64 0, .int .i64 0, .int .i64 0, .int .i64 0, .int .i64 0, .int .i64 0, .int .i64 0, .int .i64 0, .int .i64 0, .int .i64 0, .int .i64 0, .int .i64 0, .int .i64 0, .int .i64 0, .int .i64 0, .int .i64 0], .agg #[.int .i64 0, .int .i64 0, .int .i64 0, .int .i64 0, .int .i64 0, .int .i64 0, .int .i64 0, .int .i64 0, .int .i64 0, .int .i64 0]], []⟩ 8 (by kernel_rfl) (by kernel_rfl) (by kernel_rfl) (by kernel_rfl)) ?_
  intro W base args ds gs before hval0 hW hcnd _
  have hval : ∀ (j : Nat) t v, Try.f11.params[j]? = some t → args[j]? = some v → Value.okWide Try.prog W .any base t v := hval0
  have hW' := hW
  obtain ⟨p, q, hA0, hV, rfl, hfz, hnd⟩ := hW
  obtain ⟨rfl, rfl⟩ := trodVars_none hV
  rw [List.append_nil] at hW'
  have hA : DataW.TrodAll enc Try.prog W 0 (fun _ => true) true Try.f11.params.toList args.toList ds p := hA0
  have hAk := hA
  rw [Try.params11] at hA hval
  obtain ⟨v0, vs0, d0, ds0, p0, q0, hargs, rfl, rfl, h0, r0⟩ := trodAll_cons hA
  obtain ⟨v1, vs1, d1, ds1, p1, q1, rfl, rfl, rfl, h1, r1⟩ := trodAll_cons r0
  obtain ⟨v2, vs2, d2, ds2, p2, q2, rfl, rfl, rfl, h2, r2⟩ := trodAll_cons r1
  obtain ⟨rfl, rfl, rfl⟩ := trodAll_nil r2
  obtain rfl : args = #[v0, v1, v2] := by cases args; simp_all
  obtain ⟨c0, rfl, l0, f0⟩ := open_flat (ts := [3, 3, 3]) (n := 3) Try.underlying23 rfl (by kernel_rfl) (by kernel_rfl) rfl (hval 0 23 v0 rfl rfl)
  obtain ⟨u0_0, u0_1, u0_2, rfl⟩ := list3 l0
  obtain ⟨x1, rfl, hx1⟩ := cell_int Try.underlying3 (f0 0 u0_0 3 rfl rfl)
  obtain ⟨x2, rfl, hx2⟩ := cell_int Try.underlying3 (f0 1 u0_1 3 rfl rfl)
  obtain ⟨x3, rfl, hx3⟩ := cell_int Try.underlying3 (f0 2 u0_2 3 rfl rfl)
  obtain ⟨c1, rfl, l1, f1⟩ := open_flat (ts := [68, 3, 69, 3, 2, 3, 2, 2, 68, 3, 69, 3, 2, 3, 2, 2]) (n := 16) Try.underlying104 rfl (by kernel_rfl) (by kernel_rfl) rfl (hval 1 104 v1 rfl rfl)
  obtain ⟨u1_0, u1_1, u1_2, u1_3, u1_4, u1_5, u1_6, u1_7, u1_8, u1_9, u1_10, u1_11, u1_12, u1_13, u1_14, u1_15, rfl⟩ := list16 l1
  obtain ⟨x4, rfl, hx4⟩ := cell_int Try.underlying68 (f1 0 u1_0 68 rfl rfl)
  obtain ⟨x5, rfl, hx5⟩ := cell_int Try.underlying3 (f1 1 u1_1 3 rfl rfl)
  obtain ⟨x6, rfl, hx6⟩ := cell_int Try.underlying69 (f1 2 u1_2 69 rfl rfl)
  obtain ⟨x7, rfl, hx7⟩ := cell_int Try.underlying3 (f1 3 u1_3 3 rfl rfl)
  obtain ⟨x8, rfl, hx8⟩ := cell_int Try.underlying2 (f1 4 u1_4 2 rfl rfl)
  obtain ⟨x9, rfl, hx9⟩ := cell_int Try.underlying3 (f1 5 u1_5 3 rfl rfl)
  obtain ⟨x10, rfl, hx10⟩ := cell_int Try.underlying2 (f1 6 u1_6 2 rfl rfl)
  obtain ⟨x11, rfl, hx11⟩ := cell_int Try.underlying2 (f1 7 u1_7 2 rfl rfl)
  obtain ⟨x12, rfl, hx12⟩ := cell_int Try.underlying68 (f1 8 u1_8 68 rfl rfl)
  obtain ⟨x13, rfl, hx13⟩ := cell_int Try.underlying3 (f1 9 u1_9 3 rfl rfl)
  obtain ⟨x14, rfl, hx14⟩ := cell_int Try.underlying69 (f1 10 u1_10 69 rfl rfl)
  obtain ⟨x15, rfl, hx15⟩ := cell_int Try.underlying3 (f1 11 u1_11 3 rfl rfl)
  obtain ⟨x16, rfl, hx16⟩ := cell_int Try.underlying2 (f1 12 u1_12 2 rfl rfl)
  obtain ⟨x17, rfl, hx17⟩ := cell_int Try.underlying3 (f1 13 u1_13 3 rfl rfl)
  obtain ⟨x18, rfl, hx18⟩ := cell_int Try.underlying2 (f1 14 u1_14 2 rfl rfl)
  obtain ⟨x19, rfl, hx19⟩ := cell_int Try.underlying2 (f1 15 u1_15 2 rfl rfl)
  obtain ⟨c2, rfl, l2, f2⟩ := open_flat (ts := [34, 3, 2, 84, 2, 34, 3, 2, 84, 2]) (n := 10) Try.underlying105 rfl (by kernel_rfl) (by kernel_rfl) rfl (hval 2 105 v2 rfl rfl)
  obtain ⟨u2_0, u2_1, u2_2, u2_3, u2_4, u2_5, u2_6, u2_7, u2_8, u2_9, rfl⟩ := list10 l2
  obtain ⟨x20, rfl, hx20⟩ := cell_int Try.underlying34 (f2 0 u2_0 34 rfl rfl)
  obtain ⟨x21, rfl, hx21⟩ := cell_int Try.underlying3 (f2 1 u2_1 3 rfl rfl)
  obtain ⟨x22, rfl, hx22⟩ := cell_int Try.underlying2 (f2 2 u2_2 2 rfl rfl)
  obtain ⟨x23, rfl, hx23⟩ := cell_int Try.underlying84 (f2 3 u2_3 84 rfl rfl)
  obtain ⟨x24, rfl, hx24⟩ := cell_int Try.underlying2 (f2 4 u2_4 2 rfl rfl)
  obtain ⟨x25, rfl, hx25⟩ := cell_int Try.underlying34 (f2 5 u2_5 34 rfl rfl)
  obtain ⟨x26, rfl, hx26⟩ := cell_int Try.underlying3 (f2 6 u2_6 3 rfl rfl)
  obtain ⟨x27, rfl, hx27⟩ := cell_int Try.underlying2 (f2 7 u2_7 2 rfl rfl)
  obtain ⟨x28, rfl, hx28⟩ := cell_int Try.underlying84 (f2 8 u2_8 84 rfl rfl)
  obtain ⟨x29, rfl, hx29⟩ := cell_int Try.underlying2 (f2 9 u2_9 2 rfl rfl)
  refine (law x1 x2 x3 x4 x5 x6 x7 x8 x9 x10 x11 x12 x13 x14 x15 x16 x17 x18 x19 x20 x21 x22 x23 x24 x25 x26 x27 x28 x29 hx1 hx2 hx3 hx4 hx5 hx6 hx7 hx8 hx9 hx10 hx11 hx12 hx13 hx14 hx15 hx16 hx17 hx18 hx19 hx20 hx21 hx22 hx23 hx24 hx25 hx26 hx27 hx28 hx29 W ).below.mono fun e W' ⟨he, hg⟩ => ?_
  subst he
  exact ⟨_, rfl, law_post (by kernel_rfl) (by kernel_rfl) rfl Try.underlying4 rfl hW' hAk rfl hg⟩

theorem proved : Rows.CallHoldsSaid :=
  OpenClaim.holds_of_wide 11 Try.f11 rfl rfl rfl rfl rfl rfl rfl ⟨rfl, rfl, rfl, rfl, rfl⟩ rfl rfl rfl rfl rfl (by kernel_rfl) Try.func11 (by kernel_rfl)
    (of_decide_eq_true (by kernel_rfl)) (by unfold Func.isWrapper; first | (rw [if_pos (by decide +kernel)]; kernel_rfl) | (rw [if_neg (by decide +kernel)]; exact ⟨rfl, rfl⟩))
    (fun os started H enc _ => lifted os started H enc)
end Go.Proofs.Ythenenacmiiphaa.callHolds

