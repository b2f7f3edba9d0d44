/- The law OctetHolds returns true whatever it is given. No condition. -/
import Derived.Test.YtjgkaimgocnkmaaQk
set_option linter.unusedSimpArgs false
set_option linter.unusedVariables false
set_option linter.deprecated false
namespace Go.Proofs.Ytjgkaimgocnkmaa.octetHolds
open Go
open Go.ChangeShapes Go.WideShapes Go.ChangeAt Go.RowKit Go.Joins
open Sx (kmin kmax Rho Same Holds SV CK)
open oct
noncomputable section
def roms : Sx.Roms := []
def c0 : Sx.Ctr := oct.cHolds
end
theorem told0 : Sx.Told oct.Φ c0 := oct.told_holds
theorem law (x1 x2 x3 x4 : Int)  (hx1 : kmin .u64 ≤ x1 ∧ x1 ≤ kmax .u64) (hx2 : kmin .u64 ≤ x2 ∧ x2 ≤ kmax .u64) (hx3 : kmin .i64 ≤ x3 ∧ x3 ≤ kmax .i64) (hx4 : kmin .i64 ≤ x4 ∧ x4 ≤ kmax .i64) (W : World)  :
    Calls Try.prog 9 #[.int .u64 x1, .int .u64 x2, .agg #[.int .i64 x3, .int .i64 x4]] W fun e w' => e = .returned (.bool true) ∧ W.grownBy w' none := by
  obtain ⟨rs, hrs⟩ : ∃ rs : Nat → Sx.RSl, rs = fun _ => Sx.RSl.none := ⟨_, rfl⟩
  obtain ⟨ρ, eρ⟩ : ∃ ρ, ρ = Sx.rho [⟨1, .u64, x1⟩, ⟨2, .u64, x2⟩, ⟨3, .i64, x3⟩, ⟨4, .i64, x4⟩] [] [] (Sx.envOf oct.Φ W rs) := ⟨_, rfl⟩
  have hz : ρ.z = Sx.envOf oct.Φ W rs := by rw [eρ]; rfl
  have hg : Sx.Gd oct.Φ ρ := by rw [eρ]; exact Sx.rho_gd ⟨hx1, hx2, hx3, hx4, trivial⟩ trivial odd_ok (fun r => by rw [hrs]; exact Nat.zero_le _)
  have hr : Sx.RomsOk roms W ρ := Sx.roms_nil (F := oct.Φ) hg.F (Sx.glob_nil rfl)
  have := Sx.law_told told0 rfl (fun p hp => by cases hp) hg hr
  subst eρ
  exact this

set_option maxRecDepth 100000 in
set_option maxHeartbeats 4000000 in
theorem lifted (os : Os) (started : os.Started) (H : Type) (enc : TypeId × Value → H) :
    ReturnsInHanded {} Try.checked os 9 .any (Rows.octetHoldsSpec.pre6 enc Try.prog Try.f9 Rows.octetHoldsRow.domain false) (Rows.octetHoldsSpec.post enc Try.prog Try.f9 false true false false) := by
  refine returnsInHanded_of_change (C := Try.checked) own started (by kernel_rfl) Try.func9
    (ChangeSpec.witness6 (enc := enc) (C := Try.checked) false ⟨#[], #[.int .u64 0, .int .u64 0, .agg #[.int .i64 0, .int .i64 0]], []⟩ 8 (by kernel_rfl) (by kernel_rfl) (by kernel_rfl) (by kernel_rfl)) ?_
  intro W base args ds gs before hval0 hW hcnd _
  have hval : ∀ (j : Nat) t v, Try.f9.params[j]? = some t → args[j]? = some v → Value.okWide Try.prog W .any base t v := hval0
  have hW' := hW
  obtain ⟨p, q, hA0, hV, rfl, hfz, hnd⟩ := hW
  obtain ⟨rfl, rfl⟩ := trodVars_none hV
  rw [List.append_nil] at hW'
  have hA : DataW.TrodAll enc Try.prog W 0 (fun _ => true) true Try.f9.params.toList args.toList ds p := hA0
  have hAk := hA
  rw [Try.params9] at hA hval
  obtain ⟨v0, vs0, d0, ds0, p0, q0, hargs, rfl, rfl, h0, r0⟩ := trodAll_cons hA
  obtain ⟨v1, vs1, d1, ds1, p1, q1, rfl, rfl, rfl, h1, r1⟩ := trodAll_cons r0
  obtain ⟨v2, vs2, d2, ds2, p2, q2, rfl, rfl, rfl, h2, r2⟩ := trodAll_cons r1
  obtain ⟨rfl, rfl, rfl⟩ := trodAll_nil r2
  obtain rfl : args = #[v0, v1, v2] := by cases args; simp_all
  obtain ⟨x1, rfl, hx1⟩ := cell_int Try.underlying22 (hval 0 22 v0 rfl rfl)
  obtain ⟨x2, rfl, hx2⟩ := cell_int Try.underlying22 (hval 1 22 v1 rfl rfl)
  obtain ⟨c2, rfl, l2, f2⟩ := open_flat (ts := [2, 2]) (n := 2) Try.underlying62 rfl (by kernel_rfl) (by kernel_rfl) rfl (hval 2 62 v2 rfl rfl)
  obtain ⟨u2_0, u2_1, rfl⟩ := list2 l2
  obtain ⟨x3, rfl, hx3⟩ := cell_int Try.underlying2 (f2 0 u2_0 2 rfl rfl)
  obtain ⟨x4, rfl, hx4⟩ := cell_int Try.underlying2 (f2 1 u2_1 2 rfl rfl)
  refine (law x1 x2 x3 x4 hx1 hx2 hx3 hx4 W ).below.mono fun e W' ⟨he, hg⟩ => ?_
  subst he
  exact ⟨_, rfl, law_post (by kernel_rfl) (by kernel_rfl) rfl Try.underlying4 rfl hW' hAk rfl hg⟩

theorem proved : Rows.OctetHoldsSaid :=
  OpenClaim.holds_of_wide 9 Try.f9 rfl rfl rfl rfl rfl rfl rfl ⟨rfl, rfl, rfl, rfl, rfl⟩ rfl rfl rfl rfl rfl (by kernel_rfl) Try.func9 (by kernel_rfl)
    (of_decide_eq_true (by kernel_rfl)) (by unfold Func.isWrapper; first | (rw [if_pos (by decide +kernel)]; kernel_rfl) | (rw [if_neg (by decide +kernel)]; exact ⟨rfl, rfl⟩))
    (fun os started H enc _ => lifted os started H enc)
end Go.Proofs.Ytjgkaimgocnkmaa.octetHolds

