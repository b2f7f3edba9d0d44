/- The law SealLong returns true whatever it is given. No condition. -/
import Derived.Test.YthbnjmmkjpoahaaQs2
set_option linter.unusedSimpArgs false
set_option linter.unusedVariables false
set_option linter.deprecated false
namespace Go.Proofs.Ythbnjmmkjpoahaa.sealLong
open Go
open Go.ChangeShapes Go.WideShapes Go.ChangeAt Go.RowKit Go.Joins
open Sx (kmin kmax Rho Same Holds SV CK)
open oct
noncomputable section
def roms : Sx.Roms := []
def c0 : Sx.Ctr := oct.cLong
end
theorem told0 : Sx.Told oct.Φ c0 := oct.told_lng
theorem law (x1 x2 : Int)  (hx1 : kmin .u8 ≤ x1 ∧ x1 ≤ kmax .u8) (hx2 : kmin .i64 ≤ x2 ∧ x2 ≤ kmax .i64) (W : World)  :
    Calls Try.prog 7 #[.int .u8 x1, .int .i64 x2] W fun e w' => e = .returned (.bool true) ∧ W.grownBy w' none := by
  obtain ⟨rs, hrs⟩ : ∃ rs : Nat → Sx.RSl, rs = fun _ => Sx.RSl.none := ⟨_, rfl⟩
  obtain ⟨ρ, eρ⟩ : ∃ ρ, ρ = Sx.rho [⟨1, .u8, x1⟩, ⟨2, .i64, x2⟩] [] [] (Sx.envOf oct.Φ W rs) := ⟨_, rfl⟩
  have hz : ρ.z = Sx.envOf oct.Φ W rs := by rw [eρ]; rfl
  have hg : Sx.Gd oct.Φ ρ := by rw [eρ]; exact Sx.rho_gd ⟨hx1, hx2, trivial⟩ trivial odd_ok (fun r => by rw [hrs]; exact Nat.zero_le _)
  have hr : Sx.RomsOk roms W ρ := Sx.roms_nil (F := oct.Φ) hg.F (Sx.glob_nil rfl)
  have := Sx.law_told told0 rfl (fun p hp => by cases hp) hg hr
  subst eρ
  exact this

set_option maxRecDepth 100000 in
set_option maxHeartbeats 4000000 in
theorem lifted (os : Os) (started : os.Started) (H : Type) (enc : TypeId × Value → H) :
    ReturnsInHanded {} Try.checked os 7 .any (Rows.sealLongSpec.pre6 enc Try.prog Try.f7 Rows.sealLongRow.domain false) (Rows.sealLongSpec.post enc Try.prog Try.f7 false true false false) := by
  refine returnsInHanded_of_change (C := Try.checked) own started (by kernel_rfl) Try.func7
    (ChangeSpec.witness6 (enc := enc) (C := Try.checked) false ⟨#[], #[.int .u8 0, .int .i64 0], []⟩ 8 (by kernel_rfl) (by kernel_rfl) (by kernel_rfl) (by kernel_rfl)) ?_
  intro W base args ds gs before hval0 hW hcnd _
  have hval : ∀ (j : Nat) t v, Try.f7.params[j]? = some t → args[j]? = some v → Value.okWide Try.prog W .any base t v := hval0
  have hW' := hW
  obtain ⟨p, q, hA0, hV, rfl, hfz, hnd⟩ := hW
  obtain ⟨rfl, rfl⟩ := trodVars_none hV
  rw [List.append_nil] at hW'
  have hA : DataW.TrodAll enc Try.prog W 0 (fun _ => true) true Try.f7.params.toList args.toList ds p := hA0
  have hAk := hA
  rw [Try.params7] at hA hval
  obtain ⟨v0, vs0, d0, ds0, p0, q0, hargs, rfl, rfl, h0, r0⟩ := trodAll_cons hA
  obtain ⟨v1, vs1, d1, ds1, p1, q1, rfl, rfl, rfl, h1, r1⟩ := trodAll_cons r0
  obtain ⟨rfl, rfl, rfl⟩ := trodAll_nil r1
  obtain rfl : args = #[v0, v1] := by cases args; simp_all
  obtain ⟨x1, rfl, hx1⟩ := cell_int Try.underlying5 (hval 0 5 v0 rfl rfl)
  obtain ⟨x2, rfl, hx2⟩ := cell_int Try.underlying3 (hval 1 3 v1 rfl rfl)
  refine (law x1 x2 hx1 hx2 W ).below.mono fun e W' ⟨he, hg⟩ => ?_
  subst he
  exact ⟨_, rfl, law_post (by kernel_rfl) (by kernel_rfl) rfl Try.underlying4 rfl hW' hAk rfl hg⟩

theorem proved : Rows.SealLongSaid :=
  OpenClaim.holds_of_wide 7 Try.f7 rfl rfl rfl rfl rfl rfl rfl ⟨rfl, rfl, rfl, rfl, rfl⟩ rfl rfl rfl rfl rfl (by kernel_rfl) Try.func7 (by kernel_rfl)
    (of_decide_eq_true (by kernel_rfl)) (by unfold Func.isWrapper; first | (rw [if_pos (by decide +kernel)]; kernel_rfl) | (rw [if_neg (by decide +kernel)]; exact ⟨rfl, rfl⟩))
    (fun os started H enc _ => lifted os started H enc)
end Go.Proofs.Ythbnjmmkjpoahaa.sealLong

