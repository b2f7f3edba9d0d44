/- The law KeepLong returns true whatever it is given. No condition. -/
import Derived.Test.YtllojpnpfhaniaaGreatKn
set_option linter.unusedSimpArgs false
set_option linter.unusedVariables false
set_option linter.deprecated false
namespace Go.Proofs.YtllojpnpfhaniaaGreat.keepLong
open Go
open Go.ChangeShapes Go.WideShapes Go.ChangeAt Go.RowKit Go.Joins
open Sx (kmin kmax Rho Same Holds SV CK)
open oct
noncomputable section
def roms : Sx.Roms := []
end
theorem law (x1 : Int)  (hx1 : kmin .i64 ≤ x1 ∧ x1 ≤ kmax .i64) (W : World)  :
  Calls Tryz.prog 4 #[.int .i64 x1] W fun e w' => e = .returned (.bool true) ∧ W.grownBy w' none := by
 obtain ⟨rs, hrs⟩ : ∃ rs : Nat → Sx.RSl, rs = fun _ => Sx.RSl.none := ⟨_, rfl⟩
 obtain ⟨ρ, eρ⟩ : ∃ ρ, ρ = Sx.rho [⟨1, .i64, x1⟩] [] [] (Sx.envOf oct.Φ W rs) := ⟨_, rfl⟩
 have hz : ρ.z = Sx.envOf oct.Φ W rs := by rw [eρ]; rfl
 have hg : Sx.Gd oct.Φ ρ := by rw [eρ]; exact Sx.rho_gd ⟨hx1, trivial⟩ trivial odd_ok (fun r => by rw [hrs]; exact Nat.zero_le _)
 have hr : Sx.RomsOk roms W ρ := Sx.roms_nil (F := oct.Φ) hg.F (Sx.glob_nil rfl)
 have hx : ρ.i .i64 1 = x1 := by rw [eρ]; rfl
 have e : SV.denL ρ [iv 1] = [.int .i64 x1] := by subst eρ; rfl
 have one : ∀ n : Int, x1 = n → Holds ρ (atE n) := fun n hn => by
  show Holds ρ [_, _]
  simp only [Sx.h_nil, Sx.h_cons, Sx.d_le, Sx.IE.den, xv, hx, and_true]
  omega
 rcases (show x1 ≤ -2 ∨ x1 = -1 ∨ x1 = 0 ∨ x1 = 1 ∨ 2 ≤ x1 by omega) with h | h | h | h | h
 ·have := Sx.law_told oct.told_kla rfl (by show Holds ρ [_]; simp only [Sx.h_nil, Sx.h_cons, Sx.d_le, Sx.IE.den, xv, hx, and_true]; exact h) hg hr
  rw [show (SV.denL ρ cKLa.pat) = [.int .i64 x1] from e] at this
  exact this
 ·have := Sx.law_told oct.told_klm rfl (one _ h) hg hr
  rw [show (SV.denL ρ cKLm.pat) = [.int .i64 x1] from e] at this
  exact this
 ·have := Sx.law_told oct.told_klo rfl (one _ h) hg hr
  rw [show (SV.denL ρ cKLo.pat) = [.int .i64 x1] from e] at this
  exact this
 ·have := Sx.law_told oct.told_klp rfl (one _ h) hg hr
  rw [show (SV.denL ρ cKLp.pat) = [.int .i64 x1] from e] at this
  exact this
 ·have := Sx.law_told oct.told_klb rfl (by show Holds ρ [_]; simp only [Sx.h_nil, Sx.h_cons, Sx.d_le, Sx.IE.den, xv, hx, and_true]; exact h) hg hr
  rw [show (SV.denL ρ cKLb.pat) = [.int .i64 x1] from e] at this
  exact this

set_option maxRecDepth 100000 in
set_option maxHeartbeats 4000000 in
theorem lifted (os : Os) (started : os.Started) (H : Type) (enc : TypeId × Value → H) :
    ReturnsInHanded {} Tryz.checked os 4 .any (Rows.keepLongSpec.pre6 enc Tryz.prog Tryz.f4 Rows.keepLongRow.domain false) (Rows.keepLongSpec.post enc Tryz.prog Tryz.f4 false true false false) := by
  refine returnsInHanded_of_change (C := Tryz.checked) own started (by kernel_rfl) Tryz.func4
    (ChangeSpec.witness6 (enc := enc) (C := Tryz.checked) false ⟨#[], #[.int .i64 0], []⟩ 8 (by kernel_rfl) (by kernel_rfl) (by kernel_rfl) (by kernel_rfl)) ?_
  intro W base args ds gs before hval0 hW hcnd _
  have hval : ∀ (j : Nat) t v, Tryz.f4.params[j]? = some t → args[j]? = some v → Value.okWide Tryz.prog W .any base t v := hval0
  have hW' := hW
  obtain ⟨p, q, hA0, hV, rfl, hfz, hnd⟩ := hW
  obtain ⟨rfl, rfl⟩ := trodVars_none hV
  rw [List.append_nil] at hW'
  have hA : DataW.TrodAll enc Tryz.prog W 0 (fun _ => true) true Tryz.f4.params.toList args.toList ds p := hA0
  have hAk := hA
  rw [Tryz.params4] at hA hval
  obtain ⟨v0, vs0, d0, ds0, p0, q0, hargs, rfl, rfl, h0, r0⟩ := trodAll_cons hA
  obtain ⟨rfl, rfl, rfl⟩ := trodAll_nil r0
  obtain rfl : args = #[v0] := by cases args; simp_all
  obtain ⟨x1, rfl, hx1⟩ := cell_int Tryz.underlying3 (hval 0 3 v0 rfl rfl)
  refine (law x1 hx1 W ).below.mono fun e W' ⟨he, hg⟩ => ?_
  subst he
  exact ⟨_, rfl, law_post (by kernel_rfl) (by kernel_rfl) rfl Tryz.underlying4 rfl hW' hAk rfl hg⟩

theorem proved : Rows.KeepLongSaid :=
  OpenClaim.holds_of_wide 4 Tryz.f4 rfl rfl rfl rfl rfl rfl rfl ⟨rfl, rfl, rfl, rfl, rfl⟩ rfl rfl rfl rfl rfl (by kernel_rfl) Tryz.func4 (by kernel_rfl)
    (of_decide_eq_true (by kernel_rfl)) (by unfold Func.isWrapper; first | (rw [if_pos (by decide +kernel)]; kernel_rfl) | (rw [if_neg (by decide +kernel)]; exact ⟨rfl, rfl⟩))
    (fun os started H enc _ => lifted os started H enc)
end Go.Proofs.YtllojpnpfhaniaaGreat.keepLong

