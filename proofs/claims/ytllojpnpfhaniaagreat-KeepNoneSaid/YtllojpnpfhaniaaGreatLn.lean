/- The law KeepNone returns true whatever it is given. No condition. -/
import Derived.Test.YtllojpnpfhaniaaGreatKz
set_option linter.unusedSimpArgs false
set_option linter.unusedVariables false
set_option linter.deprecated false
namespace Go.Proofs.YtllojpnpfhaniaaGreat.keepNone
open Go
open Go.ChangeShapes Go.WideShapes Go.ChangeAt Go.RowKit Go.Joins
open Sx (kmin kmax Rho Same Holds SV CK)
open oct
noncomputable section
def ks0 : List CK := [.int .u8]
def roms : Sx.Roms := [(0, (1, ks0))]
def c0 : Sx.Ctr := oct.cKNone
def c1 : Sx.Ctr := oct.cKNone0
end
theorem told0 : Sx.Told oct.Φ c0 := oct.told_none
theorem told1 : Sx.Told oct.Φ c1 := oct.told_nonez
theorem law (x1 : Int)  (hx1 : kmin .i64 ≤ x1 ∧ x1 ≤ kmax .i64) (W : World) (a0 : Option Addr) (l0 k0 : Nat) (hg0 : Sx.RGood W ⟨a0, l0, k0, ks0⟩) :
    Calls Tryz.prog 3 #[.int .i64 x1, .slice a0 l0 k0] W fun e w' => e = .returned (.bool true) ∧ W.grownBy w' none := by
  obtain ⟨rs, hrs⟩ : ∃ rs : Nat → Sx.RSl, rs = fun _ => ⟨a0, l0, k0, ks0⟩ := ⟨_, rfl⟩
  obtain ⟨ρ, eρ⟩ : ∃ ρ, ρ = Sx.rho [⟨1, .i64, x1⟩] [] [] (Sx.envOf oct.Φ W rs) := ⟨_, rfl⟩
  have hz : ρ.z = Sx.envOf oct.Φ W rs := by rw [eρ]; rfl
  have hg : Sx.Gd oct.Φ ρ := by rw [eρ]; exact Sx.rho_gd ⟨hx1, trivial⟩ trivial odd_ok (fun r => by rw [hrs]; exact Nat.le_trans hg0.1 hg0.2.1)
  have hr : Sx.RomsOk roms W ρ := Sx.roms_one (rs := rs) (F := oct.Φ) (by rw [hrs]; exact ⟨rfl, rfl, by simp [ks0], hg0⟩) hz (Sx.glob_nil rfl)
  by_cases z0 : l0 = 0
  · have := Sx.law_told told1 rfl (fun p hp => by cases hp) hg hr
    have e : (SV.denL ρ c1.pat).toArray = #[.int .i64 x1, .slice a0 l0 k0] := by
      have e1 : SV.denL ρ c1.pat = [.int .i64 x1, SV.den ρ (.rom 0 (.lit 0) (.lit 0) none)] := by subst eρ; rfl
      rw [e1, Sx.den_rom0 hz 0 (by rw [hrs]; exact z0), hrs]
    rw [e] at this
    exact this
  · have := Sx.law_told told0 rfl (by show Holds ρ [.le (.lit 1) (.len (.rom 0))]; rw [Sx.h_cons, Sx.d_le, Sx.len_rom hz, hrs]; exact ⟨by show (1 : Int) ≤ ((l0 : Nat) : Int); omega, by rw [Sx.h_nil]; trivial⟩) hg hr
    have e : (SV.denL ρ c0.pat).toArray = #[.int .i64 x1, .slice a0 l0 k0] := by
      have e1 : SV.denL ρ c0.pat = [.int .i64 x1, SV.den ρ (.rom 0 (.lit 0) (.len (.rom 0)) none)] := by subst eρ; rfl
      rw [e1, Sx.den_rom hz 0, hrs]
    rw [e] at this
    exact this

set_option maxRecDepth 100000 in
set_option maxHeartbeats 4000000 in
theorem lifted (os : Os) (started : os.Started) (H : Type) (enc : TypeId × Value → H) :
    ReturnsInHanded {} Tryz.checked os 3 .any (Rows.keepNoneSpec.pre6 enc Tryz.prog Tryz.f3 Rows.keepNoneRow.domain false) (Rows.keepNoneSpec.post enc Tryz.prog Tryz.f3 false true false false) := by
  refine returnsInHanded_of_change (C := Tryz.checked) own started (by kernel_rfl) Tryz.func3
    (ChangeSpec.witness6 (enc := enc) (C := Tryz.checked) false ⟨#[], #[.int .i64 0, .slice none 0 0], []⟩ 8 (by kernel_rfl) (by kernel_rfl) (by kernel_rfl) (by kernel_rfl)) ?_
  intro W base args ds gs before hval0 hW hcnd _
  have hval : ∀ (j : Nat) t v, Tryz.f3.params[j]? = some t → args[j]? = some v → Value.okWide Tryz.prog W .any base t v := hval0
  have hW' := hW
  obtain ⟨p, q, hA0, hV, rfl, hfz, hnd⟩ := hW
  obtain ⟨rfl, rfl⟩ := trodVars_none hV
  rw [List.append_nil] at hW'
  have hA : DataW.TrodAll enc Tryz.prog W 0 (fun _ => true) true Tryz.f3.params.toList args.toList ds p := hA0
  have hAk := hA
  rw [Tryz.params3] at hA hval
  obtain ⟨v0, vs0, d0, ds0, p0, q0, hargs, rfl, rfl, h0, r0⟩ := trodAll_cons hA
  obtain ⟨v1, vs1, d1, ds1, p1, q1, rfl, rfl, rfl, h1, r1⟩ := trodAll_cons r0
  obtain ⟨rfl, rfl, rfl⟩ := trodAll_nil r1
  obtain rfl : args = #[v0, v1] := by cases args; simp_all
  obtain ⟨x1, rfl, hx1⟩ := cell_int Tryz.underlying3 (hval 0 3 v0 rfl rfl)
  obtain ⟨sa0, sl0, sc0, rfl, hg0⟩ := Sx.slice_good (ks := ks0) Tryz.underlying22 (by kernel_rfl) (by kernel_rfl) (Sx.cell_slice Tryz.underlying22 (hval 1 22 v1 rfl rfl)) h1
  refine (law x1 hx1 W sa0 sl0 sc0 hg0).below.mono fun e W' ⟨he, hg⟩ => ?_
  subst he
  exact ⟨_, rfl, law_post (by kernel_rfl) (by kernel_rfl) rfl Tryz.underlying4 rfl hW' hAk rfl hg⟩

theorem proved : Rows.KeepNoneSaid :=
  OpenClaim.holds_of_wide 3 Tryz.f3 rfl rfl rfl rfl rfl rfl rfl ⟨rfl, rfl, rfl, rfl, rfl⟩ rfl rfl rfl rfl rfl (by kernel_rfl) Tryz.func3 (by kernel_rfl)
    (of_decide_eq_true (by kernel_rfl)) (by unfold Func.isWrapper; first | (rw [if_pos (by decide +kernel)]; kernel_rfl) | (rw [if_neg (by decide +kernel)]; exact ⟨rfl, rfl⟩))
    (fun os started H enc _ => lifted os started H enc)
end Go.Proofs.YtllojpnpfhaniaaGreat.keepNone

