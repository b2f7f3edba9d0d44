/- The law SealFrames returns true whatever it is given. No condition. -/
import Derived.Test.YthbnjmmkjpoahaaQp
set_option linter.unusedSimpArgs false
set_option linter.unusedVariables false
set_option linter.deprecated false
namespace Go.Proofs.Ythbnjmmkjpoahaa.sealFrames
open Go
open Go.ChangeShapes Go.WideShapes Go.ChangeAt Go.RowKit Go.Joins
open Sx (kmin kmax Rho Same Holds SV CK)
open oct
noncomputable section
def ks0 : List CK := [.int .u8]
def ks1 : List CK := [.int .u8]
def roms : Sx.Roms := [(0, (1, ks0)), (1, (1, ks1))]
def c0 : Sx.Ctr := oct.cFr
def c1 : Sx.Ctr := oct.cFr1
def c2 : Sx.Ctr := oct.cFr0
def c3 : Sx.Ctr := oct.cFr2
end
theorem told0 : Sx.Told oct.Φ c0 := oct.told_fr
theorem told1 : Sx.Told oct.Φ c1 := oct.told_fry
theorem told2 : Sx.Told oct.Φ c2 := oct.told_frz
theorem told3 : Sx.Told oct.Φ c3 := oct.told_frx
theorem law    (W : World) (a0 : Option Addr) (l0 k0 : Nat) (hg0 : Sx.RGood W ⟨a0, l0, k0, ks0⟩) (a1 : Option Addr) (l1 k1 : Nat) (hg1 : Sx.RGood W ⟨a1, l1, k1, ks1⟩) :
    Calls Try.prog 4 #[.slice a0 l0 k0, .slice a1 l1 k1] W fun e w' => e = .returned (.bool true) ∧ W.grownBy w' none := by
  obtain ⟨rs, hrs⟩ : ∃ rs : Nat → Sx.RSl, rs = fun r => if r = 0 then ⟨a0, l0, k0, ks0⟩ else ⟨a1, l1, k1, ks1⟩ := ⟨_, rfl⟩
  obtain ⟨ρ, eρ⟩ : ∃ ρ, ρ = Sx.rho [] [] [] (Sx.envOf oct.Φ W rs) := ⟨_, rfl⟩
  have hz : ρ.z = Sx.envOf oct.Φ W rs := by rw [eρ]; rfl
  have hg : Sx.Gd oct.Φ ρ := by rw [eρ]; exact Sx.rho_gd trivial trivial odd_ok (fun r => by rw [hrs]; exact by dsimp only; split; exact Nat.le_trans hg0.1 hg0.2.1; exact Nat.le_trans hg1.1 hg1.2.1)
  have hr : Sx.RomsOk roms W ρ := Sx.roms_two (rs := rs) (F := oct.Φ) (by rw [hrs]; exact ⟨rfl, rfl, by simp [ks0], hg0⟩) (by rw [hrs]; exact ⟨rfl, rfl, by simp [ks1], hg1⟩) hz (Sx.glob_nil rfl)
  by_cases z0 : l0 = 0
  · by_cases z1 : l1 = 0
    · have := Sx.law_told told3 rfl (fun p hp => by cases hp) hg hr
      have e : (SV.denL ρ c3.pat).toArray = #[.slice a0 l0 k0, .slice a1 l1 k1] := by
        have e1 : SV.denL ρ c3.pat = [SV.den ρ (.rom 0 (.lit 0) (.lit 0) none), SV.den ρ (.rom 1 (.lit 0) (.lit 0) none)] := by subst eρ; rfl
        rw [e1, Sx.den_rom0 hz 0 (by rw [hrs]; exact z0), hrs, Sx.den_rom0 hz 1 (by rw [hrs]; exact z1), hrs]
        rfl
      rw [e] at this
      exact this
    · have := Sx.law_told told2 rfl (by show Holds ρ [.le (.lit 1) (.len (.rom 1))]; rw [Sx.h_cons, Sx.d_le, Sx.len_rom hz, Sx.h_nil, hrs]; exact ⟨by show (1 : Int) ≤ ((l1 : Nat) : Int); omega, trivial⟩) hg hr
      have e : (SV.denL ρ c2.pat).toArray = #[.slice a0 l0 k0, .slice a1 l1 k1] := by
        have e1 : SV.denL ρ c2.pat = [SV.den ρ (.rom 0 (.lit 0) (.lit 0) none), SV.den ρ (.rom 1 (.lit 0) (.len (.rom 1)) none)] := by subst eρ; rfl
        rw [e1, Sx.den_rom0 hz 0 (by rw [hrs]; exact z0), hrs, Sx.den_rom hz 1, hrs]
        rfl
      rw [e] at this
      exact this
  · by_cases z1 : l1 = 0
    · have := Sx.law_told told1 rfl (by show Holds ρ [.le (.lit 1) (.len (.rom 0))]; rw [Sx.h_cons, Sx.d_le, Sx.len_rom hz, Sx.h_nil, hrs]; exact ⟨by show (1 : Int) ≤ ((l0 : Nat) : Int); omega, trivial⟩) hg hr
      have e : (SV.denL ρ c1.pat).toArray = #[.slice a0 l0 k0, .slice a1 l1 k1] := by
        have e1 : SV.denL ρ c1.pat = [SV.den ρ (.rom 0 (.lit 0) (.len (.rom 0)) none), SV.den ρ (.rom 1 (.lit 0) (.lit 0) none)] := by subst eρ; rfl
        rw [e1, Sx.den_rom hz 0, hrs, Sx.den_rom0 hz 1 (by rw [hrs]; exact z1), hrs]
        rfl
      rw [e] at this
      exact this
    · have := Sx.law_told told0 rfl (by show Holds ρ [.le (.lit 1) (.len (.rom 0)), .le (.lit 1) (.len (.rom 1))]; rw [Sx.h_cons, Sx.h_cons, Sx.d_le, Sx.d_le, Sx.len_rom hz, Sx.len_rom hz, Sx.h_nil, hrs]; exact ⟨by show (1 : Int) ≤ ((l0 : Nat) : Int); omega, by show (1 : Int) ≤ ((l1 : Nat) : Int); omega, trivial⟩) hg hr
      have e : (SV.denL ρ c0.pat).toArray = #[.slice a0 l0 k0, .slice a1 l1 k1] := by
        have e1 : SV.denL ρ c0.pat = [SV.den ρ (.rom 0 (.lit 0) (.len (.rom 0)) none), SV.den ρ (.rom 1 (.lit 0) (.len (.rom 1)) none)] := by subst eρ; rfl
        rw [e1, Sx.den_rom hz 0, hrs, Sx.den_rom hz 1, hrs]
        rfl
      rw [e] at this
      exact this

set_option maxRecDepth 100000 in
set_option maxHeartbeats 4000000 in
theorem lifted (os : Os) (started : os.Started) (H : Type) (enc : TypeId × Value → H) :
    ReturnsInHanded {} Try.checked os 4 .any (Rows.sealFramesSpec.pre6 enc Try.prog Try.f4 Rows.sealFramesRow.domain false) (Rows.sealFramesSpec.post enc Try.prog Try.f4 false true false false) := by
  refine returnsInHanded_of_change (C := Try.checked) own started (by kernel_rfl) Try.func4
    (ChangeSpec.witness6 (enc := enc) (C := Try.checked) false ⟨#[], #[.slice none 0 0, .slice none 0 0], []⟩ 8 (by kernel_rfl) (by kernel_rfl) (by kernel_rfl) (by kernel_rfl)) ?_
  intro W base args ds gs before hval0 hW hcnd _
  have hval : ∀ (j : Nat) t v, Try.f4.params[j]? = some t → args[j]? = some v → Value.okWide Try.prog W .any base t v := hval0
  have hW' := hW
  obtain ⟨p, q, hA0, hV, rfl, hfz, hnd⟩ := hW
  obtain ⟨rfl, rfl⟩ := trodVars_none hV
  rw [List.append_nil] at hW'
  have hA : DataW.TrodAll enc Try.prog W 0 (fun _ => true) true Try.f4.params.toList args.toList ds p := hA0
  have hAk := hA
  rw [Try.params4] at hA hval
  obtain ⟨v0, vs0, d0, ds0, p0, q0, hargs, rfl, rfl, h0, r0⟩ := trodAll_cons hA
  obtain ⟨v1, vs1, d1, ds1, p1, q1, rfl, rfl, rfl, h1, r1⟩ := trodAll_cons r0
  obtain ⟨rfl, rfl, rfl⟩ := trodAll_nil r1
  obtain rfl : args = #[v0, v1] := by cases args; simp_all
  obtain ⟨sa0, sl0, sc0, rfl, hg0⟩ := Sx.slice_good (ks := ks0) Try.underlying22 (by kernel_rfl) (by kernel_rfl) (Sx.cell_slice Try.underlying22 (hval 0 22 v0 rfl rfl)) h0
  obtain ⟨sa1, sl1, sc1, rfl, hg1⟩ := Sx.slice_good (ks := ks1) Try.underlying22 (by kernel_rfl) (by kernel_rfl) (Sx.cell_slice Try.underlying22 (hval 1 22 v1 rfl rfl)) h1
  refine (law  W sa0 sl0 sc0 hg0 sa1 sl1 sc1 hg1).below.mono fun e W' ⟨he, hg⟩ => ?_
  subst he
  exact ⟨_, rfl, law_post (by kernel_rfl) (by kernel_rfl) rfl Try.underlying4 rfl hW' hAk rfl hg⟩

theorem proved : Rows.SealFramesSaid :=
  OpenClaim.holds_of_wide 4 Try.f4 rfl rfl rfl rfl rfl rfl rfl ⟨rfl, rfl, rfl, rfl, rfl⟩ rfl rfl rfl rfl rfl (by kernel_rfl) Try.func4 (by kernel_rfl)
    (of_decide_eq_true (by kernel_rfl)) (by unfold Func.isWrapper; first | (rw [if_pos (by decide +kernel)]; kernel_rfl) | (rw [if_neg (by decide +kernel)]; exact ⟨rfl, rfl⟩))
    (fun os started H enc _ => lifted os started H enc)
end Go.Proofs.Ythbnjmmkjpoahaa.sealFrames

