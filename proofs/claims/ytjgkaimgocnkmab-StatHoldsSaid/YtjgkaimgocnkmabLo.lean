/- The law StatHolds returns true whatever it is given. No condition. -/
import Derived.Test.YtjgkaimgocnkmabGd
set_option linter.unusedSimpArgs false
set_option linter.unusedVariables false
set_option linter.deprecated false
namespace Go.Proofs.Ytjgkaimgocnkmab.statHolds
open Go
open Go.ChangeShapes Go.WideShapes Go.ChangeAt Go.RowKit Go.Joins
open Sx (kmin kmax Rho Same Holds SV CK)
open stat
noncomputable section
def ks0 : List CK := [.int .i64, .int .i64, .bool, .int .i64, .int .i64]
def ks1 : List CK := [.int .i64]
def roms : Sx.Roms := [(0, (5, ks0)), (1, (1, ks1))]
def c0 : Sx.Ctr := stat.cHolds
end
theorem told0 : Sx.Told stat.Φ c0 := stat.told_holds
theorem law (x1 x2 x3 : Int)  (hx1 : kmin .i64 ≤ x1 ∧ x1 ≤ kmax .i64) (hx2 : kmin .i64 ≤ x2 ∧ x2 ≤ kmax .i64) (hx3 : kmin .i64 ≤ x3 ∧ x3 ≤ kmax .i64) (W : World) (a0 : Option Addr) (l0 k0 : Nat) (hg0 : Sx.RGood W ⟨a0, l0, k0, ks0⟩) (a1 : Option Addr) (l1 k1 : Nat) (hg1 : Sx.RGood W ⟨a1, l1, k1, ks1⟩) :
    Calls Try.prog 7 #[.agg #[.int .i64 x1, .int .i64 x2, .int .i64 x3], .slice a0 l0 k0, .slice a1 l1 k1] W fun e w' => e = .returned (.bool true) ∧ W.grownBy w' none := by
  obtain ⟨rs, hrs⟩ : ∃ rs : Nat → Sx.RSl, rs = fun r => if r = 0 then ⟨a0, l0, k0, ks0⟩ else ⟨a1, l1, k1, ks1⟩ := ⟨_, rfl⟩
  obtain ⟨ρ, eρ⟩ : ∃ ρ, ρ = Sx.rho [⟨1, .i64, x1⟩, ⟨2, .i64, x2⟩, ⟨3, .i64, x3⟩] [] [] (Sx.envOf stat.Φ W rs) := ⟨_, rfl⟩
  have hz : ρ.z = Sx.envOf stat.Φ W rs := by rw [eρ]; rfl
  have hg : Sx.Gd stat.Φ ρ := by rw [eρ]; exact Sx.rho_gd ⟨hx1, hx2, hx3, trivial⟩ trivial odd_ok (fun r => by rw [hrs]; exact by dsimp only; split; exact Nat.le_trans hg0.1 hg0.2.1; exact Nat.le_trans hg1.1 hg1.2.1)
  have hr : Sx.RomsOk roms W ρ := Sx.roms_two (rs := rs) (F := stat.Φ) (by rw [hrs]; exact ⟨rfl, rfl, by simp [ks0], hg0⟩) (by rw [hrs]; exact ⟨rfl, rfl, by simp [ks1], hg1⟩) hz (Sx.glob_nil rfl)
  have := Sx.law_told told0 rfl (fun p hp => by cases hp) hg hr
  have e : (SV.denL ρ c0.pat).toArray = #[.agg #[.int .i64 x1, .int .i64 x2, .int .i64 x3], .slice a0 l0 k0, .slice a1 l1 k1] := by
    have e1 : SV.denL ρ c0.pat = [.agg #[.int .i64 x1, .int .i64 x2, .int .i64 x3], SV.den ρ (.rom 0 (.lit 0) (.len (.rom 0)) none), SV.den ρ (.rom 1 (.lit 0) (.len (.rom 1)) none)] := by subst eρ; rfl
    rw [e1, Sx.den_rom hz 0, Sx.den_rom hz 1, hrs]
    rfl
  rw [e] at this
  exact this

set_option maxRecDepth 100000 in
set_option maxHeartbeats 4000000 in
theorem lifted (os : Os) (started : os.Started) (H : Type) (enc : TypeId × Value → H) :
    ReturnsInHanded {} Try.checked os 7 .any (Rows.statHoldsSpec.pre6 enc Try.prog Try.f7 Rows.statHoldsRow.domain false) (Rows.statHoldsSpec.post enc Try.prog Try.f7 false true false false) := by
  refine returnsInHanded_of_change (C := Try.checked) own started (by kernel_rfl) Try.func7
    (ChangeSpec.witness6 (enc := enc) (C := Try.checked) false ⟨#[], #[.agg #[.int .i64 0, .int .i64 0, .int .i64 0], .slice none 0 0, .slice none 0 0], []⟩ 8 (by kernel_rfl) (by kernel_rfl) (by kernel_rfl) (by kernel_rfl)) ?_
  intro W base args ds gs before hval0 hW hcnd _
  have hval : ∀ (j : Nat) t v, Try.f7.params[j]? = some t → args[j]? = some v → Value.okWide Try.prog W .any base t v := hval0
  have hW' := hW
  obtain ⟨p, q, hA0, hV, rfl, hfz, hnd⟩ := hW
  obtain ⟨rfl, rfl⟩ := trodVars_none hV
  rw [List.append_nil] at hW'
  have hA : DataW.TrodAll enc Try.prog W 0 (fun _ => true) true Try.f7.params.toList args.toList ds p := hA0
  have hAk := hA
  rw [Try.params7] at hA hval
  obtain ⟨v0, vs0, d0, ds0, p0, q0, hargs, rfl, rfl, h0, r0⟩ := trodAll_cons hA
  obtain ⟨v1, vs1, d1, ds1, p1, q1, rfl, rfl, rfl, h1, r1⟩ := trodAll_cons r0
  obtain ⟨v2, vs2, d2, ds2, p2, q2, rfl, rfl, rfl, h2, r2⟩ := trodAll_cons r1
  obtain ⟨rfl, rfl, rfl⟩ := trodAll_nil r2
  obtain rfl : args = #[v0, v1, v2] := by cases args; simp_all
  obtain ⟨c0, rfl, l0, f0⟩ := open_flat (ts := [3, 3, 3]) (n := 3) Try.underlying23 rfl (by kernel_rfl) (by kernel_rfl) rfl (hval 0 23 v0 rfl rfl)
  obtain ⟨u0_0, u0_1, u0_2, rfl⟩ := list3 l0
  obtain ⟨x1, rfl, hx1⟩ := cell_int Try.underlying3 (f0 0 u0_0 3 rfl rfl)
  obtain ⟨x2, rfl, hx2⟩ := cell_int Try.underlying3 (f0 1 u0_1 3 rfl rfl)
  obtain ⟨x3, rfl, hx3⟩ := cell_int Try.underlying3 (f0 2 u0_2 3 rfl rfl)
  obtain ⟨sa0, sl0, sc0, rfl, hg0⟩ := Sx.slice_good (ks := ks0) Try.underlying58 (by kernel_rfl) (by kernel_rfl) (Sx.cell_slice Try.underlying58 (hval 1 58 v1 rfl rfl)) h1
  obtain ⟨sa1, sl1, sc1, rfl, hg1⟩ := Sx.slice_good (ks := ks1) Try.underlying53 (by kernel_rfl) (by kernel_rfl) (Sx.cell_slice Try.underlying53 (hval 2 53 v2 rfl rfl)) h2
  refine (law x1 x2 x3 hx1 hx2 hx3 W sa0 sl0 sc0 hg0 sa1 sl1 sc1 hg1).below.mono fun e W' ⟨he, hg⟩ => ?_
  subst he
  exact ⟨_, rfl, law_post (by kernel_rfl) (by kernel_rfl) rfl Try.underlying4 rfl hW' hAk rfl hg⟩

theorem proved : Rows.StatHoldsSaid :=
  OpenClaim.holds_of_wide 7 Try.f7 rfl rfl rfl rfl rfl rfl rfl ⟨rfl, rfl, rfl, rfl, rfl⟩ rfl rfl rfl rfl rfl (by kernel_rfl) Try.func7 (by kernel_rfl)
    (of_decide_eq_true (by kernel_rfl)) (by unfold Func.isWrapper; first | (rw [if_pos (by decide +kernel)]; kernel_rfl) | (rw [if_neg (by decide +kernel)]; exact ⟨rfl, rfl⟩))
    (fun os started H enc _ => lifted os started H enc)
end Go.Proofs.Ytjgkaimgocnkmab.statHolds

