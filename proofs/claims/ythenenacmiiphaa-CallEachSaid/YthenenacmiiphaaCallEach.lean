/- The law CallEach returns true whatever it is given. No condition. -/
import Derived.Test.YthenenacmiiphaaVc
set_option linter.unusedSimpArgs false
set_option linter.unusedVariables false
set_option linter.deprecated false
namespace Go.Proofs.Ythenenacmiiphaa.callEach
open Go
open Go.ChangeShapes Go.WideShapes Go.ChangeAt Go.RowKit Go.Joins
open Sx (kmin kmax Rho Same Holds SV CK)
open oct
noncomputable section
def ks0 : List CK := [.int .u8]
def roms : Sx.Roms := [(0, (1, ks0))]
def c0 : Sx.Ctr := oct.cLEach
def c1 : Sx.Ctr := oct.cLEach0
end
theorem told0 : Sx.Told oct.Φ c0 := oct.told_leach
theorem told1 : Sx.Told oct.Φ c1 := oct.told_leachz
theorem law (x1 x2 x3 x4 : Int)  (hx1 : kmin .i64 ≤ x1 ∧ x1 ≤ kmax .i64) (hx2 : kmin .i64 ≤ x2 ∧ x2 ≤ kmax .i64) (hx3 : kmin .i64 ≤ x3 ∧ x3 ≤ kmax .i64) (hx4 : kmin .i64 ≤ x4 ∧ x4 ≤ kmax .i64) (W : World) (a0 : Option Addr) (l0 k0 : Nat) (hg0 : Sx.RGood W ⟨a0, l0, k0, ks0⟩) :
  Calls Try.prog 10 #[.agg #[.int .i64 x1, .int .i64 x2, .int .i64 x3], .slice a0 l0 k0, .int .i64 x4] W fun e w' => e = .returned (.bool true) ∧ W.grownBy w' none := by
 obtain ⟨rs, hrs⟩ : ∃ rs : Nat → Sx.RSl, rs = fun _ => ⟨a0, l0, k0, ks0⟩ := ⟨_, rfl⟩
 obtain ⟨ρ, eρ⟩ : ∃ ρ, ρ = Sx.rho [⟨1, .i64, x1⟩, ⟨2, .i64, x2⟩, ⟨3, .i64, x3⟩, ⟨4, .i64, x4⟩] [] [] (Sx.envOf oct.Φ W rs) := ⟨_, rfl⟩
 have hz : ρ.z = Sx.envOf oct.Φ W rs := by rw [eρ]; rfl
 have hg : Sx.Gd oct.Φ ρ := by rw [eρ]; exact Sx.rho_gd ⟨hx1, hx2, hx3, hx4, trivial⟩ trivial odd_ok (fun r => by rw [hrs]; exact Nat.le_trans hg0.1 hg0.2.1)
 have hr : Sx.RomsOk roms W ρ := Sx.roms_one (rs := rs) (F := oct.Φ) (by rw [hrs]; exact ⟨rfl, rfl, by simp [ks0], hg0⟩) hz (Sx.glob_nil rfl)
 by_cases z0 : l0 = 0
 ·have := Sx.law_told told1 rfl (fun p hp => by cases hp) hg hr
  have e : (SV.denL ρ c1.pat).toArray = #[.agg #[.int .i64 x1, .int .i64 x2, .int .i64 x3], .slice a0 l0 k0, .int .i64 x4] := by
   have e1 : SV.denL ρ c1.pat = [.agg #[.int .i64 x1, .int .i64 x2, .int .i64 x3], SV.den ρ (.rom 0 (.lit 0) (.lit 0) none), .int .i64 x4] := by subst eρ; rfl
   rw [e1, Sx.den_rom0 hz 0 (by rw [hrs]; exact z0), hrs]
  rw [e] at this
  exact this
 ·have := Sx.law_told told0 rfl (by show Holds ρ [.le (.lit 1) (.len (.rom 0))]; rw [Sx.h_cons, Sx.d_le, Sx.len_rom hz, hrs]; exact ⟨by show (1 : Int) ≤ ((l0 : Nat) : Int); omega, by rw [Sx.h_nil]; trivial⟩) hg hr
  have e : (SV.denL ρ c0.pat).toArray = #[.agg #[.int .i64 x1, .int .i64 x2, .int .i64 x3], .slice a0 l0 k0, .int .i64 x4] := by
   have e1 : SV.denL ρ c0.pat = [.agg #[.int .i64 x1, .int .i64 x2, .int .i64 x3], SV.den ρ (.rom 0 (.lit 0) (.len (.rom 0)) none), .int .i64 x4] := by subst eρ; rfl
   rw [e1, Sx.den_rom hz 0, hrs]
  rw [e] at this
  exact this

set_option maxRecDepth 100000 in
set_option maxHeartbeats 4000000 in
theorem lifted (os : Os) (started : os.Started) (H : Type) (enc : TypeId × Value → H) :
    ReturnsInHanded {} Try.checked os 10 .any (Rows.callEachSpec.pre6 enc Try.prog Try.f10 Rows.callEachRow.domain false) (Rows.callEachSpec.post enc Try.prog Try.f10 false true false false) := by
  refine returnsInHanded_of_change (C := Try.checked) own started (by kernel_rfl) Try.func10
    (ChangeSpec.witness6 (enc := enc) (C := Try.checked) false ⟨#[], #[.agg #[.int .i64 0, .int .i64 0, .int .i64 0], .slice none 0 0, .int .i64 0], []⟩ 8 (by kernel_rfl) (by kernel_rfl) (by kernel_rfl) (by kernel_rfl)) ?_
  intro W base args ds gs before hval0 hW hcnd _
  have hval : ∀ (j : Nat) t v, Try.f10.params[j]? = some t → args[j]? = some v → Value.okWide Try.prog W .any base t v := hval0
  have hW' := hW
  obtain ⟨p, q, hA0, hV, rfl, hfz, hnd⟩ := hW
  obtain ⟨rfl, rfl⟩ := trodVars_none hV
  rw [List.append_nil] at hW'
  have hA : DataW.TrodAll enc Try.prog W 0 (fun _ => true) true Try.f10.params.toList args.toList ds p := hA0
  have hAk := hA
  rw [Try.params10] at hA hval
  obtain ⟨v0, vs0, d0, ds0, p0, q0, hargs, rfl, rfl, h0, r0⟩ := trodAll_cons hA
  obtain ⟨v1, vs1, d1, ds1, p1, q1, rfl, rfl, rfl, h1, r1⟩ := trodAll_cons r0
  obtain ⟨v2, vs2, d2, ds2, p2, q2, rfl, rfl, rfl, h2, r2⟩ := trodAll_cons r1
  obtain ⟨rfl, rfl, rfl⟩ := trodAll_nil r2
  obtain rfl : args = #[v0, v1, v2] := by cases args; simp_all
  obtain ⟨c0, rfl, l0, f0⟩ := open_flat (ts := [3, 3, 3]) (n := 3) Try.underlying23 rfl (by kernel_rfl) (by kernel_rfl) rfl (hval 0 23 v0 rfl rfl)
  obtain ⟨u0_0, u0_1, u0_2, rfl⟩ := list3 l0
  obtain ⟨x1, rfl, hx1⟩ := cell_int Try.underlying3 (f0 0 u0_0 3 rfl rfl)
  obtain ⟨x2, rfl, hx2⟩ := cell_int Try.underlying3 (f0 1 u0_1 3 rfl rfl)
  obtain ⟨x3, rfl, hx3⟩ := cell_int Try.underlying3 (f0 2 u0_2 3 rfl rfl)
  obtain ⟨sa0, sl0, sc0, rfl, hg0⟩ := Sx.slice_good (ks := ks0) Try.underlying72 (by kernel_rfl) (by kernel_rfl) (Sx.cell_slice Try.underlying72 (hval 1 72 v1 rfl rfl)) h1
  obtain ⟨x4, rfl, hx4⟩ := cell_int Try.underlying3 (hval 2 3 v2 rfl rfl)
  refine (law x1 x2 x3 x4 hx1 hx2 hx3 hx4 W sa0 sl0 sc0 hg0).below.mono fun e W' ⟨he, hg⟩ => ?_
  subst he
  exact ⟨_, rfl, law_post (by kernel_rfl) (by kernel_rfl) rfl Try.underlying4 rfl hW' hAk rfl hg⟩

theorem proved : Rows.CallEachSaid :=
  OpenClaim.holds_of_wide 10 Try.f10 rfl rfl rfl rfl rfl rfl rfl ⟨rfl, rfl, rfl, rfl, rfl⟩ rfl rfl rfl rfl rfl (by kernel_rfl) Try.func10 (by kernel_rfl)
    (of_decide_eq_true (by kernel_rfl)) (by unfold Func.isWrapper; first | (rw [if_pos (by decide +kernel)]; kernel_rfl) | (rw [if_neg (by decide +kernel)]; exact ⟨rfl, rfl⟩))
    (fun os started H enc _ => lifted os started H enc)
end Go.Proofs.Ythenenacmiiphaa.callEach

