/- The law LinkMakes returns true whatever it is given. No condition. -/
import Derived.Test.YtjgkaimgocnkmaaKf
set_option linter.unusedSimpArgs false
set_option linter.unusedVariables false
set_option linter.deprecated false
namespace Go.Proofs.Ytjgkaimgocnkmaa.linkMakes
open Go
open Go.ChangeShapes Go.WideShapes Go.ChangeAt Go.RowKit Go.Joins
open Sx (kmin kmax Rho Same Holds SV CK)
open link
noncomputable section
def ks0 : List CK := [.int .i64]
def ks1 : List CK := [.int .i64, .int .i64]
def roms : Sx.Roms := [(0, (1, ks0)), (1, (2, ks1))]
def c0 : Sx.Ctr := ⟨10, [.int .i64 (.var .i64 1), .agg [.int .i64 (.var .i64 2), .rom 0 (.lit 0) (.len (.rom 0)) none, .rom 1 (.lit 0) (.len (.rom 1)) none], .agg [.int .i64 (.var .i64 3), .int .i64 (.var .i64 4), .int .i64 (.var .i64 5), .int .i64 (.var .i64 6)]], roms, [], .bool (.lit true), [], 0, []⟩
end
theorem told0 : Sx.Told link.Φ c0 := Sx.told_auto (cs := link.csM) link.told_allM 8000 (by kernel_rfl) (by kernel_rfl) (by kernel_rfl) (Sx.post_nil rfl) (by kernel_rfl) (by kernel_rfl)
theorem law (x1 x2 x3 x4 x5 x6 : Int) (hx1 : kmin .i64 ≤ x1 ∧ x1 ≤ kmax .i64) (hx2 : kmin .i64 ≤ x2 ∧ x2 ≤ kmax .i64) (hx3 : kmin .i64 ≤ x3 ∧ x3 ≤ kmax .i64) (hx4 : kmin .i64 ≤ x4 ∧ x4 ≤ kmax .i64) (hx5 : kmin .i64 ≤ x5 ∧ x5 ≤ kmax .i64) (hx6 : kmin .i64 ≤ x6 ∧ x6 ≤ kmax .i64) (W : World) (a0 : Option Addr) (l0 k0 : Nat) (hg0 : Sx.RGood W ⟨a0, l0, k0, ks0⟩) (a1 : Option Addr) (l1 k1 : Nat) (hg1 : Sx.RGood W ⟨a1, l1, k1, ks1⟩) :
    Calls Try.prog 10 #[.int .i64 x1, .agg #[.int .i64 x2, .slice a0 l0 k0, .slice a1 l1 k1], .agg #[.int .i64 x3, .int .i64 x4, .int .i64 x5, .int .i64 x6]] W fun e w' => e = .returned (.bool true) ∧ W.grownBy w' none := by
  obtain ⟨rs, hrs⟩ : ∃ rs : Nat → Sx.RSl, rs = Sx.two ⟨a0, l0, k0, ks0⟩ ⟨a1, l1, k1, ks1⟩ := ⟨_, rfl⟩
  have r0 : rs 0 = ⟨a0, l0, k0, ks0⟩ := by rw [hrs]; rfl
  have r1 : rs 1 = ⟨a1, l1, k1, ks1⟩ := by rw [hrs]; rfl
  obtain ⟨ρ, eρ⟩ : ∃ ρ, ρ = Sx.rho [⟨1, .i64, x1⟩, ⟨2, .i64, x2⟩, ⟨3, .i64, x3⟩, ⟨4, .i64, x4⟩, ⟨5, .i64, x5⟩, ⟨6, .i64, x6⟩] [] [] (Sx.envOf link.Φ W rs) := ⟨_, rfl⟩
  have hz : ρ.z = Sx.envOf link.Φ W rs := by rw [eρ]; rfl
  have hlen : ∀ r, (rs r).len ≤ maxLen := by
    intro r
    rw [hrs]
    cases r with
    | zero => exact Nat.le_trans hg0.1 hg0.2.1
    | succ n => exact Nat.le_trans hg1.1 hg1.2.1
  have hg : Sx.Gd link.Φ ρ := by rw [eρ]; exact Sx.rho_gd ⟨hx1, hx2, hx3, hx4, hx5, hx6, trivial⟩ trivial odd_ok hlen
  have hr : Sx.RomsOk roms W ρ := Sx.roms_two (rs := rs) (F := link.Φ) (by rw [r0]; exact ⟨rfl, rfl, by simp [ks0], hg0⟩) (by rw [r1]; exact ⟨rfl, rfl, by simp [ks1], hg1⟩) hz
  have := Sx.law_told told0 rfl (fun p hp => by cases hp) hg hr
  have e : (SV.denL ρ c0.pat).toArray = #[.int .i64 x1, .agg #[.int .i64 x2, .slice a0 l0 k0, .slice a1 l1 k1], .agg #[.int .i64 x3, .int .i64 x4, .int .i64 x5, .int .i64 x6]] := by
    have e1 : SV.denL ρ c0.pat = [.int .i64 x1, .agg #[.int .i64 x2, SV.den ρ (.rom 0 (.lit 0) (.len (.rom 0)) none), SV.den ρ (.rom 1 (.lit 0) (.len (.rom 1)) none)], .agg #[.int .i64 x3, .int .i64 x4, .int .i64 x5, .int .i64 x6]] := by subst eρ; rfl
    rw [e1, Sx.den_rom hz 0, Sx.den_rom hz 1, r0, r1]
  rw [e] at this
  exact this

set_option maxRecDepth 100000 in
set_option maxHeartbeats 4000000 in
theorem lifted (os : Os) (started : os.Started) (H : Type) (enc : TypeId × Value → H) :
    ReturnsInHanded {} Try.checked os 10 .any (Rows.linkMakesSpec.pre6 enc Try.prog Try.f10 Rows.linkMakesRow.domain false) (Rows.linkMakesSpec.post enc Try.prog Try.f10 false true false false) := by
  refine returnsInHanded_of_change (C := Try.checked) own started (by kernel_rfl) Try.func10
    (ChangeSpec.witness6 (enc := enc) (C := Try.checked) false ⟨#[], #[.int .i64 0, .agg #[.int .i64 0, .slice none 0 0, .slice none 0 0], .agg #[.int .i64 0, .int .i64 0, .int .i64 0, .int .i64 0]], []⟩ 8 (by kernel_rfl) (by kernel_rfl) (by kernel_rfl) (by kernel_rfl)) ?_
  intro W base args ds gs before hval0 hW hcnd _
  have hval : ∀ (j : Nat) t v, Try.f10.params[j]? = some t → args[j]? = some v → Value.okWide Try.prog W .any base t v := hval0
  have hW' := hW
  obtain ⟨p, q, hA0, hV, rfl, hfz, hnd⟩ := hW
  obtain ⟨rfl, rfl⟩ := trodVars_none hV
  rw [List.append_nil] at hW'
  have hA : DataW.TrodAll enc Try.prog W 0 (fun _ => true) true Try.f10.params.toList args.toList ds p := hA0
  have hAk := hA
  rw [Try.params10] at hA hval
  obtain ⟨v0, vs0, d0, ds0, p0, q0, hargs, rfl, rfl, h0, r0⟩ := trodAll_cons hA
  obtain ⟨v1, vs1, d1, ds1, p1, q1, rfl, rfl, rfl, h1, r1⟩ := trodAll_cons r0
  obtain ⟨v2, vs2, d2, ds2, p2, q2, rfl, rfl, rfl, h2, r2⟩ := trodAll_cons r1
  obtain ⟨rfl, rfl, rfl⟩ := trodAll_nil r2
  obtain rfl : args = #[v0, v1, v2] := by cases args; simp_all
  obtain ⟨x1, rfl, hx1⟩ := cell_int Try.underlying3 (hval 0 3 v0 rfl rfl)
  obtain ⟨c1, rfl, l1, f1⟩ := open_flat (ts := [2, 65, 66]) (n := 3) Try.underlying68 rfl (by kernel_rfl) (by kernel_rfl) rfl (hval 1 68 v1 rfl rfl)
  obtain ⟨u1_0, u1_1, u1_2, rfl⟩ := list3 l1
  obtain ⟨x2, rfl, hx2⟩ := cell_int Try.underlying2 (f1 0 u1_0 2 rfl rfl)
  obtain ⟨sa0, sl0, sc0, rfl, hg0⟩ := Sx.field_good (j := 1) (ks := ks0) Try.underlying68 rfl Try.underlying65 (by kernel_rfl) (by kernel_rfl) (by kernel_rfl) rfl (Sx.cell_slice Try.underlying65 (f1 1 u1_1 65 rfl rfl)) h1
  obtain ⟨sa1, sl1, sc1, rfl, hg1⟩ := Sx.field_good (j := 2) (ks := ks1) Try.underlying68 rfl Try.underlying66 (by kernel_rfl) (by kernel_rfl) (by kernel_rfl) rfl (Sx.cell_slice Try.underlying66 (f1 2 u1_2 66 rfl rfl)) h1
  obtain ⟨c2, rfl, l2, f2⟩ := open_flat (ts := [2, 2, 2, 2]) (n := 4) Try.underlying71 rfl (by kernel_rfl) (by kernel_rfl) rfl (hval 2 71 v2 rfl rfl)
  obtain ⟨u2_0, u2_1, u2_2, u2_3, rfl⟩ := list4 l2
  obtain ⟨x3, rfl, hx3⟩ := cell_int Try.underlying2 (f2 0 u2_0 2 rfl rfl)
  obtain ⟨x4, rfl, hx4⟩ := cell_int Try.underlying2 (f2 1 u2_1 2 rfl rfl)
  obtain ⟨x5, rfl, hx5⟩ := cell_int Try.underlying2 (f2 2 u2_2 2 rfl rfl)
  obtain ⟨x6, rfl, hx6⟩ := cell_int Try.underlying2 (f2 3 u2_3 2 rfl rfl)
  refine (law x1 x2 x3 x4 x5 x6 hx1 hx2 hx3 hx4 hx5 hx6 W sa0 sl0 sc0 hg0 sa1 sl1 sc1 hg1).below.mono fun e W' ⟨he, hg⟩ => ?_
  subst he
  exact ⟨_, rfl, law_post (by kernel_rfl) (by kernel_rfl) rfl Try.underlying4 rfl hW' hAk rfl hg⟩

theorem proved : Rows.LinkMakesSaid :=
  OpenClaim.holds_of_wide 10 Try.f10 rfl rfl rfl rfl rfl rfl rfl ⟨rfl, rfl, rfl, rfl, rfl⟩ rfl rfl rfl rfl rfl (by kernel_rfl) Try.func10 (by kernel_rfl)
    (of_decide_eq_true (by kernel_rfl)) (by unfold Func.isWrapper; first | (rw [if_pos (by decide +kernel)]; kernel_rfl) | (rw [if_neg (by decide +kernel)]; exact ⟨rfl, rfl⟩))
    (fun os started H enc _ => lifted os started H enc)
end Go.Proofs.Ytjgkaimgocnkmaa.linkMakes
