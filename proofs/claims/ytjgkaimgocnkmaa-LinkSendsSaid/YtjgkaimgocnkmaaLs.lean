/- The law LinkSends returns true whatever it is given. No condition. -/
import Derived.Test.YtjgkaimgocnkmaaKe
set_option linter.unusedSimpArgs false
set_option linter.unusedVariables false
set_option linter.deprecated false
namespace Go.Proofs.Ytjgkaimgocnkmaa.linkSends
open Go
open Go.ChangeShapes Go.WideShapes Go.ChangeAt Go.RowKit Go.Joins
open Sx (kmin kmax Rho Same Holds SV CK)
open link
noncomputable section
def ks0 : List CK := [.int .i64]
def ks1 : List CK := [.int .i64, .int .i64]
def roms : Sx.Roms := [(0, (1, ks0)), (1, (2, ks1))]
def c0 : Sx.Ctr := ⟨11, [.agg [.int .i64 (.var .i64 1), .rom 0 (.lit 0) (.len (.rom 0)) none, .rom 1 (.lit 0) (.len (.rom 1)) none], .int .i64 (.var .i64 2)], roms, [.le (.lit 1) (.len (.rom 0)), .le (.lit 1) (.len (.rom 1)), .leq (.cat (.cat (.take (.rom 0) (.lit 0)) (.rep (.int .i64 (.lit 0) .nil) (.len (.rom 0)))) (.drop (.rom 0) (.len (.rom 0)))) (.rep (.int .i64 (.lit 0) .nil) (.len (.rom 0)))], .bool (.lit true), [], 0, []⟩
def c1 : Sx.Ctr := ⟨11, [.agg [.int .i64 (.var .i64 1), .rom 0 (.lit 0) (.lit 0) none, .rom 1 (.lit 0) (.lit 0) none], .int .i64 (.var .i64 2)], roms, [.leq (.take (.rom 0) (.lit 0)) .nil, .leq (.take (.rom 1) (.lit 0)) .nil, .leq (.cat (.cat (.take (.rom 0) (.lit 0)) (.rep (.int .i64 (.lit 0) .nil) (.len (.rom 0)))) (.drop (.rom 0) (.len (.rom 0)))) (.rep (.int .i64 (.lit 0) .nil) (.len (.rom 0)))], .bool (.lit true), [], 0, []⟩
def c2 : Sx.Ctr := ⟨11, [.agg [.int .i64 (.var .i64 1), .rom 0 (.lit 0) (.lit 0) none, .rom 1 (.lit 0) (.len (.rom 1)) none], .int .i64 (.var .i64 2)], roms, [.leq (.take (.rom 0) (.lit 0)) .nil, .le (.lit 1) (.len (.rom 1)), .leq (.cat (.cat (.take (.rom 0) (.lit 0)) (.rep (.int .i64 (.lit 0) .nil) (.len (.rom 0)))) (.drop (.rom 0) (.len (.rom 0)))) (.rep (.int .i64 (.lit 0) .nil) (.len (.rom 0)))], .bool (.lit true), [], 0, []⟩
def c3 : Sx.Ctr := ⟨11, [.agg [.int .i64 (.var .i64 1), .rom 0 (.lit 0) (.len (.rom 0)) none, .rom 1 (.lit 0) (.lit 0) none], .int .i64 (.var .i64 2)], roms, [.le (.lit 1) (.len (.rom 0)), .leq (.take (.rom 1) (.lit 0)) .nil, .leq (.cat (.cat (.take (.rom 0) (.lit 0)) (.rep (.int .i64 (.lit 0) .nil) (.len (.rom 0)))) (.drop (.rom 0) (.len (.rom 0)))) (.rep (.int .i64 (.lit 0) .nil) (.len (.rom 0)))], .bool (.lit true), [], 0, []⟩
end
theorem told0 : Sx.Told link.Φ c0 := Sx.told_auto (cs := link.csK) link.told_all 8000 (by kernel_rfl) (by kernel_rfl) (by kernel_rfl) (Sx.post_nil rfl) (by kernel_rfl) (by kernel_rfl)
theorem told1 : Sx.Told link.Φ c1 := Sx.told_auto (cs := link.csK) link.told_all 8000 (by kernel_rfl) (by kernel_rfl) (by kernel_rfl) (Sx.post_nil rfl) (by kernel_rfl) (by kernel_rfl)
theorem told2 : Sx.Told link.Φ c2 := Sx.told_auto (cs := link.csK) link.told_all 8000 (by kernel_rfl) (by kernel_rfl) (by kernel_rfl) (Sx.post_nil rfl) (by kernel_rfl) (by kernel_rfl)
theorem told3 : Sx.Told link.Φ c3 := Sx.told_auto (cs := link.csK) link.told_all 8000 (by kernel_rfl) (by kernel_rfl) (by kernel_rfl) (Sx.post_nil rfl) (by kernel_rfl) (by kernel_rfl)
theorem law (x1 x2 : Int) (hx1 : kmin .i64 ≤ x1 ∧ x1 ≤ kmax .i64) (hx2 : kmin .i64 ≤ x2 ∧ x2 ≤ kmax .i64) (W : World) (a0 : Option Addr) (l0 k0 : Nat) (hg0 : Sx.RGood W ⟨a0, l0, k0, ks0⟩) (a1 : Option Addr) (l1 k1 : Nat) (hg1 : Sx.RGood W ⟨a1, l1, k1, ks1⟩) :
    Calls Try.prog 11 #[.agg #[.int .i64 x1, .slice a0 l0 k0, .slice a1 l1 k1], .int .i64 x2] W fun e w' => e = .returned (.bool true) ∧ W.grownBy w' none := by
  obtain ⟨rs, hrs⟩ : ∃ rs : Nat → Sx.RSl, rs = Sx.two ⟨a0, l0, k0, ks0⟩ ⟨a1, l1, k1, ks1⟩ := ⟨_, rfl⟩
  have r0 : rs 0 = ⟨a0, l0, k0, ks0⟩ := by rw [hrs]; rfl
  have r1 : rs 1 = ⟨a1, l1, k1, ks1⟩ := by rw [hrs]; rfl
  obtain ⟨ρ, eρ⟩ : ∃ ρ, ρ = Sx.rho [⟨1, .i64, x1⟩, ⟨2, .i64, x2⟩] [] [] (Sx.envOf link.Φ W rs) := ⟨_, rfl⟩
  have hz : ρ.z = Sx.envOf link.Φ W rs := by rw [eρ]; rfl
  have hlen : ∀ r, (rs r).len ≤ maxLen := by
    intro r
    rw [hrs]
    cases r with
    | zero => exact Nat.le_trans hg0.1 hg0.2.1
    | succ n => exact Nat.le_trans hg1.1 hg1.2.1
  have hg : Sx.Gd link.Φ ρ := by rw [eρ]; exact Sx.rho_gd ⟨hx1, hx2, trivial⟩ trivial odd_ok hlen
  have hr : Sx.RomsOk roms W ρ := Sx.roms_two (rs := rs) (F := link.Φ) (by rw [r0]; exact ⟨rfl, rfl, by simp [ks0], hg0⟩) (by rw [r1]; exact ⟨rfl, rfl, by simp [ks1], hg1⟩) hz
  have v1 : ρ.i .i64 1 = x1 := by rw [eρ]; rfl
  have e0 : ∀ r, (Sx.BE.leq (.take (.rom r) (.lit 0)) .nil).den ρ = true := by
    intro r
    rw [Sx.d_leq]
    simp [Sx.LE.den, Sx.IE.den]
  have ec : (Sx.BE.leq (.cat (.cat (.take (.rom 0) (.lit 0)) (.rep (.int .i64 (.lit 0) .nil) (.len (.rom 0)))) (.drop (.rom 0) (.len (.rom 0)))) (.rep (.int .i64 (.lit 0) .nil) (.len (.rom 0)))).den ρ = true := by
    rw [Sx.d_leq]
    simp [Sx.LE.den, Sx.IE.den, Sx.lenV]
  have n0 : l0 ≠ 0 → (Sx.BE.le (.lit 1) (.len (.rom 0))).den ρ = true := by
    intro h
    rw [Sx.d_le, Sx.len_rom hz, r0]
    show (1 : Int) ≤ ((l0 : Nat) : Int)
    omega
  have n1 : l1 ≠ 0 → (Sx.BE.le (.lit 1) (.len (.rom 1))).den ρ = true := by
    intro h
    rw [Sx.d_le, Sx.len_rom hz, r1]
    show (1 : Int) ≤ ((l1 : Nat) : Int)
    omega
  by_cases z0 : l0 = 0
  · by_cases z1 : l1 = 0
    · have := Sx.law_told told1 rfl (by show Holds ρ [.leq (.take (.rom 0) (.lit 0)) .nil, .leq (.take (.rom 1) (.lit 0)) .nil, .leq (.cat (.cat (.take (.rom 0) (.lit 0)) (.rep (.int .i64 (.lit 0) .nil) (.len (.rom 0)))) (.drop (.rom 0) (.len (.rom 0)))) (.rep (.int .i64 (.lit 0) .nil) (.len (.rom 0)))]; rw [Sx.h_cons, Sx.h_cons, Sx.h_cons, Sx.h_nil]; exact ⟨e0 0, e0 1, ec, trivial⟩) hg hr
      have e : (SV.denL ρ c1.pat).toArray = #[.agg #[.int .i64 x1, .slice a0 l0 k0, .slice a1 l1 k1], .int .i64 x2] := by
        have e1 : SV.denL ρ c1.pat = [.agg #[.int .i64 x1, SV.den ρ (.rom 0 (.lit 0) (.lit 0) none), SV.den ρ (.rom 1 (.lit 0) (.lit 0) none)], .int .i64 x2] := by subst eρ; rfl
        rw [e1, Sx.den_rom0 hz 0 (by rw [r0]; exact z0), Sx.den_rom0 hz 1 (by rw [r1]; exact z1), r0, r1]
      rw [e] at this
      exact this
    · have := Sx.law_told told2 rfl (by show Holds ρ [.leq (.take (.rom 0) (.lit 0)) .nil, .le (.lit 1) (.len (.rom 1)), .leq (.cat (.cat (.take (.rom 0) (.lit 0)) (.rep (.int .i64 (.lit 0) .nil) (.len (.rom 0)))) (.drop (.rom 0) (.len (.rom 0)))) (.rep (.int .i64 (.lit 0) .nil) (.len (.rom 0)))]; rw [Sx.h_cons, Sx.h_cons, Sx.h_cons, Sx.h_nil]; exact ⟨e0 0, n1 z1, ec, trivial⟩) hg hr
      have e : (SV.denL ρ c2.pat).toArray = #[.agg #[.int .i64 x1, .slice a0 l0 k0, .slice a1 l1 k1], .int .i64 x2] := by
        have e1 : SV.denL ρ c2.pat = [.agg #[.int .i64 x1, SV.den ρ (.rom 0 (.lit 0) (.lit 0) none), SV.den ρ (.rom 1 (.lit 0) (.len (.rom 1)) none)], .int .i64 x2] := by subst eρ; rfl
        rw [e1, Sx.den_rom0 hz 0 (by rw [r0]; exact z0), Sx.den_rom hz 1, r0, r1]
      rw [e] at this
      exact this
  · by_cases z1 : l1 = 0
    · have := Sx.law_told told3 rfl (by show Holds ρ [.le (.lit 1) (.len (.rom 0)), .leq (.take (.rom 1) (.lit 0)) .nil, .leq (.cat (.cat (.take (.rom 0) (.lit 0)) (.rep (.int .i64 (.lit 0) .nil) (.len (.rom 0)))) (.drop (.rom 0) (.len (.rom 0)))) (.rep (.int .i64 (.lit 0) .nil) (.len (.rom 0)))]; rw [Sx.h_cons, Sx.h_cons, Sx.h_cons, Sx.h_nil]; exact ⟨n0 z0, e0 1, ec, trivial⟩) hg hr
      have e : (SV.denL ρ c3.pat).toArray = #[.agg #[.int .i64 x1, .slice a0 l0 k0, .slice a1 l1 k1], .int .i64 x2] := by
        have e1 : SV.denL ρ c3.pat = [.agg #[.int .i64 x1, SV.den ρ (.rom 0 (.lit 0) (.len (.rom 0)) none), SV.den ρ (.rom 1 (.lit 0) (.lit 0) none)], .int .i64 x2] := by subst eρ; rfl
        rw [e1, Sx.den_rom hz 0, Sx.den_rom0 hz 1 (by rw [r1]; exact z1), r0, r1]
      rw [e] at this
      exact this
    · have := Sx.law_told told0 rfl (by show Holds ρ [.le (.lit 1) (.len (.rom 0)), .le (.lit 1) (.len (.rom 1)), .leq (.cat (.cat (.take (.rom 0) (.lit 0)) (.rep (.int .i64 (.lit 0) .nil) (.len (.rom 0)))) (.drop (.rom 0) (.len (.rom 0)))) (.rep (.int .i64 (.lit 0) .nil) (.len (.rom 0)))]; rw [Sx.h_cons, Sx.h_cons, Sx.h_cons, Sx.h_nil]; exact ⟨n0 z0, n1 z1, ec, trivial⟩) hg hr
      have e : (SV.denL ρ c0.pat).toArray = #[.agg #[.int .i64 x1, .slice a0 l0 k0, .slice a1 l1 k1], .int .i64 x2] := by
        have e1 : SV.denL ρ c0.pat = [.agg #[.int .i64 x1, SV.den ρ (.rom 0 (.lit 0) (.len (.rom 0)) none), SV.den ρ (.rom 1 (.lit 0) (.len (.rom 1)) none)], .int .i64 x2] := by subst eρ; rfl
        rw [e1, Sx.den_rom hz 0, Sx.den_rom hz 1, r0, r1]
      rw [e] at this
      exact this

set_option maxRecDepth 100000 in
set_option maxHeartbeats 4000000 in
theorem lifted (os : Os) (started : os.Started) (H : Type) (enc : TypeId × Value → H) :
    ReturnsInHanded {} Try.checked os 11 .any (Rows.linkSendsSpec.pre6 enc Try.prog Try.f11 Rows.linkSendsRow.domain false) (Rows.linkSendsSpec.post enc Try.prog Try.f11 false true false false) := by
  refine returnsInHanded_of_change (C := Try.checked) own started (by kernel_rfl) Try.func11
    (ChangeSpec.witness6 (enc := enc) (C := Try.checked) false ⟨#[], #[.agg #[.int .i64 0, .slice none 0 0, .slice none 0 0], .int .i64 0], []⟩ 8 (by kernel_rfl) (by kernel_rfl) (by kernel_rfl) (by kernel_rfl)) ?_
  intro W base args ds gs before hval0 hW hcnd _
  have hval : ∀ (j : Nat) t v, Try.f11.params[j]? = some t → args[j]? = some v → Value.okWide Try.prog W .any base t v := hval0
  have hW' := hW
  obtain ⟨p, q, hA0, hV, rfl, hfz, hnd⟩ := hW
  obtain ⟨rfl, rfl⟩ := trodVars_none hV
  rw [List.append_nil] at hW'
  have hA : DataW.TrodAll enc Try.prog W 0 (fun _ => true) true Try.f11.params.toList args.toList ds p := hA0
  have hAk := hA
  rw [Try.params11] at hA hval
  obtain ⟨v0, vs0, d0, ds0, p0, q0, hargs, rfl, rfl, h0, r0⟩ := trodAll_cons hA
  obtain ⟨v1, vs1, d1, ds1, p1, q1, rfl, rfl, rfl, h1, r1⟩ := trodAll_cons r0
  obtain ⟨rfl, rfl, rfl⟩ := trodAll_nil r1
  obtain rfl : args = #[v0, v1] := by cases args; simp_all
  obtain ⟨c0, rfl, l0, f0⟩ := open_flat (ts := [2, 65, 66]) (n := 3) Try.underlying68 rfl (by kernel_rfl) (by kernel_rfl) rfl (hval 0 68 v0 rfl rfl)
  obtain ⟨u0_0, u0_1, u0_2, rfl⟩ := list3 l0
  obtain ⟨x1, rfl, hx1⟩ := cell_int Try.underlying2 (f0 0 u0_0 2 rfl rfl)
  obtain ⟨sa0, sl0, sc0, rfl, hg0⟩ := Sx.field_good (j := 1) (ks := ks0) Try.underlying68 rfl Try.underlying65 (by kernel_rfl) (by kernel_rfl) (by kernel_rfl) rfl (Sx.cell_slice Try.underlying65 (f0 1 u0_1 65 rfl rfl)) h0
  obtain ⟨sa1, sl1, sc1, rfl, hg1⟩ := Sx.field_good (j := 2) (ks := ks1) Try.underlying68 rfl Try.underlying66 (by kernel_rfl) (by kernel_rfl) (by kernel_rfl) rfl (Sx.cell_slice Try.underlying66 (f0 2 u0_2 66 rfl rfl)) h0
  obtain ⟨x2, rfl, hx2⟩ := cell_int Try.underlying3 (hval 1 3 v1 rfl rfl)
  refine (law x1 x2 hx1 hx2 W sa0 sl0 sc0 hg0 sa1 sl1 sc1 hg1).below.mono fun e W' ⟨he, hg⟩ => ?_
  subst he
  exact ⟨_, rfl, law_post (by kernel_rfl) (by kernel_rfl) rfl Try.underlying4 rfl hW' hAk rfl hg⟩

theorem proved : Rows.LinkSendsSaid :=
  OpenClaim.holds_of_wide 11 Try.f11 rfl rfl rfl rfl rfl rfl rfl ⟨rfl, rfl, rfl, rfl, rfl⟩ rfl rfl rfl rfl rfl (by kernel_rfl) Try.func11 (by kernel_rfl)
    (of_decide_eq_true (by kernel_rfl)) (by unfold Func.isWrapper; first | (rw [if_pos (by decide +kernel)]; kernel_rfl) | (rw [if_neg (by decide +kernel)]; exact ⟨rfl, rfl⟩))
    (fun os started H enc _ => lifted os started H enc)
end Go.Proofs.Ytjgkaimgocnkmaa.linkSends

