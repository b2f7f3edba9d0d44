/- The law LinkEach returns true whatever it is given. No condition. -/
import Derived.Test.YtjgkaimgocnkmaaNh
set_option linter.unusedSimpArgs false
set_option linter.unusedVariables false
set_option linter.deprecated false
namespace Go.Proofs.Ytjgkaimgocnkmaa.linkEach
open Go
open Go.ChangeShapes Go.WideShapes Go.ChangeAt Go.RowKit Go.Joins
open Sx (kmin kmax Rho Same Holds SV CK)
open lnk
noncomputable section
def ks0 : List CK := [.int .i64]
def ks1 : List CK := [.int .i64, .int .i64]
def roms : Sx.Roms := [(0, (1, ks0)), (1, (2, ks1)), (2, (2, ks1))]
def c0 : Sx.Ctr := lnk.cEach
def c1 : Sx.Ctr := lnk.cEach0
def three (a b c : Sx.RSl) : Nat → Sx.RSl
  | 0 => a
  | 1 => b
  | _ => c
end
theorem told0 : Sx.Told lnk.Φ c0 := lnk.told_each
theorem told1 : Sx.Told lnk.Φ c1 := lnk.told_eachz
theorem law (x1 x2 x3 : Int) (hx1 : kmin .i64 ≤ x1 ∧ x1 ≤ kmax .i64) (hx2 : kmin .i64 ≤ x2 ∧ x2 ≤ kmax .i64) (hx3 : kmin .i64 ≤ x3 ∧ x3 ≤ kmax .i64) (W : World) (a0 : Option Addr) (l0 k0 : Nat) (hg0 : Sx.RGood W ⟨a0, l0, k0, ks0⟩) (a1 : Option Addr) (l1 k1 : Nat) (hg1 : Sx.RGood W ⟨a1, l1, k1, ks1⟩) (a2 : Option Addr) (l2 k2 : Nat) (hg2 : Sx.RGood W ⟨a2, l2, k2, ks1⟩) :
    Calls Try.prog 13 #[.agg #[.int .i64 x1, .slice a0 l0 k0, .slice a1 l1 k1], .slice a2 l2 k2, .agg #[.int .i64 x2, .int .i64 x3]] W fun e w' => e = .returned (.bool true) ∧ W.grownBy w' none := by
  obtain ⟨rs, hrs⟩ : ∃ rs : Nat → Sx.RSl, rs = three ⟨a0, l0, k0, ks0⟩ ⟨a1, l1, k1, ks1⟩ ⟨a2, l2, k2, ks1⟩ := ⟨_, rfl⟩
  have r0 : rs 0 = ⟨a0, l0, k0, ks0⟩ := by rw [hrs]; rfl
  have r1 : rs 1 = ⟨a1, l1, k1, ks1⟩ := by rw [hrs]; rfl
  have r2 : rs 2 = ⟨a2, l2, k2, ks1⟩ := by rw [hrs]; rfl
  obtain ⟨ρ, eρ⟩ : ∃ ρ, ρ = Sx.rho [⟨1, .i64, x1⟩, ⟨2, .i64, x2⟩, ⟨3, .i64, x3⟩] [] [] (Sx.envOf lnk.Φ W rs) := ⟨_, rfl⟩
  have hz : ρ.z = Sx.envOf lnk.Φ W rs := by rw [eρ]; rfl
  have hlen : ∀ r, (rs r).len ≤ maxLen := by
    intro r
    rw [hrs]
    unfold three
    split
    · exact Nat.le_trans hg0.1 hg0.2.1
    · exact Nat.le_trans hg1.1 hg1.2.1
    · exact Nat.le_trans hg2.1 hg2.2.1
  have hg : Sx.Gd lnk.Φ ρ := by rw [eρ]; exact Sx.rho_gd ⟨hx1, hx2, hx3, trivial⟩ trivial odd_ok hlen
  have hr : Sx.RomsOk roms W ρ := by
    refine Sx.roms_ok (rs := rs) (F := lnk.Φ) ?_ hz (Sx.glob_nil rfl)
    intro r esz ks h
    unfold roms at h
    rw [Sx.lk_cons, Sx.lk_cons, Sx.lk_cons, Sx.lk_nil] at h
    split at h
    · rename_i e
      cases h; subst e; rw [r0]; exact ⟨rfl, rfl, by simp [ks0], hg0⟩
    · split at h
      · rename_i e
        cases h; subst e; rw [r1]; exact ⟨rfl, rfl, by simp [ks1], hg1⟩
      · split at h
        · rename_i e
          cases h; subst e; rw [r2]; exact ⟨rfl, rfl, by simp [ks1], hg2⟩
        · cases h
  by_cases z2 : l2 = 0
  · have := Sx.law_told told1 rfl (fun p hp => by cases hp) hg hr
    have e : (SV.denL ρ c1.pat).toArray = #[.agg #[.int .i64 x1, .slice a0 l0 k0, .slice a1 l1 k1], .slice a2 l2 k2, .agg #[.int .i64 x2, .int .i64 x3]] := by
      have e1 : SV.denL ρ c1.pat = [.agg #[.int .i64 x1, SV.den ρ (.rom 0 (.lit 0) (.len (.rom 0)) none), SV.den ρ (.rom 1 (.lit 0) (.len (.rom 1)) none)], SV.den ρ (.rom 2 (.lit 0) (.lit 0) none), .agg #[.int .i64 x2, .int .i64 x3]] := by subst eρ; rfl
      rw [e1, Sx.den_rom hz 0, Sx.den_rom hz 1, Sx.den_rom0 hz 2 (by rw [r2]; exact z2), r0, r1, r2]
    rw [e] at this
    exact this
  · have := Sx.law_told told0 rfl (by show Holds ρ [.le (.lit 1) (.len (.rom 2))]; rw [Sx.h_cons, Sx.d_le, Sx.len_rom hz, r2]; exact ⟨by show (1 : Int) ≤ ((l2 : Nat) : Int); omega, by rw [Sx.h_nil]; trivial⟩) hg hr
    have e : (SV.denL ρ c0.pat).toArray = #[.agg #[.int .i64 x1, .slice a0 l0 k0, .slice a1 l1 k1], .slice a2 l2 k2, .agg #[.int .i64 x2, .int .i64 x3]] := by
      have e1 : SV.denL ρ c0.pat = [.agg #[.int .i64 x1, SV.den ρ (.rom 0 (.lit 0) (.len (.rom 0)) none), SV.den ρ (.rom 1 (.lit 0) (.len (.rom 1)) none)], SV.den ρ (.rom 2 (.lit 0) (.len (.rom 2)) none), .agg #[.int .i64 x2, .int .i64 x3]] := by subst eρ; rfl
      rw [e1, Sx.den_rom hz 0, Sx.den_rom hz 1, Sx.den_rom hz 2, r0, r1, r2]
    rw [e] at this
    exact this

set_option maxRecDepth 100000 in
set_option maxHeartbeats 4000000 in
theorem lifted (os : Os) (started : os.Started) (H : Type) (enc : TypeId × Value → H) :
    ReturnsInHanded {} Try.checked os 13 .any (Rows.linkEachSpec.pre6 enc Try.prog Try.f13 Rows.linkEachRow.domain false) (Rows.linkEachSpec.post enc Try.prog Try.f13 false true false false) := by
  refine returnsInHanded_of_change (C := Try.checked) own started (by kernel_rfl) Try.func13
    (ChangeSpec.witness6 (enc := enc) (C := Try.checked) false ⟨#[], #[.agg #[.int .i64 0, .slice none 0 0, .slice none 0 0], .slice none 0 0, .agg #[.int .i64 0, .int .i64 0]], []⟩ 8 (by kernel_rfl) (by kernel_rfl) (by kernel_rfl) (by kernel_rfl)) ?_
  intro W base args ds gs before hval0 hW hcnd _
  have hval : ∀ (j : Nat) t v, Try.f13.params[j]? = some t → args[j]? = some v → Value.okWide Try.prog W .any base t v := hval0
  have hW' := hW
  obtain ⟨p, q, hA0, hV, rfl, hfz, hnd⟩ := hW
  obtain ⟨rfl, rfl⟩ := trodVars_none hV
  rw [List.append_nil] at hW'
  have hA : DataW.TrodAll enc Try.prog W 0 (fun _ => true) true Try.f13.params.toList args.toList ds p := hA0
  have hAk := hA
  rw [Try.params13] at hA hval
  obtain ⟨v0, vs0, d0, ds0, p0, q0, hargs, rfl, rfl, h0, r0⟩ := trodAll_cons hA
  obtain ⟨v1, vs1, d1, ds1, p1, q1, rfl, rfl, rfl, h1, r1⟩ := trodAll_cons r0
  obtain ⟨v2, vs2, d2, ds2, p2, q2, rfl, rfl, rfl, h2, r2⟩ := trodAll_cons r1
  obtain ⟨rfl, rfl, rfl⟩ := trodAll_nil r2
  obtain rfl : args = #[v0, v1, v2] := by cases args; simp_all
  obtain ⟨c0, rfl, l0, f0⟩ := open_flat (ts := [2, 65, 66]) (n := 3) Try.underlying68 rfl (by kernel_rfl) (by kernel_rfl) rfl (hval 0 68 v0 rfl rfl)
  obtain ⟨u0_0, u0_1, u0_2, rfl⟩ := list3 l0
  obtain ⟨x1, rfl, hx1⟩ := cell_int Try.underlying2 (f0 0 u0_0 2 rfl rfl)
  obtain ⟨sa0, sl0, sc0, rfl, hg0⟩ := Sx.field_good (j := 1) (ks := ks0) Try.underlying68 rfl Try.underlying65 (by kernel_rfl) (by kernel_rfl) (by kernel_rfl) rfl (Sx.cell_slice Try.underlying65 (f0 1 u0_1 65 rfl rfl)) h0
  obtain ⟨sa1, sl1, sc1, rfl, hg1⟩ := Sx.field_good (j := 2) (ks := ks1) Try.underlying68 rfl Try.underlying66 (by kernel_rfl) (by kernel_rfl) (by kernel_rfl) rfl (Sx.cell_slice Try.underlying66 (f0 2 u0_2 66 rfl rfl)) h0
  obtain ⟨sa2, sl2, sc2, rfl, hg2⟩ := Sx.slice_good (ks := ks1) Try.underlying66 (by kernel_rfl) (by kernel_rfl) (Sx.cell_slice Try.underlying66 (hval 1 66 v1 rfl rfl)) h1
  obtain ⟨c2, rfl, l2, f2⟩ := open_flat (ts := [3, 3]) (n := 2) Try.underlying95 rfl (by kernel_rfl) (by kernel_rfl) rfl (hval 2 95 v2 rfl rfl)
  obtain ⟨u2_0, u2_1, rfl⟩ := list2 l2
  obtain ⟨x2, rfl, hx2⟩ := cell_int Try.underlying3 (f2 0 u2_0 3 rfl rfl)
  obtain ⟨x3, rfl, hx3⟩ := cell_int Try.underlying3 (f2 1 u2_1 3 rfl rfl)
  refine (law x1 x2 x3 hx1 hx2 hx3 W sa0 sl0 sc0 hg0 sa1 sl1 sc1 hg1 sa2 sl2 sc2 hg2).below.mono fun e W' ⟨he, hg⟩ => ?_
  subst he
  exact ⟨_, rfl, law_post (by kernel_rfl) (by kernel_rfl) rfl Try.underlying4 rfl hW' hAk rfl hg⟩

theorem proved : Rows.LinkEachSaid :=
  OpenClaim.holds_of_wide 13 Try.f13 rfl rfl rfl rfl rfl rfl rfl ⟨rfl, rfl, rfl, rfl, rfl⟩ rfl rfl rfl rfl rfl (by kernel_rfl) Try.func13 (by kernel_rfl)
    (of_decide_eq_true (by kernel_rfl)) (by unfold Func.isWrapper; first | (rw [if_pos (by decide +kernel)]; kernel_rfl) | (rw [if_neg (by decide +kernel)]; exact ⟨rfl, rfl⟩))
    (fun os started H enc _ => lifted os started H enc)
end Go.Proofs.Ytjgkaimgocnkmaa.linkEach
