/- The law DiskBytes returns true whatever it is given. No condition. -/
import Derived.Test.YtjihjnpmablhbaaDc
set_option linter.unusedSimpArgs false
set_option linter.unusedVariables false
set_option linter.deprecated false
namespace Go.Proofs.Ytjihjnpmablhbaa.diskBytes
open Go
open Go.ChangeShapes Go.WideShapes Go.ChangeAt Go.RowKit Go.Joins
open Sx (kmin kmax Rho Same Holds SV CK)
open dsk
noncomputable section
def ks0 : List CK := [.int .u8]
def roms : Sx.Roms := [(0, (1, ks0))]
def c0 : Sx.Ctr := dsk.cBytes0
def c1 : Sx.Ctr := dsk.cBytes1
def c2 : Sx.Ctr := dsk.cBytesA
def c3 : Sx.Ctr := dsk.cBytesB
def c4 : Sx.Ctr := dsk.cBytesZ
end
theorem told0 : Sx.Told dsk.Φ c0 := dsk.told_by0
theorem told1 : Sx.Told dsk.Φ c1 := dsk.told_by1
theorem told2 : Sx.Told dsk.Φ c2 := dsk.told_byA
theorem told3 : Sx.Told dsk.Φ c3 := dsk.told_byB
theorem told4 : Sx.Told dsk.Φ c4 := dsk.told_byZ
theorem law (x1 x2 : Int)  (hx1 : kmin .i64 ≤ x1 ∧ x1 ≤ kmax .i64) (hx2 : kmin .i64 ≤ x2 ∧ x2 ≤ kmax .i64) (W : World) (a0 : Option Addr) (l0 k0 : Nat) (hg0 : Sx.RGood W ⟨a0, l0, k0, ks0⟩) :
    Calls Try.prog 5 #[.slice a0 l0 k0, .int .i64 x1, .int .i64 x2] W fun e w' => e = .returned (.bool true) ∧ W.grownBy w' none := by
  obtain ⟨rs, hrs⟩ : ∃ rs : Nat → Sx.RSl, rs = fun _ => ⟨a0, l0, k0, ks0⟩ := ⟨_, rfl⟩
  obtain ⟨ρ, eρ⟩ : ∃ ρ, ρ = Sx.rho [⟨1, .i64, x1⟩, ⟨2, .i64, x2⟩] [] [] (Sx.envOf dsk.Φ W rs) := ⟨_, rfl⟩
  have hz : ρ.z = Sx.envOf dsk.Φ W rs := by rw [eρ]; rfl
  have hg : Sx.Gd dsk.Φ ρ := by rw [eρ]; exact Sx.rho_gd ⟨hx1, hx2, trivial⟩ trivial odd_ok (fun r => by rw [hrs]; exact Nat.le_trans hg0.1 hg0.2.1)
  have hr : Sx.RomsOk roms W ρ := Sx.roms_one (rs := rs) (F := dsk.Φ) (by rw [hrs]; exact ⟨rfl, rfl, by simp [ks0], hg0⟩) hz (Sx.glob_nil rfl)
  have hx : ρ.i .i64 1 = x1 := by subst eρ; rfl
  by_cases z0 : l0 = 0
  · have := Sx.law_told told4 rfl (fun p hp => by cases hp) hg hr
    have e : (SV.denL ρ c4.pat).toArray = #[.slice a0 l0 k0, .int .i64 x1, .int .i64 x2] := by
      have e1 : SV.denL ρ c4.pat = [SV.den ρ (.rom 0 (.lit 0) (.lit 0) none), .int .i64 x1, .int .i64 x2] := by subst eρ; rfl
      rw [e1, Sx.den_rom0 hz 0 (by rw [hrs]; exact z0), hrs]
    rw [e] at this
    exact this
  · have h1 : Holds ρ [.le (.lit 1) (.len (.rom 0))] := by
      rw [Sx.h_cons, Sx.d_le, Sx.len_rom hz, hrs]; exact ⟨by show (1 : Int) ≤ ((l0 : Nat) : Int); omega, by rw [Sx.h_nil]; trivial⟩
    have h2 : ∀ p : Sx.BE, p.den ρ = true → Holds ρ [.le (.lit 1) (.len (.rom 0)), p] := fun p hp q hq => by
      rcases List.mem_cons.1 hq with rfl | hq
      · exact h1 _ (List.mem_singleton.2 rfl)
      · rw [List.mem_singleton.1 hq]; exact hp
    rcases (show x1 = 0 ∨ x1 = 1 ∨ 2 ≤ x1 ∨ x1 ≤ -1 by omega) with z | z | z | z
    · have := Sx.law_told told0 rfl h1 hg hr
      have e : (SV.denL ρ c0.pat).toArray = #[.slice a0 l0 k0, .int .i64 x1, .int .i64 x2] := by
        have e1 : SV.denL ρ c0.pat = [SV.den ρ (.rom 0 (.lit 0) (.len (.rom 0)) none), .int .i64 0, .int .i64 x2] := by subst eρ; rfl
        rw [e1, Sx.den_rom hz 0, hrs, z]
      rw [e] at this
      exact this
    · have := Sx.law_told told1 rfl h1 hg hr
      have e : (SV.denL ρ c1.pat).toArray = #[.slice a0 l0 k0, .int .i64 x1, .int .i64 x2] := by
        have e1 : SV.denL ρ c1.pat = [SV.den ρ (.rom 0 (.lit 0) (.len (.rom 0)) none), .int .i64 1, .int .i64 x2] := by subst eρ; rfl
        rw [e1, Sx.den_rom hz 0, hrs, z]
      rw [e] at this
      exact this
    · have := Sx.law_told told2 rfl (h2 _ (show (Sx.BE.le (.lit 2) (.var .i64 1)).den ρ = true by rw [Sx.d_le]; show (2 : Int) ≤ ρ.i .i64 1; omega)) hg hr
      have e : (SV.denL ρ c2.pat).toArray = #[.slice a0 l0 k0, .int .i64 x1, .int .i64 x2] := by
        have e1 : SV.denL ρ c2.pat = [SV.den ρ (.rom 0 (.lit 0) (.len (.rom 0)) none), .int .i64 x1, .int .i64 x2] := by subst eρ; rfl
        rw [e1, Sx.den_rom hz 0, hrs]
      rw [e] at this
      exact this
    · have := Sx.law_told told3 rfl (h2 _ (show (Sx.BE.le (.var .i64 1) (.lit (-1))).den ρ = true by rw [Sx.d_le]; show ρ.i .i64 1 ≤ (-1 : Int); omega)) hg hr
      have e : (SV.denL ρ c3.pat).toArray = #[.slice a0 l0 k0, .int .i64 x1, .int .i64 x2] := by
        have e1 : SV.denL ρ c3.pat = [SV.den ρ (.rom 0 (.lit 0) (.len (.rom 0)) none), .int .i64 x1, .int .i64 x2] := by subst eρ; rfl
        rw [e1, Sx.den_rom hz 0, hrs]
      rw [e] at this
      exact this

set_option maxRecDepth 100000 in
set_option maxHeartbeats 4000000 in
theorem lifted (os : Os) (started : os.Started) (H : Type) (enc : TypeId × Value → H) :
    ReturnsInHanded {} Try.checked os 5 .any (Rows.diskBytesSpec.pre6 enc Try.prog Try.f5 Rows.diskBytesRow.domain false) (Rows.diskBytesSpec.post enc Try.prog Try.f5 false true false false) := by
  refine returnsInHanded_of_change (C := Try.checked) own started (by kernel_rfl) Try.func5
    (ChangeSpec.witness6 (enc := enc) (C := Try.checked) false ⟨#[], #[.slice none 0 0, .int .i64 0, .int .i64 0], []⟩ 8 (by kernel_rfl) (by kernel_rfl) (by kernel_rfl) (by kernel_rfl)) ?_
  intro W base args ds gs before hval0 hW hcnd _
  have hval : ∀ (j : Nat) t v, Try.f5.params[j]? = some t → args[j]? = some v → Value.okWide Try.prog W .any base t v := hval0
  have hW' := hW
  obtain ⟨p, q, hA0, hV, rfl, hfz, hnd⟩ := hW
  obtain ⟨rfl, rfl⟩ := trodVars_none hV
  rw [List.append_nil] at hW'
  have hA : DataW.TrodAll enc Try.prog W 0 (fun _ => true) true Try.f5.params.toList args.toList ds p := hA0
  have hAk := hA
  rw [Try.params5] at hA hval
  obtain ⟨v0, vs0, d0, ds0, p0, q0, hargs, rfl, rfl, h0, r0⟩ := trodAll_cons hA
  obtain ⟨v1, vs1, d1, ds1, p1, q1, rfl, rfl, rfl, h1, r1⟩ := trodAll_cons r0
  obtain ⟨v2, vs2, d2, ds2, p2, q2, rfl, rfl, rfl, h2, r2⟩ := trodAll_cons r1
  obtain ⟨rfl, rfl, rfl⟩ := trodAll_nil r2
  obtain rfl : args = #[v0, v1, v2] := by cases args; simp_all
  obtain ⟨sa0, sl0, sc0, rfl, hg0⟩ := Sx.slice_good (ks := ks0) Try.underlying38 (by kernel_rfl) (by kernel_rfl) (Sx.cell_slice Try.underlying38 (hval 0 38 v0 rfl rfl)) h0
  obtain ⟨x1, rfl, hx1⟩ := cell_int Try.underlying3 (hval 1 3 v1 rfl rfl)
  obtain ⟨x2, rfl, hx2⟩ := cell_int Try.underlying3 (hval 2 3 v2 rfl rfl)
  refine (law x1 x2 hx1 hx2 W sa0 sl0 sc0 hg0).below.mono fun e W' ⟨he, hg⟩ => ?_
  subst he
  exact ⟨_, rfl, law_post (by kernel_rfl) (by kernel_rfl) rfl Try.underlying4 rfl hW' hAk rfl hg⟩

theorem proved : Rows.DiskBytesSaid :=
  OpenClaim.holds_of_wide 5 Try.f5 rfl rfl rfl rfl rfl rfl rfl ⟨rfl, rfl, rfl, rfl, rfl⟩ rfl rfl rfl rfl rfl (by kernel_rfl) Try.func5 (by kernel_rfl)
    (of_decide_eq_true (by kernel_rfl)) (by unfold Func.isWrapper; first | (rw [if_pos (by decide +kernel)]; kernel_rfl) | (rw [if_neg (by decide +kernel)]; exact ⟨rfl, rfl⟩))
    (fun os started H enc _ => lifted os started H enc)
end Go.Proofs.Ytjihjnpmablhbaa.diskBytes

