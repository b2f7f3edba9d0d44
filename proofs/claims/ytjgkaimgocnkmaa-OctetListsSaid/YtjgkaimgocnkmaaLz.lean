/- The law OctetLists returns true whatever it is given. No condition. -/
import Derived.Test.YtjgkaimgocnkmaaKc
set_option linter.unusedSimpArgs false
set_option linter.unusedVariables false
set_option linter.deprecated false
namespace Go.Proofs.Ytjgkaimgocnkmaa.octetLists
open Go
open Go.ChangeShapes Go.WideShapes Go.ChangeAt Go.RowKit Go.Joins
open Sx (kmin kmax Rho Same Holds SV CK)
open oct
noncomputable section
def ks0 : List CK := [.str]
def ks1 : List CK := [.int .u8]
def roms : Sx.Roms := [(0, (1, ks0)), (1, (1, ks1))]
def c0 : Sx.Ctr := oct.cLists
end
theorem told0 : Sx.Told oct.Φ c0 := oct.told_lists
theorem law (x1 : Int)  (hx1 : kmin .i64 ≤ x1 ∧ x1 ≤ kmax .i64) (W : World) (a0 : Option Addr) (l0 k0 : Nat) (hg0 : Sx.RGood W ⟨a0, l0, k0, ks0⟩) (a1 : Option Addr) (l1 k1 : Nat) (hg1 : Sx.RGood W ⟨a1, l1, k1, ks1⟩) :
    Calls Try.prog 6 #[.slice a0 l0 k0, .slice a1 l1 k1, .int .i64 x1] W fun e w' => e = .returned (.bool true) ∧ W.grownBy w' none := by
  obtain ⟨rs, hrs⟩ : ∃ rs : Nat → Sx.RSl, rs = fun r => if r = 0 then ⟨a0, l0, k0, ks0⟩ else ⟨a1, l1, k1, ks1⟩ := ⟨_, rfl⟩
  obtain ⟨ρ, eρ⟩ : ∃ ρ, ρ = Sx.rho [⟨1, .i64, x1⟩] [] [] (Sx.envOf oct.Φ W rs) := ⟨_, rfl⟩
  have hz : ρ.z = Sx.envOf oct.Φ W rs := by rw [eρ]; rfl
  have hg : Sx.Gd oct.Φ ρ := by rw [eρ]; exact Sx.rho_gd ⟨hx1, trivial⟩ trivial odd_ok (fun r => by rw [hrs]; exact by dsimp only; split; exact Nat.le_trans hg0.1 hg0.2.1; exact Nat.le_trans hg1.1 hg1.2.1)
  have hr : Sx.RomsOk roms W ρ := Sx.roms_two (rs := rs) (F := oct.Φ) (by rw [hrs]; exact ⟨rfl, rfl, by simp [ks0], hg0⟩) (by rw [hrs]; exact ⟨rfl, rfl, by simp [ks1], hg1⟩) hz (Sx.glob_nil rfl)
  have := Sx.law_told told0 rfl (fun p hp => by cases hp) hg hr
  have e : (SV.denL ρ c0.pat).toArray = #[.slice a0 l0 k0, .slice a1 l1 k1, .int .i64 x1] := by
    have e1 : SV.denL ρ c0.pat = [SV.den ρ (.rom 0 (.lit 0) (.len (.rom 0)) none), SV.den ρ (.rom 1 (.lit 0) (.len (.rom 1)) none), .int .i64 x1] := by subst eρ; rfl
    rw [e1, Sx.den_rom hz 0, Sx.den_rom hz 1, hrs]
    rfl
  rw [e] at this
  exact this

set_option maxRecDepth 100000 in
set_option maxHeartbeats 4000000 in
theorem lifted (os : Os) (started : os.Started) (H : Type) (enc : TypeId × Value → H) :
    ReturnsInHanded {} Try.checked os 6 .any (Rows.octetListsSpec.pre6 enc Try.prog Try.f6 Rows.octetListsRow.domain false) (Rows.octetListsSpec.post enc Try.prog Try.f6 false true false false) := by
  refine returnsInHanded_of_change (C := Try.checked) own started (by kernel_rfl) Try.func6
    (ChangeSpec.witness6 (enc := enc) (C := Try.checked) false ⟨#[], #[.slice none 0 0, .slice none 0 0, .int .i64 0], []⟩ 8 (by kernel_rfl) (by kernel_rfl) (by kernel_rfl) (by kernel_rfl)) ?_
  intro W base args ds gs before hval0 hW hcnd _
  have hval : ∀ (j : Nat) t v, Try.f6.params[j]? = some t → args[j]? = some v → Value.okWide Try.prog W .any base t v := hval0
  have hW' := hW
  obtain ⟨p, q, hA0, hV, rfl, hfz, hnd⟩ := hW
  obtain ⟨rfl, rfl⟩ := trodVars_none hV
  rw [List.append_nil] at hW'
  have hA : DataW.TrodAll enc Try.prog W 0 (fun _ => true) true Try.f6.params.toList args.toList ds p := hA0
  have hAk := hA
  rw [Try.params6] at hA hval
  obtain ⟨v0, vs0, d0, ds0, p0, q0, hargs, rfl, rfl, h0, r0⟩ := trodAll_cons hA
  obtain ⟨v1, vs1, d1, ds1, p1, q1, rfl, rfl, rfl, h1, r1⟩ := trodAll_cons r0
  obtain ⟨v2, vs2, d2, ds2, p2, q2, rfl, rfl, rfl, h2, r2⟩ := trodAll_cons r1
  obtain ⟨rfl, rfl, rfl⟩ := trodAll_nil r2
  obtain rfl : args = #[v0, v1, v2] := by cases args; simp_all
  obtain ⟨sa0, sl0, sc0, rfl, hg0⟩ := Sx.slice_good (ks := ks0) Try.underlying46 (by kernel_rfl) (by kernel_rfl) (Sx.cell_slice Try.underlying46 (hval 0 46 v0 rfl rfl)) h0
  obtain ⟨sa1, sl1, sc1, rfl, hg1⟩ := Sx.slice_good (ks := ks1) Try.underlying23 (by kernel_rfl) (by kernel_rfl) (Sx.cell_slice Try.underlying23 (hval 1 23 v1 rfl rfl)) h1
  obtain ⟨x1, rfl, hx1⟩ := cell_int Try.underlying3 (hval 2 3 v2 rfl rfl)
  refine (law x1 hx1 W sa0 sl0 sc0 hg0 sa1 sl1 sc1 hg1).below.mono fun e W' ⟨he, hg⟩ => ?_
  subst he
  exact ⟨_, rfl, law_post (by kernel_rfl) (by kernel_rfl) rfl Try.underlying4 rfl hW' hAk rfl hg⟩

theorem proved : Rows.OctetListsSaid :=
  OpenClaim.holds_of_wide 6 Try.f6 rfl rfl rfl rfl rfl rfl rfl ⟨rfl, rfl, rfl, rfl, rfl⟩ rfl rfl rfl rfl rfl (by kernel_rfl) Try.func6 (by kernel_rfl)
    (of_decide_eq_true (by kernel_rfl)) (by unfold Func.isWrapper; first | (rw [if_pos (by decide +kernel)]; kernel_rfl) | (rw [if_neg (by decide +kernel)]; exact ⟨rfl, rfl⟩))
    (fun os started H enc _ => lifted os started H enc)
end Go.Proofs.Ytjgkaimgocnkmaa.octetLists

