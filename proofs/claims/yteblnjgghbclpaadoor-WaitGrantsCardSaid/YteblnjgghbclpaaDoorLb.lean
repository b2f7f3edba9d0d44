/- The law WaitGrants returns true whatever it is given. No condition. -/
import Derived.Test.YteblnjgghbclpaaDoorWj
import Derived.OpenShut
import Derived.ChangeArms
import Derived.LaidHandle
import Derived.LaidLaws
import Derived.Test.YteblnjgghbclpaaDoorTie
import Derived.Test.YteblnjgghbclpaaDoorCards
import Derived.Lay
import Derived.SevenTiedAt
import Derived.Test.YteblnjgghbclpaaDoorTw
set_option linter.unusedSimpArgs false
set_option linter.unusedVariables false
set_option linter.deprecated false
namespace Go.Proofs.YteblnjgghbclpaaDoor.waitGrants
open Go
open Go.ChangeShapes Go.WideShapes Go.ChangeAt Go.RowKit Go.Joins
open Sx (kmin kmax Rho Same Holds SV CK)
open wt
noncomputable section
def ks0 : List CK := [.int .i64, .int .i64, .int .i64, .int .i64, .int .i64]
def roms : Sx.Roms := [(0, (5, ks0))]
def c0 : Sx.Ctr := wt.cGrants
def c1 : Sx.Ctr := wt.cGrants0
def c2 : Sx.Ctr := wt.cGrants1a
def c3 : Sx.Ctr := wt.cGrants1b
def c4 : Sx.Ctr := wt.cGrants1c
end
theorem told0 : Sx.Told wt.Φ c0 := wt.told_grants
theorem told1 : Sx.Told wt.Φ c1 := wt.told_grantsz
theorem told2 : Sx.Told wt.Φ c2 := wt.told_grants1a
theorem told3 : Sx.Told wt.Φ c3 := wt.told_grants1b
theorem told4 : Sx.Told wt.Φ c4 := wt.told_grants1c
theorem law (x1 : Int)  (hx1 : kmin .i64 ≤ x1 ∧ x1 ≤ kmax .i64) (W : World) (hgl : Sx.GlobOk wt.Φ W) (a0 : Option Addr) (l0 k0 : Nat) (hg0 : Sx.RGood W ⟨a0, l0, k0, ks0⟩) :
    Calls Tryd.prog 6 #[.slice a0 l0 k0, .int .i64 x1] W fun e w' => e = .returned (.bool true) ∧ W.grownBy w' none := by
  obtain ⟨rs, hrs⟩ : ∃ rs : Nat → Sx.RSl, rs = fun _ => ⟨a0, l0, k0, ks0⟩ := ⟨_, rfl⟩
  obtain ⟨ρ, eρ⟩ : ∃ ρ, ρ = Sx.rho [⟨1, .i64, x1⟩] [] [] (Sx.envOf wt.Φ W rs) := ⟨_, rfl⟩
  have hz : ρ.z = Sx.envOf wt.Φ W rs := by rw [eρ]; rfl
  have hg : Sx.Gd wt.Φ ρ := by rw [eρ]; exact Sx.rho_gd ⟨hx1, trivial⟩ trivial odd_ok (fun r => by rw [hrs]; exact Nat.le_trans hg0.1 hg0.2.1)
  have hr : Sx.RomsOk roms W ρ := Sx.roms_one (rs := rs) (F := wt.Φ) (by rw [hrs]; exact ⟨rfl, rfl, by simp [ks0], hg0⟩) hz hgl
  by_cases z0 : l0 = 0
  · have := Sx.law_told told1 rfl (fun p hp => by cases hp) hg hr
    have e : (SV.denL ρ c1.pat).toArray = #[.slice a0 l0 k0, .int .i64 x1] := by
      have e1 : SV.denL ρ c1.pat = [SV.den ρ (.rom 0 (.lit 0) (.lit 0) none), .int .i64 x1] := by subst eρ; rfl
      rw [e1, Sx.den_rom0 hz 0 (by rw [hrs]; exact z0), hrs]
    rw [e] at this
    exact this
  · by_cases z1 : l0 = 1
    · have h1 : Holds ρ [.eq (.len (.rom 0)) (.lit 1)] := by
        rw [Sx.h_cons, Sx.d_eq, Sx.len_rom hz, hrs]; exact ⟨by show ((l0 : Nat) : Int) = 1; omega, by rw [Sx.h_nil]; trivial⟩
      have hx : ρ.i .i64 1 = x1 := by subst eρ; rfl
      have h2 : ∀ p : Sx.BE, p.den ρ = true → Holds ρ [.eq (.len (.rom 0)) (.lit 1), p] := fun p hp q hq => by
        rcases List.mem_cons.1 hq with rfl | hq
        · exact h1 _ (List.mem_singleton.2 rfl)
        · rw [List.mem_singleton.1 hq]; exact hp
      rcases (show x1 = 0 ∨ 1 ≤ x1 ∨ x1 ≤ -1 by omega) with z | z | z
      · have := Sx.law_told told2 rfl h1 hg hr
        have e : (SV.denL ρ c2.pat).toArray = #[.slice a0 l0 k0, .int .i64 x1] := by
          have e1 : SV.denL ρ c2.pat = [SV.den ρ (.rom 0 (.lit 0) (.len (.rom 0)) none), .int .i64 0] := rfl
          rw [e1, Sx.den_rom hz 0, hrs, z]
        rw [e] at this
        exact this
      · have := Sx.law_told told3 rfl (h2 _ (show (Sx.BE.le (.lit 1) (.var .i64 1)).den ρ = true by rw [Sx.d_le]; show (1 : Int) ≤ ρ.i .i64 1; omega)) hg hr
        have e : (SV.denL ρ c3.pat).toArray = #[.slice a0 l0 k0, .int .i64 x1] := by
          have e1 : SV.denL ρ c3.pat = [SV.den ρ (.rom 0 (.lit 0) (.len (.rom 0)) none), .int .i64 x1] := by subst eρ; rfl
          rw [e1, Sx.den_rom hz 0, hrs]
        rw [e] at this
        exact this
      · have := Sx.law_told told4 rfl (h2 _ (show (Sx.BE.le (.var .i64 1) (.lit (-1))).den ρ = true by rw [Sx.d_le]; show ρ.i .i64 1 ≤ (-1 : Int); omega)) hg hr
        have e : (SV.denL ρ c4.pat).toArray = #[.slice a0 l0 k0, .int .i64 x1] := by
          have e1 : SV.denL ρ c4.pat = [SV.den ρ (.rom 0 (.lit 0) (.len (.rom 0)) none), .int .i64 x1] := by subst eρ; rfl
          rw [e1, Sx.den_rom hz 0, hrs]
        rw [e] at this
        exact this
    · have := Sx.law_told told0 rfl (by show Holds ρ [.le (.lit 2) (.len (.rom 0))]; rw [Sx.h_cons, Sx.d_le, Sx.len_rom hz, hrs]; exact ⟨by show (2 : Int) ≤ ((l0 : Nat) : Int); omega, by rw [Sx.h_nil]; trivial⟩) hg hr
      have e : (SV.denL ρ c0.pat).toArray = #[.slice a0 l0 k0, .int .i64 x1] := by
        have e1 : SV.denL ρ c0.pat = [SV.den ρ (.rom 0 (.lit 0) (.len (.rom 0)) none), .int .i64 x1] := by subst eρ; rfl
        rw [e1, Sx.den_rom hz 0, hrs]
      rw [e] at this
      exact this

set_option maxRecDepth 100000 in
set_option maxHeartbeats 4000000 in
theorem lifted (os : Os) (started : os.Started) (H : Type) (enc : TypeId × Value → H) :
    ReturnsInHanded {} Tryd.checked os 6 .any (fun w args => (Rows.waitGrantsSpec.pre enc Tryd.prog Tryd.f6 [] false w args ∧ laidMetH Tryd.prog Rows.waitGrantsRow.laid w) ∧ sizedMet enc Tryd.prog Tryd.f6 (OpenSpec.ofChange Rows.waitGrantsSpec) false w args) (Rows.waitGrantsSpec.post enc Tryd.prog Tryd.f6 false true false false) := by
  refine returnsInHanded_of_change_and (C := Tryd.checked) (X := fun w _ => laidMetH Tryd.prog Rows.waitGrantsRow.laid w) (fun _ _ _ hh h => h.of_heap hh) own started (by kernel_rfl) Tryd.func6
    (ChangeSpec.witness_shaped (enc := enc) (C := Tryd.checked) (os := os) (X := fun w _ => laidMetH Tryd.prog Rows.waitGrantsRow.laid w) false (World.laidAll Tryd.prog os Rows.waitGrantsRow.laid) #[.slice none 0 0, .int .i64 0] 8 (World.laidAll_os _ _ _)
      (World.shaped_of_ZipB (by kernel_rfl) (by kernel_rfl)) (by kernel_rfl) (by kernel_rfl) (by kernel_rfl)
      (by rw [MakeChecks.laidMetH_plain _ _ _ (by kernel_rfl)]; exact laidMet_laidAll _ (by kernel_rfl) (by kernel_rfl))) ?_
  intro W base args ds gs before hval0 hW _ _ hL _
  have hval : ∀ (j : Nat) t v, Tryd.f6.params[j]? = some t → args[j]? = some v → Value.okWide Tryd.prog W .any base t v := hval0
  have hW' := hW
  obtain ⟨p, q, hA0, hV, rfl, hfz, hnd⟩ := hW
  obtain ⟨rfl, rfl⟩ := trodVars_none hV
  rw [List.append_nil] at hW'
  have hA : DataW.TrodAll enc Tryd.prog W 0 (fun _ => true) true Tryd.f6.params.toList args.toList ds p := hA0
  have hAk := hA
  rw [Tryd.params6] at hA hval
  obtain ⟨v0, vs0, d0, ds0, p0, q0, hargs, rfl, rfl, h0, r0⟩ := trodAll_cons hA
  obtain ⟨v1, vs1, d1, ds1, p1, q1, rfl, rfl, rfl, h1, r1⟩ := trodAll_cons r0
  obtain ⟨rfl, rfl, rfl⟩ := trodAll_nil r1
  obtain rfl : args = #[v0, v1] := by cases args; simp_all
  have hgl := wt.glob_of_laid hL
  obtain ⟨sa0, sl0, sc0, rfl, hg0⟩ := Sx.slice_good (ks := ks0) Tryd.underlying22 (by kernel_rfl) (by kernel_rfl) (Sx.cell_slice Tryd.underlying22 (hval 0 22 v0 rfl rfl)) h0
  obtain ⟨x1, rfl, hx1⟩ := cell_int Tryd.underlying3 (hval 1 3 v1 rfl rfl)
  refine (law x1 hx1 W hgl sa0 sl0 sc0 hg0).below.mono fun e W' ⟨he, hg⟩ => ?_
  subst he
  exact ⟨_, rfl, law_post (by kernel_rfl) (by kernel_rfl) rfl Tryd.underlying4 rfl hW' hAk rfl hg⟩

theorem row : Rows.WaitGrantsSaid :=
  OpenClaim.holds_of_wide 6 Tryd.f6 rfl rfl rfl rfl rfl rfl rfl ⟨rfl, rfl, rfl, rfl, rfl⟩ rfl rfl rfl rfl rfl (by kernel_rfl) Tryd.func6 (by kernel_rfl)
    (of_decide_eq_true (by kernel_rfl)) (by unfold Func.isWrapper; first | (rw [if_pos (by decide +kernel)]; kernel_rfl) | (rw [if_neg (by decide +kernel)]; exact ⟨rfl, rfl⟩))
    (fun os started H enc _ => lifted os started H enc)
set_option maxRecDepth 100000 in
theorem proved : Rows.WaitGrantsCardSaid :=
  Claim7.holds_tied_plain_at .later [] [.data] true (true, "265af66ad916a9b8aa456ba570da502ef0943f0145a639c026b6432c7bea3a61") false row (fun _ h => by cases h) (by kernel_rfl) (fun _ h => by cases h) waitGrants_row_tie rfl ⟨rfl, rfl⟩ (by kernel_rfl) rfl
    (fun f fn hf hfn => by
      obtain rfl : f = 6 := Option.some.inj ((show Tryd.prog.funcNamed "castellan/castellanlaw12.WaitGrants" = some 6 by kernel_rfl).symm.trans hf) |>.symm
      obtain rfl : fn = Tryd.f6 := (Option.some.inj (Tryd.func6.symm.trans hfn)).symm
      exact ⟨by kernel_rfl, fun j t ht => by
        rw [Tryd.params6] at ht
        have hm : t ∈ [3, 22] := by have := Array.mem_of_getElem? ht; simp at this ⊢; first | exact this | (rcases this with h | h <;> simp [h]) | (rcases this with h | h | h <;> simp [h]) | (rcases this with h | h | h | h <;> simp [h]) | omega
        have hall : ([3, 22].all fun u => !Tryd.prog.wantsStandIn u) = true := by kernel_rfl
        exact (show Tryd.prog.wantsStandIn t = false by simpa using List.all_eq_true.1 hall t hm)⟩)
    (by kernel_rfl)
end Go.Proofs.YteblnjgghbclpaaDoor.waitGrants

