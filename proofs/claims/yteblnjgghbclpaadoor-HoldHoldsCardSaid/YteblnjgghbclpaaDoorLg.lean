/- The law HoldHolds returns true whatever it is given. No condition. -/
import Derived.Test.YteblnjgghbclpaaDoorYd
import Derived.Test.YteblnjgghbclpaaDoorTb
set_option linter.unusedSimpArgs false
set_option linter.unusedVariables false
set_option linter.deprecated false
namespace Go.Proofs.YteblnjgghbclpaaDoor.holdHolds
open Go
open Go.ChangeShapes Go.WideShapes Go.ChangeAt Go.RowKit Go.Joins
open Sx (kmin kmax Rho Same Holds SV CK)
open hold
noncomputable section
def ks0 : List CK := [.int .i64, .int .i64, .int .i64]
def roms : Sx.Roms := [(0, (3, ks0))]
def c0 : Sx.Ctr := hold.cHolds
def c1 : Sx.Ctr := hold.cHolds0
end
theorem told0 : Sx.Told hold.Φ c0 := hold.told_holds
theorem told1 : Sx.Told hold.Φ c1 := hold.told_holdsz
theorem law (W : World) (hgl : Sx.GlobOk hold.Φ W) (a0 : Option Addr) (l0 k0 : Nat) (hg0 : Sx.RGood W ⟨a0, l0, k0, ks0⟩) :
    Calls Tryd.prog 13 #[.slice a0 l0 k0] W fun e w' => e = .returned (.bool true) ∧ W.grownBy w' none := by
  obtain ⟨rs, hrs⟩ : ∃ rs : Nat → Sx.RSl, rs = fun _ => ⟨a0, l0, k0, ks0⟩ := ⟨_, rfl⟩
  obtain ⟨ρ, eρ⟩ : ∃ ρ, ρ = Sx.rho [] [] [] (Sx.envOf hold.Φ W rs) := ⟨_, rfl⟩
  have hz : ρ.z = Sx.envOf hold.Φ W rs := by rw [eρ]; rfl
  have hg : Sx.Gd hold.Φ ρ := by rw [eρ]; exact Sx.rho_gd trivial trivial odd_ok (fun r => by rw [hrs]; exact Nat.le_trans hg0.1 hg0.2.1)
  have hr : Sx.RomsOk roms W ρ := Sx.roms_one (rs := rs) (F := hold.Φ) (by rw [hrs]; exact ⟨rfl, rfl, by simp [ks0], hg0⟩) hz hgl
  have hn : (nilR).den ρ = true := by show ρ.z.F.b 4 [.lst []] = true; rw [hz]; rfl
  by_cases z0 : l0 = 0
  · have := Sx.law_told told1 rfl (by show Holds ρ [nilR]; rw [Sx.h_cons, Sx.h_nil]; exact ⟨hn, trivial⟩) hg hr
    have e : (SV.denL ρ c1.pat).toArray = #[.slice a0 l0 k0] := by
      have e1 : SV.denL ρ c1.pat = [SV.den ρ (.rom 0 (.lit 0) (.lit 0) none)] := by subst eρ; rfl
      rw [e1, Sx.den_rom0 hz 0 (by rw [hrs]; exact z0), hrs]
    rw [e] at this
    exact this
  · have := Sx.law_told told0 rfl (by show Holds ρ [nilR, .le (.lit 1) (.len (.rom 0))]; rw [Sx.h_cons, Sx.h_cons, Sx.d_le, Sx.len_rom hz, hrs]; exact ⟨hn, by show (1 : Int) ≤ ((l0 : Nat) : Int); omega, by rw [Sx.h_nil]; trivial⟩) hg hr
    have e : (SV.denL ρ c0.pat).toArray = #[.slice a0 l0 k0] := by
      have e1 : SV.denL ρ c0.pat = [SV.den ρ (.rom 0 (.lit 0) (.len (.rom 0)) none)] := by subst eρ; rfl
      rw [e1, Sx.den_rom hz 0, hrs]
    rw [e] at this
    exact this

set_option maxRecDepth 100000 in
set_option maxHeartbeats 4000000 in
theorem lifted (os : Os) (started : os.Started) (H : Type) (enc : TypeId × Value → H) :
    ReturnsInHanded {} Tryd.checked os 13 .any (fun w args => (Rows.holdHoldsSpec.pre enc Tryd.prog Tryd.f13 [] false w args ∧ laidMetH Tryd.prog Rows.holdHoldsRow.laid w) ∧ sizedMet enc Tryd.prog Tryd.f13 (OpenSpec.ofChange Rows.holdHoldsSpec) false w args) (Rows.holdHoldsSpec.post enc Tryd.prog Tryd.f13 false true false false) := by
  refine returnsInHanded_of_change_and (C := Tryd.checked) (X := fun w _ => laidMetH Tryd.prog Rows.holdHoldsRow.laid w) (fun _ _ _ hh h => h.of_heap hh) own started (by kernel_rfl) Tryd.func13
    (ChangeSpec.witness_shaped (enc := enc) (C := Tryd.checked) (os := os) (X := fun w _ => laidMetH Tryd.prog Rows.holdHoldsRow.laid w) false (World.laidAll Tryd.prog os Rows.holdHoldsRow.laid) #[.slice none 0 0] 8 (World.laidAll_os _ _ _)
      (World.shaped_of_ZipB (by kernel_rfl) (by kernel_rfl)) (by kernel_rfl) (by kernel_rfl) (by kernel_rfl)
      (by rw [MakeChecks.laidMetH_plain _ _ _ (by kernel_rfl)]; exact laidMet_laidAll _ (by kernel_rfl) (by kernel_rfl))) ?_
  intro W base args ds gs before hval0 hW _ _ hL _
  have hval : ∀ (j : Nat) t v, Tryd.f13.params[j]? = some t → args[j]? = some v → Value.okWide Tryd.prog W .any base t v := hval0
  have hW' := hW
  obtain ⟨p, q, hA0, hV, rfl, hfz, hnd⟩ := hW
  obtain ⟨rfl, rfl⟩ := trodVars_none hV
  rw [List.append_nil] at hW'
  have hA : DataW.TrodAll enc Tryd.prog W 0 (fun _ => true) true Tryd.f13.params.toList args.toList ds p := hA0
  have hAk := hA
  rw [Tryd.params13] at hA hval
  obtain ⟨v0, vs0, d0, ds0, p0, q0, hargs, rfl, rfl, h0, r0⟩ := trodAll_cons hA
  obtain ⟨rfl, rfl, rfl⟩ := trodAll_nil r0
  obtain rfl : args = #[v0] := by cases args; simp_all
  have hgl := hold.glob_of_laid hL
  obtain ⟨sa0, sl0, sc0, rfl, hg0⟩ := Sx.slice_good (ks := ks0) Tryd.underlying66 (by kernel_rfl) (by kernel_rfl) (Sx.cell_slice Tryd.underlying66 (hval 0 66 v0 rfl rfl)) h0
  refine (law W hgl sa0 sl0 sc0 hg0).below.mono fun e W' ⟨he, hg⟩ => ?_
  subst he
  exact ⟨_, rfl, law_post (by kernel_rfl) (by kernel_rfl) rfl Tryd.underlying4 rfl hW' hAk rfl hg⟩

theorem row : Rows.HoldHoldsSaid :=
  OpenClaim.holds_of_wide 13 Tryd.f13 rfl rfl rfl rfl rfl rfl rfl ⟨rfl, rfl, rfl, rfl, rfl⟩ rfl rfl rfl rfl rfl (by kernel_rfl) Tryd.func13 (by kernel_rfl)
    (of_decide_eq_true (by kernel_rfl)) (by unfold Func.isWrapper; first | (rw [if_pos (by decide +kernel)]; kernel_rfl) | (rw [if_neg (by decide +kernel)]; exact ⟨rfl, rfl⟩))
    (fun os started H enc _ => lifted os started H enc)
set_option maxRecDepth 100000 in
theorem proved : Rows.HoldHoldsCardSaid :=
  Claim7.holds_tied_plain_at .later [] [.data] true (true, "265af66ad916a9b8aa456ba570da502ef0943f0145a639c026b6432c7bea3a61") false row (fun _ h => by cases h) (by kernel_rfl) (fun _ h => by cases h) holdHolds_row_tie rfl ⟨rfl, rfl⟩ (by kernel_rfl) rfl
    (fun f fn hf hfn => by
      obtain rfl : f = 13 := Option.some.inj ((show Tryd.prog.funcNamed "castellan/castellanlaw13.HoldHolds" = some 13 by kernel_rfl).symm.trans hf) |>.symm
      obtain rfl : fn = Tryd.f13 := (Option.some.inj (Tryd.func13.symm.trans hfn)).symm
      exact ⟨by kernel_rfl, fun j t ht => by
        rw [Tryd.params13] at ht
        have hm : t ∈ [66] := by have := Array.mem_of_getElem? ht; simp at this ⊢; first | exact this | (rcases this with h | h <;> simp [h]) | (rcases this with h | h | h <;> simp [h]) | (rcases this with h | h | h | h <;> simp [h]) | omega
        have hall : ([66].all fun u => !Tryd.prog.wantsStandIn u) = true := by kernel_rfl
        exact (show Tryd.prog.wantsStandIn t = false by simpa using List.all_eq_true.1 hall t hm)⟩)
    (by kernel_rfl)
end Go.Proofs.YteblnjgghbclpaaDoor.holdHolds

