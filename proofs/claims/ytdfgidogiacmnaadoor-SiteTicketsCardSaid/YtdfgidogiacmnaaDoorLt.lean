/- The law SiteTickets returns true whatever it is given. No condition. -/
import Derived.Test.YtdfgidogiacmnaaDoorVe
import Derived.OpenShut
import Derived.ChangeArms
import Derived.LaidHandle
import Derived.LaidLaws
import Derived.Test.YtdfgidogiacmnaaDoorTie
import Derived.Test.YtdfgidogiacmnaaDoorCards
import Derived.Lay
import Derived.SevenTiedAt
set_option linter.unusedSimpArgs false
set_option linter.unusedVariables false
set_option linter.deprecated false
namespace Go.Proofs.YtdfgidogiacmnaaDoor.siteTickets
open Go
open Go.ChangeShapes Go.WideShapes Go.ChangeAt Go.RowKit Go.Joins
open Sx (kmin kmax Rho Same Holds SV CK)
open sih
noncomputable section
def roms : Sx.Roms := []
def c0 : Sx.Ctr := sih.cTickets
end
theorem told0 : Sx.Told sih.Φ c0 := sih.told_vtickets
theorem law (x1 x2 x3 x4 x5 x6 x7 : Int)  (hx1 : kmin .i64 ≤ x1 ∧ x1 ≤ kmax .i64) (hx2 : kmin .i64 ≤ x2 ∧ x2 ≤ kmax .i64) (hx3 : kmin .i64 ≤ x3 ∧ x3 ≤ kmax .i64) (hx4 : kmin .i64 ≤ x4 ∧ x4 ≤ kmax .i64) (hx5 : kmin .i64 ≤ x5 ∧ x5 ≤ kmax .i64) (hx6 : kmin .i64 ≤ x6 ∧ x6 ≤ kmax .i64) (hx7 : kmin .i64 ≤ x7 ∧ x7 ≤ kmax .i64) (W : World) (hgl : Sx.GlobOk sih.Φ W)  :
    Calls Tryd.prog 4 #[.agg #[.int .i64 x1, .int .i64 x2, .int .i64 x3], .agg #[.int .i64 x4, .int .i64 x5, .int .i64 x6, .int .i64 x7]] W fun e w' => e = .returned (.bool true) ∧ W.grownBy w' none := by
  obtain ⟨rs, hrs⟩ : ∃ rs : Nat → Sx.RSl, rs = fun _ => Sx.RSl.none := ⟨_, rfl⟩
  obtain ⟨ρ, eρ⟩ : ∃ ρ, ρ = Sx.rho [⟨1, .i64, x1⟩, ⟨2, .i64, x2⟩, ⟨3, .i64, x3⟩, ⟨4, .i64, x4⟩, ⟨5, .i64, x5⟩, ⟨6, .i64, x6⟩, ⟨7, .i64, x7⟩] [] [] (Sx.envOf sih.Φ W rs) := ⟨_, rfl⟩
  have hz : ρ.z = Sx.envOf sih.Φ W rs := by rw [eρ]; rfl
  have hg : Sx.Gd sih.Φ ρ := by rw [eρ]; exact Sx.rho_gd ⟨hx1, hx2, hx3, hx4, hx5, hx6, hx7, trivial⟩ trivial odd_ok (fun r => by rw [hrs]; exact Nat.zero_le _)
  have hr : Sx.RomsOk roms W ρ := Sx.roms_nil (F := sih.Φ) hg.F hgl
  have := Sx.law_told told0 rfl (fun p hp => by cases hp) hg hr
  subst eρ
  exact this

set_option maxRecDepth 100000 in
set_option maxHeartbeats 4000000 in
theorem lifted (os : Os) (started : os.Started) (H : Type) (enc : TypeId × Value → H) :
    ReturnsInHanded {} Tryd.checked os 4 .any (fun w args => (Rows.siteTicketsSpec.pre enc Tryd.prog Tryd.f4 [] false w args ∧ laidMetH Tryd.prog Rows.siteTicketsRow.laid w) ∧ sizedMet enc Tryd.prog Tryd.f4 (OpenSpec.ofChange Rows.siteTicketsSpec) false w args) (Rows.siteTicketsSpec.post enc Tryd.prog Tryd.f4 false true false false) := by
  refine returnsInHanded_of_change_and (C := Tryd.checked) (X := fun w _ => laidMetH Tryd.prog Rows.siteTicketsRow.laid w) (fun _ _ _ hh h => h.of_heap hh) own started (by kernel_rfl) Tryd.func4
    (ChangeSpec.witness_shaped (enc := enc) (C := Tryd.checked) (os := os) (X := fun w _ => laidMetH Tryd.prog Rows.siteTicketsRow.laid w) false (World.laidAll Tryd.prog os Rows.siteTicketsRow.laid) #[.agg #[.int .i64 0, .int .i64 0, .int .i64 0], .agg #[.int .i64 0, .int .i64 0, .int .i64 0, .int .i64 0]] 8 (World.laidAll_os _ _ _)
      (World.shaped_of_ZipB (by kernel_rfl) (by kernel_rfl)) (by kernel_rfl) (by kernel_rfl) (by kernel_rfl)
      (by rw [MakeChecks.laidMetH_plain _ _ _ (by kernel_rfl)]; exact laidMet_laidAll _ (by kernel_rfl) (by kernel_rfl))) ?_
  intro W base args ds gs before hval0 hW _ _ hL _
  have hval : ∀ (j : Nat) t v, Tryd.f4.params[j]? = some t → args[j]? = some v → Value.okWide Tryd.prog W .any base t v := hval0
  have hW' := hW
  obtain ⟨p, q, hA0, hV, rfl, hfz, hnd⟩ := hW
  obtain ⟨rfl, rfl⟩ := trodVars_none hV
  rw [List.append_nil] at hW'
  have hA : DataW.TrodAll enc Tryd.prog W 0 (fun _ => true) true Tryd.f4.params.toList args.toList ds p := hA0
  have hAk := hA
  rw [Tryd.params4] at hA hval
  obtain ⟨v0, vs0, d0, ds0, p0, q0, hargs, rfl, rfl, h0, r0⟩ := trodAll_cons hA
  obtain ⟨v1, vs1, d1, ds1, p1, q1, rfl, rfl, rfl, h1, r1⟩ := trodAll_cons r0
  obtain ⟨rfl, rfl, rfl⟩ := trodAll_nil r1
  obtain rfl : args = #[v0, v1] := by cases args; simp_all
  have hgl := sih.glob_of_laid hL
  obtain ⟨c0, rfl, l0, f0⟩ := open_flat (ts := [3, 3, 3]) (n := 3) Tryd.underlying23 rfl (by kernel_rfl) (by kernel_rfl) rfl (hval 0 23 v0 rfl rfl)
  obtain ⟨u0_0, u0_1, u0_2, rfl⟩ := list3 l0
  obtain ⟨x1, rfl, hx1⟩ := cell_int Tryd.underlying3 (f0 0 u0_0 3 rfl rfl)
  obtain ⟨x2, rfl, hx2⟩ := cell_int Tryd.underlying3 (f0 1 u0_1 3 rfl rfl)
  obtain ⟨x3, rfl, hx3⟩ := cell_int Tryd.underlying3 (f0 2 u0_2 3 rfl rfl)
  obtain ⟨c1, rfl, l1, f1⟩ := open_flat (ts := [3, 3, 3, 2]) (n := 4) Tryd.underlying38 rfl (by kernel_rfl) (by kernel_rfl) rfl (hval 1 38 v1 rfl rfl)
  obtain ⟨u1_0, u1_1, u1_2, u1_3, rfl⟩ := list4 l1
  obtain ⟨x4, rfl, hx4⟩ := cell_int Tryd.underlying3 (f1 0 u1_0 3 rfl rfl)
  obtain ⟨x5, rfl, hx5⟩ := cell_int Tryd.underlying3 (f1 1 u1_1 3 rfl rfl)
  obtain ⟨x6, rfl, hx6⟩ := cell_int Tryd.underlying3 (f1 2 u1_2 3 rfl rfl)
  obtain ⟨x7, rfl, hx7⟩ := cell_int Tryd.underlying2 (f1 3 u1_3 2 rfl rfl)
  refine (law x1 x2 x3 x4 x5 x6 x7 hx1 hx2 hx3 hx4 hx5 hx6 hx7 W hgl ).below.mono fun e W' ⟨he, hg⟩ => ?_
  subst he
  exact ⟨_, rfl, law_post (by kernel_rfl) (by kernel_rfl) rfl Tryd.underlying4 rfl hW' hAk rfl hg⟩

theorem row : Rows.SiteTicketsSaid :=
  OpenClaim.holds_of_wide 4 Tryd.f4 rfl rfl rfl rfl rfl rfl rfl ⟨rfl, rfl, rfl, rfl, rfl⟩ rfl rfl rfl rfl rfl (by kernel_rfl) Tryd.func4 (by kernel_rfl)
    (of_decide_eq_true (by kernel_rfl)) (by unfold Func.isWrapper; first | (rw [if_pos (by decide +kernel)]; kernel_rfl) | (rw [if_neg (by decide +kernel)]; exact ⟨rfl, rfl⟩))
    (fun os started H enc _ => lifted os started H enc)
set_option maxRecDepth 100000 in
theorem proved : Rows.SiteTicketsCardSaid :=
  Claim7.holds_tied_plain_at .later [] [.data, .data, .data, .data, .sentinel, .sentinel, .pinned] true (true, "1cf5277cad608c87291bedea4a357ce7f5425518c762556e15a3956f5addc105") true row (fun _ h => by cases h) (by kernel_rfl) (fun _ h => by cases h) siteTickets_row_tie rfl ⟨rfl, rfl⟩ (by kernel_rfl) rfl
    (fun f fn hf hfn => by
      obtain rfl : f = 4 := Option.some.inj ((show Tryd.prog.funcNamed "castellan/castellanlaw05.SiteTickets" = some 4 by kernel_rfl).symm.trans hf) |>.symm
      obtain rfl : fn = Tryd.f4 := (Option.some.inj (Tryd.func4.symm.trans hfn)).symm
      exact ⟨by kernel_rfl, fun j t ht => by
        rw [Tryd.params4] at ht
        have hm : t ∈ [23, 38] := by have := Array.mem_of_getElem? ht; simp at this ⊢; first | exact this | (rcases this with h | h <;> simp [h]) | (rcases this with h | h | h <;> simp [h]) | (rcases this with h | h | h | h <;> simp [h]) | omega
        have hall : ([23, 38].all fun u => !Tryd.prog.wantsStandIn u) = true := by kernel_rfl
        exact (show Tryd.prog.wantsStandIn t = false by simpa using List.all_eq_true.1 hall t hm)⟩)
    (by kernel_rfl)
end Go.Proofs.YtdfgidogiacmnaaDoor.siteTickets

