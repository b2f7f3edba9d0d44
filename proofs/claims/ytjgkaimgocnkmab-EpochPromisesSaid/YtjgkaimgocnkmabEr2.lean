/- The law EpochPromises returns true at every shape, every promise and every request. No condition. -/
import Derived.Test.YtjgkaimgocnkmabSe3
set_option linter.unusedSimpArgs false
set_option linter.unusedVariables false
namespace Go.Proofs.Ytjgkaimgocnkmab.promises
open Go.ChangeShapes Go.WideShapes Go.ChangeAt Go.RowKit Go.Joins
open Sx (kmin kmax Rho Same Holds OracOk)

theorem law (n l s a b c d : Int) (z : Bool) (hn : kmin .i64 ≤ n ∧ n ≤ kmax .i64) (hl : kmin .i64 ≤ l ∧ l ≤ kmax .i64) (hs : kmin .i64 ≤ s ∧ s ≤ kmax .i64) (ha : kmin .i64 ≤ a ∧ a ≤ kmax .i64) (hb : kmin .i64 ≤ b ∧ b ≤ kmax .i64) (hc : kmin .i64 ≤ c ∧ c ≤ kmax .i64) (hd : kmin .i64 ≤ d ∧ d ≤ kmax .i64) (W : World) :
    Calls Try.prog 9 #[.agg #[.int .i64 n, .int .i64 l, .int .i64 s], .agg #[.int .i64 a, .int .i64 b, .bool z], .agg #[.int .i64 c, .int .i64 d]] W fun e w' => e = .returned (.bool true) ∧ W.grownBy w' none := by
  have hσ : (Sx.rho [⟨1, .i64, n⟩, ⟨2, .i64, l⟩, ⟨3, .i64, s⟩, ⟨4, .i64, a⟩, ⟨5, .i64, b⟩, ⟨6, .i64, c⟩, ⟨7, .i64, d⟩] [false, z]).Ok := Sx.rho_ok ⟨hn, hl, hs, ha, hb, hc, hd, trivial⟩
  obtain ⟨ρ, eρ⟩ : ∃ ρ, ρ = (Sx.rho [⟨1, .i64, n⟩, ⟨2, .i64, l⟩, ⟨3, .i64, s⟩, ⟨4, .i64, a⟩, ⟨5, .i64, b⟩, ⟨6, .i64, c⟩, ⟨7, .i64, d⟩] [false, z]).at 50 Sx.shC := ⟨_, rfl⟩
  have hρ : ρ.Ok := eρ ▸ hσ.at _ _
  have h50 : ρ.b 50 = Sx.shC.den ρ := by subst eρ; rfl
  have := Sx.true_of (Sx.tabE_ok Sx.orE) Sx.law9 hρ (Sx.orE_ok ρ hρ h50 W) (fun p hp => by cases hp) rfl (World.grownBy.refl W none)
  subst eρ
  exact this

set_option maxRecDepth 100000 in
set_option maxHeartbeats 4000000 in
theorem lifted (os : Os) (started : os.Started) (H : Type) (enc : TypeId × Value → H) :
    ReturnsInHanded {} Try.checked os 9 .any (Rows.epochPromisesSpec.pre6 enc Try.prog Try.f9 Rows.epochPromisesRow.domain false) (Rows.epochPromisesSpec.post enc Try.prog Try.f9 false true false false) := by
  refine returnsInHanded_of_change (C := Try.checked) own started (by kernel_rfl) Try.func9
    (ChangeSpec.witness6 (enc := enc) (C := Try.checked) false ⟨#[], #[.agg #[.int .i64 0, .int .i64 0, .int .i64 0], .agg #[.int .i64 0, .int .i64 0, .bool false], .agg #[.int .i64 0, .int .i64 0]], []⟩ 8 (by kernel_rfl) (by kernel_rfl) (by kernel_rfl) (by kernel_rfl)) ?_
  intro W base args ds gs before hval0 hW hcnd _
  have hval : ∀ (j : Nat) t v, Try.f9.params[j]? = some t → args[j]? = some v → Value.okWide Try.prog W .any base t v := hval0
  have hW' := hW
  obtain ⟨p, q, hA0, hV, rfl, hfz, hnd⟩ := hW
  obtain ⟨rfl, rfl⟩ := trodVars_none hV
  rw [List.append_nil] at hW'
  have hA : DataW.TrodAll enc Try.prog W 0 (fun _ => true) true Try.f9.params.toList args.toList ds p := hA0
  have hAk := hA
  rw [Try.params9] at hA hval
  obtain ⟨v0, vs0, d0, ds0, p0, q0, hargs, rfl, rfl, h0, r0⟩ := trodAll_cons hA
  obtain ⟨v1, vs1, d1, ds1, p1, q1, rfl, rfl, rfl, h1, r1⟩ := trodAll_cons r0
  obtain ⟨v2, vs2, d2, ds2, p2, q2, rfl, rfl, rfl, h2, r2⟩ := trodAll_cons r1
  obtain ⟨rfl, rfl, rfl⟩ := trodAll_nil r2
  obtain rfl : args = #[v0, v1, v2] := by cases args; simp_all
  obtain ⟨ca, rfl, la, fa⟩ := open_flat (ts := [3, 3, 3]) (n := 3) Try.underlying23 rfl (by kernel_rfl) (by kernel_rfl) rfl (hval 0 23 v0 rfl rfl)
  obtain ⟨cb, rfl, lb, fb⟩ := open_flat (ts := [2, 3, 4]) (n := 3) Try.underlying72 rfl (by kernel_rfl) (by kernel_rfl) rfl (hval 1 72 v1 rfl rfl)
  obtain ⟨cc, rfl, lc, fc⟩ := open_flat (ts := [2, 3]) (n := 2) Try.underlying61 rfl (by kernel_rfl) (by kernel_rfl) rfl (hval 2 61 v2 rfl rfl)
  obtain ⟨a0, a1, a2, rfl⟩ := list3 la
  obtain ⟨b0, b1, b2, rfl⟩ := list3 lb
  obtain ⟨c0, c1, rfl⟩ := list2 lc
  obtain ⟨n, rfl, wn⟩ := cell_int Try.underlying3 (fa 0 a0 3 rfl rfl)
  obtain ⟨l, rfl, wl⟩ := cell_int Try.underlying3 (fa 1 a1 3 rfl rfl)
  obtain ⟨s, rfl, ws⟩ := cell_int Try.underlying3 (fa 2 a2 3 rfl rfl)
  obtain ⟨b, rfl, wb⟩ := cell_int Try.underlying2 (fb 0 b0 2 rfl rfl)
  obtain ⟨c, rfl, wc⟩ := cell_int Try.underlying3 (fb 1 b1 3 rfl rfl)
  obtain ⟨z, rfl⟩ := cell_bool Try.underlying4 (fb 2 b2 4 rfl rfl)
  obtain ⟨d, rfl, wd⟩ := cell_int Try.underlying2 (fc 0 c0 2 rfl rfl)
  obtain ⟨e, rfl, we⟩ := cell_int Try.underlying3 (fc 1 c1 3 rfl rfl)
  refine (law n l s b c d e z wn wl ws wb wc wd we W).below.mono fun e W' ⟨he, hg⟩ => ?_
  subst he
  exact ⟨_, rfl, law_post (by kernel_rfl) (by kernel_rfl) rfl Try.underlying4 rfl hW' hAk rfl hg⟩

theorem proved : Rows.EpochPromisesSaid :=
  OpenClaim.holds_of_wide 9 Try.f9 rfl rfl rfl rfl rfl rfl rfl ⟨rfl, rfl, rfl, rfl, rfl⟩ rfl rfl rfl rfl rfl (by kernel_rfl) Try.func9 (by kernel_rfl)
    (of_decide_eq_true (by kernel_rfl)) (by unfold Func.isWrapper; first | (rw [if_pos (by decide +kernel)]; kernel_rfl) | (rw [if_neg (by decide +kernel)]; exact ⟨rfl, rfl⟩))
    (fun os started H enc _ => lifted os started H enc)
end Go.Proofs.Ytjgkaimgocnkmab.promises
