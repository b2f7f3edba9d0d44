/- The law EpochHolds returns true whatever it is given. No condition. -/
import Derived.Test.YtjgkaimgocnkmabTs0
import Derived.Test.YtjgkaimgocnkmabTs1
import Derived.Test.YtjgkaimgocnkmabTs2
import Derived.Test.YtjgkaimgocnkmabTg3
import Derived.Test.YtjgkaimgocnkmabSl
set_option linter.unusedSimpArgs false
set_option linter.unusedVariables false
namespace Go.Proofs.Ytjgkaimgocnkmab.epochHolds
open Go
open Go.ChangeShapes Go.WideShapes Go.ChangeAt Go.RowKit Go.Joins
open Sx (kmin kmax Rho Same Holds OracOk SV CK)
theorem oks : ∀ k C, Sx.lk tm k = some C → Sx.cfgOk C = true := by
  intro k C h
  have := Sx.lk_mem h
  simp only [tm, List.mem_cons, Prod.mk.injEq, List.not_mem_nil, or_false] at this
  rcases this with ⟨_, rfl⟩ | ⟨_, rfl⟩ | ⟨_, rfl⟩ | ⟨_, rfl⟩ | ⟨_, rfl⟩ | ⟨_, rfl⟩ | ⟨_, rfl⟩ | ⟨_, rfl⟩ | ⟨_, rfl⟩ | ⟨_, rfl⟩ | ⟨_, rfl⟩ | ⟨_, rfl⟩
  · exact ok1
  · exact ok2
  · exact ok3
  · exact okS0
  · exact okS1
  · exact okS2
  · exact okS3
  · exact okS4
  · exact okS5
  · exact okS6
  · exact okS7
  · exact okS8
theorem segs : ∀ k C, Sx.lk tm k = some C → Sx.segL T sel 20000 tm m k C = Sx.segR T sel 20000 tm C := by
  intro k C h
  have := Sx.lk_mem h
  simp only [tm, List.mem_cons, Prod.mk.injEq, List.not_mem_nil, or_false] at this
  rcases this with ⟨rfl, rfl⟩ | ⟨rfl, rfl⟩ | ⟨rfl, rfl⟩ | ⟨rfl, rfl⟩ | ⟨rfl, rfl⟩ | ⟨rfl, rfl⟩ | ⟨rfl, rfl⟩ | ⟨rfl, rfl⟩ | ⟨rfl, rfl⟩ | ⟨rfl, rfl⟩ | ⟨rfl, rfl⟩ | ⟨rfl, rfl⟩
  · exact seg1
  · exact seg2
  · exact seg3
  · exact segS0
  · exact segS1
  · exact segS2
  · exact segS3
  · exact segS4
  · exact segS5
  · exact segS6
  · exact segS7
  · exact segS8
def ks : List CK := [.bool, .int .i64, .int .i64]
theorem rom_is : Sx.romT [(0, ks)] = rom := by rfl
theorem start_is : ∃ F c, T.fn.get 11 = some F ∧ F.body = some c ∧ ∀ pc, startC pc = Sx.start F c 11 args pc := by
  have h : (T.fn.get 11) = some Try.f11 := by kernel_rfl
  have hb : ∃ c, Try.f11.body = some c := by
    cases hc : Try.f11.body with
    | some c => exact ⟨c, rfl⟩
    | none => have : Try.f11.body.isSome = true := by kernel_rfl
              rw [hc] at this; cases this
  obtain ⟨c, hc⟩ := hb
  refine ⟨_, c, h, hc, fun pc => ?_⟩
  have hB : B = c := by unfold B Sx.bodyOf; rw [h]; simp only [hc]
  unfold startC
  rw [h]
  simp only [hB]
/-- Of a slice that is there. -/
theorem law_rom (x1 x2 x3 x4 x5 x6 x7 x8 x9 : Int) (h1 : kmin .i64 ≤ x1 ∧ x1 ≤ kmax .i64) (h2 : kmin .i64 ≤ x2 ∧ x2 ≤ kmax .i64) (h3 : kmin .i64 ≤ x3 ∧ x3 ≤ kmax .i64) (h4 : kmin .i64 ≤ x4 ∧ x4 ≤ kmax .i64) (h5 : kmin .i64 ≤ x5 ∧ x5 ≤ kmax .i64) (h6 : kmin .i64 ≤ x6 ∧ x6 ≤ kmax .i64) (h7 : kmin .i64 ≤ x7 ∧ x7 ≤ kmax .i64) (h8 : kmin .i64 ≤ x8 ∧ x8 ≤ kmax .i64) (h9 : kmin .i64 ≤ x9 ∧ x9 ≤ kmax .i64) (W : World) (a : Option Addr) (len cap : Nat) (hg : Sx.RGood W ⟨a, len, cap, ks⟩) :
    Calls Try.prog 11 #[.agg #[.int .i64 x1, .int .i64 x2, .int .i64 x3], .agg #[.int .i64 x4, .int .i64 x5, .int .i64 x6, .int .i64 x7, .int .i64 x8, .int .i64 x9], .slice a len cap] W fun e w' => e = .returned (.bool true) ∧ W.grownBy w' none := by
  obtain ⟨rs, hrs⟩ : ∃ rs : Nat → Sx.RSl, rs = fun _ => ⟨a, len, cap, ks⟩ := ⟨_, rfl⟩
  obtain ⟨ρ, eρ⟩ : ∃ ρ, ρ = Sx.rhoZ [⟨1, .i64, x1⟩, ⟨2, .i64, x2⟩, ⟨3, .i64, x3⟩, ⟨4, .i64, x4⟩, ⟨5, .i64, x5⟩, ⟨6, .i64, x6⟩, ⟨7, .i64, x7⟩, ⟨8, .i64, x8⟩, ⟨9, .i64, x9⟩] [] (Sx.envOf W rs) := ⟨_, rfl⟩
  have hρ : ρ.Ok := by rw [eρ]; exact Sx.rhoZ_ok ⟨h1, h2, h3, h4, h5, h6, h7, h8, h9, trivial⟩ (fun r => by rw [hrs]; exact Nat.le_trans hg.1 hg.2.1)
  have hz : ρ.z = Sx.envOf W rs := by rw [eρ]; rfl
  obtain ⟨F, c, hF, hc, h0⟩ := start_is
  have hO : ∀ σ : Rho, σ.Ok → σ.z = ρ.z → OracOk Try.prog W T.orac σ := by
    intro σ hσ hσz
    refine ⟨Sx.orW_l σ hσ W, ?_⟩
    show Sx.RomOk ⟨Sx.orW, rom⟩ W σ
    rw [← rom_is]
    refine Sx.rom_ok (rs := rs) (fun r k hr => ?_) (hσz.trans hz)
    rw [Sx.lk_cons, Sx.lk_nil] at hr
    split at hr
    · cases hr; rw [hrs]; exact ⟨rfl, by decide, by decide, hg⟩
    · cases hr
  obtain ⟨i, hi9, hi⟩ : ∃ i, i < 9 ∧ Holds ρ (pc0 i) := by
    have o3 : ∀ x y : Sx.IE, ∃ j, j < 3 ∧ Holds ρ (ord3 x y j) := by
      intro x y
      rcases Int.lt_trichotomy (x.den ρ) (y.den ρ) with h | h | h
      · exact ⟨0, by decide, Sx.Holds.cons (fun p hp => by cases hp) (by rw [Sx.den_not, Sx.den_le_f.2 (by omega)]; rfl)⟩
      · exact ⟨1, by decide, Sx.Holds.cons (Sx.Holds.cons (fun p hp => by cases hp) (Sx.den_le_t.2 (by omega))) (Sx.den_le_t.2 (by omega))⟩
      · exact ⟨2, by decide, Sx.Holds.cons (fun p hp => by cases hp) (by rw [Sx.den_not, Sx.den_le_f.2 (by omega)]; rfl)⟩
    obtain ⟨a, ha, h1⟩ := o3 (Sx.xv 4) (Sx.xv 6)
    obtain ⟨b, hb, h2⟩ := o3 (Sx.xv 6) (Sx.xv 8)
    refine ⟨3 * a + b, by omega, ?_⟩
    intro p hp
    rw [pc0, show (3 * a + b) / 3 = a by omega, show (3 * a + b) % 3 = b by omega] at hp
    rcases List.mem_append.1 hp with hp | hp
    · rcases List.mem_cons.1 hp with rfl | hp
      · rfl
      · exact h1 p hp
    · exact h2 p hp
  have hk : Sx.lk tm (10 + i) = some (Sx.start F c 11 args (pc0 i)) := by
    rw [← h0]
    have : i = 0 ∨ i = 1 ∨ i = 2 ∨ i = 3 ∨ i = 4 ∨ i = 5 ∨ i = 6 ∨ i = 7 ∨ i = 8 := by omega
    rcases this with rfl | rfl | rfl | rfl | rfl | rfl | rfl | rfl | rfl <;> rfl
  have := Sx.drive_call (Sx.tab_ok' Sx.orW rom) 20000 tm m oks segs (w := W) hρ hO (pc := pc0 i) (k0 := 10 + i) hF hc hk hi rfl
  have e : (SV.denL ρ args).toArray = #[.agg #[.int .i64 x1, .int .i64 x2, .int .i64 x3], .agg #[.int .i64 x4, .int .i64 x5, .int .i64 x6, .int .i64 x7, .int .i64 x8, .int .i64 x9], .slice a len cap] := by
    subst eρ
    subst hrs
    cases a <;> rfl
  rw [e] at this
  exact this
set_option maxRecDepth 100000 in
set_option maxHeartbeats 4000000 in
theorem lifted (os : Os) (started : os.Started) (H : Type) (enc : TypeId × Value → H) :
    ReturnsInHanded {} Try.checked os 11 .any (Rows.epochHoldsSpec.pre6 enc Try.prog Try.f11 Rows.epochHoldsRow.domain false) (Rows.epochHoldsSpec.post enc Try.prog Try.f11 false true false false) := by
  refine returnsInHanded_of_change (C := Try.checked) own started (by kernel_rfl) Try.func11
    (ChangeSpec.witness6 (enc := enc) (C := Try.checked) false ⟨#[], #[.agg #[.int .i64 0, .int .i64 0, .int .i64 0], .agg #[.int .i64 0, .int .i64 0, .int .i64 0, .int .i64 0, .int .i64 0, .int .i64 0], .slice none 0 0], []⟩ 8 (by kernel_rfl) (by kernel_rfl) (by kernel_rfl) (by kernel_rfl)) ?_
  intro W base args ds gs before hval0 hW hcnd _
  have hval : ∀ (j : Nat) t v, Try.f11.params[j]? = some t → args[j]? = some v → Value.okWide Try.prog W .any base t v := hval0
  have hW' := hW
  obtain ⟨p, q, hA0, hV, rfl, hfz, hnd⟩ := hW
  obtain ⟨rfl, rfl⟩ := trodVars_none hV
  rw [List.append_nil] at hW'
  have hA : DataW.TrodAll enc Try.prog W 0 (fun _ => true) true Try.f11.params.toList args.toList ds p := hA0
  have hAk := hA
  rw [Try.params11] at hA hval
  obtain ⟨v0, vs0, d0, ds0, p0, q0, hargs, rfl, rfl, h0, r0⟩ := trodAll_cons hA
  obtain ⟨v1, vs1, d1, ds1, p1, q1, rfl, rfl, rfl, h1, r1⟩ := trodAll_cons r0
  obtain ⟨v2, vs2, d2, ds2, p2, q2, rfl, rfl, rfl, h2, r2⟩ := trodAll_cons r1
  obtain ⟨rfl, rfl, rfl⟩ := trodAll_nil r2
  obtain rfl : args = #[v0, v1, v2] := by cases args; simp_all
  obtain ⟨c0, rfl, l0, f0⟩ := open_flat (ts := [3, 3, 3]) (n := 3) Try.underlying23 rfl (by kernel_rfl) (by kernel_rfl) rfl (hval 0 23 v0 rfl rfl)
  obtain ⟨u0_0, u0_1, u0_2, rfl⟩ := list3 l0
  obtain ⟨c1, rfl, l1, f1⟩ := open_flat (ts := [2, 3, 2, 3, 2, 3]) (n := 6) Try.underlying85 rfl (by kernel_rfl) (by kernel_rfl) rfl (hval 1 85 v1 rfl rfl)
  obtain ⟨u1_0, u1_1, u1_2, u1_3, u1_4, u1_5, rfl⟩ := list6 l1
  obtain ⟨x1, rfl, hx1⟩ := cell_int Try.underlying3 (f0 0 u0_0 3 rfl rfl)
  obtain ⟨x2, rfl, hx2⟩ := cell_int Try.underlying3 (f0 1 u0_1 3 rfl rfl)
  obtain ⟨x3, rfl, hx3⟩ := cell_int Try.underlying3 (f0 2 u0_2 3 rfl rfl)
  obtain ⟨x4, rfl, hx4⟩ := cell_int Try.underlying2 (f1 0 u1_0 2 rfl rfl)
  obtain ⟨x5, rfl, hx5⟩ := cell_int Try.underlying3 (f1 1 u1_1 3 rfl rfl)
  obtain ⟨x6, rfl, hx6⟩ := cell_int Try.underlying2 (f1 2 u1_2 2 rfl rfl)
  obtain ⟨x7, rfl, hx7⟩ := cell_int Try.underlying3 (f1 3 u1_3 3 rfl rfl)
  obtain ⟨x8, rfl, hx8⟩ := cell_int Try.underlying2 (f1 4 u1_4 2 rfl rfl)
  obtain ⟨x9, rfl, hx9⟩ := cell_int Try.underlying3 (f1 5 u1_5 3 rfl rfl)
  obtain ⟨sa, sl, sc, rfl, hg⟩ := Sx.slice_good (ks := ks) Try.underlying86 (by kernel_rfl) (by kernel_rfl) (Sx.cell_slice Try.underlying86 (hval 2 86 v2 rfl rfl)) h2
  refine (law_rom x1 x2 x3 x4 x5 x6 x7 x8 x9 hx1 hx2 hx3 hx4 hx5 hx6 hx7 hx8 hx9 W sa sl sc hg).below.mono fun e W' ⟨he, hg⟩ => ?_
  subst he
  exact ⟨_, rfl, law_post (by kernel_rfl) (by kernel_rfl) rfl Try.underlying4 rfl hW' hAk rfl hg⟩

theorem proved : Rows.EpochHoldsSaid :=
  OpenClaim.holds_of_wide 11 Try.f11 rfl rfl rfl rfl rfl rfl rfl ⟨rfl, rfl, rfl, rfl, rfl⟩ rfl rfl rfl rfl rfl (by kernel_rfl) Try.func11 (by kernel_rfl)
    (of_decide_eq_true (by kernel_rfl)) (by unfold Func.isWrapper; first | (rw [if_pos (by decide +kernel)]; kernel_rfl) | (rw [if_neg (by decide +kernel)]; exact ⟨rfl, rfl⟩))
    (fun os started H enc _ => lifted os started H enc)
end Go.Proofs.Ytjgkaimgocnkmab.epochHolds
