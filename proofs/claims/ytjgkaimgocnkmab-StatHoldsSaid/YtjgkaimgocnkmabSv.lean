/- What is to be shown of a way: words for it. No condition. -/
import Derived.Test.YtjgkaimgocnkmabSl
set_option linter.unusedVariables false
set_option linter.unusedSimpArgs false
set_option linter.deprecated false
namespace Go.Proofs.Ytjgkaimgocnkmab.Sx
open Go
theorem all_nil {α : Type _} {f : α → Prop} : ∀ v ∈ ([] : List α), f v := fun v h => by cases h
theorem all_cons {α : Type _} {f : α → Prop} {a : α} {l : List α} (h : f a) (h2 : ∀ v ∈ l, f v) : ∀ v ∈ a :: l, f v := fun v hv => by
  rcases List.mem_cons.1 hv with rfl | hv
  · exact h
  · exact h2 v hv
theorem h_nil {ρ : Rho} : Holds ρ [] = True := by simp [Holds]
theorem h_cons {ρ : Rho} {p : BE} {l : List BE} : Holds ρ (p :: l) = (p.den ρ = true ∧ Holds ρ l) := by simp [Holds]
theorem d_le {ρ : Rho} {x y : IE} : ((BE.le x y).den ρ = true) = (x.den ρ ≤ y.den ρ) := by simp only [BE.den]; exact propext ⟨of_decide_eq_true, fun h => decide_eq_true h⟩
theorem d_eq {ρ : Rho} {x y : IE} : ((BE.eq x y).den ρ = true) = (x.den ρ = y.den ρ) := by simp only [BE.den]; exact propext ⟨of_decide_eq_true, fun h => decide_eq_true h⟩
theorem d_not {ρ : Rho} {x : BE} : ((BE.not x).den ρ = true) = ¬ (x.den ρ = true) := by simp [BE.den]
theorem d_and {ρ : Rho} {x y : BE} : ((BE.and x y).den ρ = true) = (x.den ρ = true ∧ y.den ρ = true) := by simp [BE.den]
theorem d_iff {ρ : Rho} {x y : BE} : ((BE.iff x y).den ρ = true) = (x.den ρ = y.den ρ) := by simp [BE.den]
theorem d_lit {ρ : Rho} {b : Bool} : (BE.lit b).den ρ = b := by simp only [BE.den]
theorem d_var {ρ : Rho} {n : Nat} : (BE.var n).den ρ = ρ.b n := by simp only [BE.den]
theorem d_cel {ρ : Rho} {l : LE} {i : IE} {j : Nat} : (BE.cel l i j).den ρ = boolV (celV (l.den ρ) (i.den ρ) j) := by simp only [BE.den]
theorem d_leq {ρ : Rho} {a b : LE} : ((BE.leq a b).den ρ = true) = (a.den ρ = b.den ρ) := by simp only [BE.den, eqV]; exact propext ⟨fun h => by simpa using h, fun h => by simpa using h⟩
theorem d_fn {ρ : Rho} {n : Nat} {a : AL} : (BE.fn n a).den ρ = ρ.z.F.b n (a.den ρ) := by simp only [BE.den]
/-- A call without templates: what is to be shown of each way's end. -/
def VD (T : Tab) (C : Cfg) : VW → Prop
  | .done pc (some gs) => ∀ ρ, Known T C ρ → Holds ρ pc → ∀ g ∈ gs, g.den ρ
  | _ => False
noncomputable def st0 (c : Ctr) : Cfg := startF c.f c.pat (.lit true :: c.pre)
theorem told_vw {F : Fns} {c : Ctr} {cs : List Ctr} (hcs : ∀ d ∈ cs, Told F d) (n : Nat) (vw : List VW) (hb : bodyB c.f = true) (hflat : ctrFlat c = true) (hnames : ctrNames c = true) (hpost : PostOk F c) (hok : cfgOk (st0 c) = true)
    (hseg : segL c.roms c (seg (T F c.roms cs) [] n [(0, st0 c)] (st0 c)) = (true, codesR [(0, st0 c)] (views (seg (T F c.roms cs) [] n [(0, st0 c)] (st0 c))), vw)) (hvc : ∀ v ∈ vw, VD (T F c.roms cs) (st0 c) v) : Told F c := by
  have e0 : ∀ k C, lk [(0, st0 c)] k = some C → C = st0 c := by
    intro k C hk
    rw [lk_cons, lk_nil] at hk
    split at hk
    · cases hk; rfl
    · cases hk
  refine told_of hcs (sel := []) n [(0, st0 c)] (fun _ _ => True) (fun _ _ => 0) (fun _ => vw) 0 hb hflat hnames hpost (fun k C hk => by rw [e0 k C hk]; exact hok) (fun k C hk => by rw [e0 k C hk]; exact hseg) (fun k C hk v hv => ?_) (by rw [lk_cons, if_pos rfl]; rfl) (fun ρ _ hp => hp.cons (p := .lit true) (by simp only [BE.den])) (fun _ _ _ _ => trivial) (fun k C hk ρ _ _ => by rw [e0 k C hk]; rw [show st0 c = startF c.f c.pat (.lit true :: c.pre) from rfl, flat_start hflat]; exact fun p hp => by cases hp)
  have := hvc v hv
  rw [e0 k C hk]
  cases v with
  | done pc g =>
    cases g with
    | none => exact this
    | some gs => exact fun ρ kn _ hp => this ρ kn hp
  | cut k pc S => exact absurd this id
  | bad a b => exact absurd this id
/-- A call that is told to answer true. -/
theorem law_told {F : Fns} {c : Ctr} (h : Told F c) (hres : c.res = .bool (.lit true)) {ρ : Rho} {w : World} (hpre : Holds ρ c.pre) (hg : Gd F ρ) (hr : RomsOk c.roms w ρ) : Calls Try.prog c.f (SV.denL ρ c.pat).toArray w fun e w' => e = .returned (.bool true) ∧ w.grownBy w' none := by
  refine (h.ok.call ρ w hg hr hpre).mono ?_
  rintro e w' ⟨ρ', _, he, hH⟩
  rw [hres] at he
  refine ⟨by rw [he]; simp only [SV.den, BE.den], hH.g0⟩
theorem den_rom {ρ : Rho} {F : Fns} {w : World} {rs : Nat → RSl} (hz : ρ.z = envOf F w rs) (r : Nat) : (SV.rom r (.lit 0) (.len (.rom r)) none).den ρ = .slice (rs r).a (rs r).len (rs r).cap := by
  simp only [SV.den, hz, envOf, IE.den, LE.den, lenV, rowOf, capDen, List.length_map, List.length_range, Int.toNat_natCast, Int.toNat_zero, Nat.zero_mul, Nat.sub_zero]
  cases (rs r).a <;> rfl
theorem den_rom0 {ρ : Rho} {F : Fns} {w : World} {rs : Nat → RSl} (hz : ρ.z = envOf F w rs) (r : Nat) (h0 : (rs r).len = 0) : (SV.rom r (.lit 0) (.lit 0) none).den ρ = .slice (rs r).a (rs r).len (rs r).cap := by
  simp only [SV.den, hz, envOf, IE.den, capDen, h0, Int.toNat_zero, Nat.zero_mul, Nat.sub_zero]
  cases (rs r).a <;> rfl
theorem len_rom {ρ : Rho} {F : Fns} {w : World} {rs : Nat → RSl} (hz : ρ.z = envOf F w rs) (r : Nat) : (IE.len (.rom r)).den ρ = ((rs r).len : Int) := by
  simp [IE.den, LE.den, lenV, hz, envOf, rowOf]
theorem roms_nil {w : World} {ρ : Rho} {F : Fns} (hF : ρ.z.F = F) (hgl : GlobOk F w := by exact Go.Proofs.Ytjgkaimgocnkmab.Sx.glob_nil rfl) : RomsOk [] w ρ := ⟨by rw [hF]; exact hgl, fun r esz cl h => by rw [lk_nil] at h; cases h⟩
theorem roms_one {w : World} {rs : Nat → RSl} {F : Fns} {esz : Nat} {ks : List CK} (h : (rs 0).ks = ks ∧ ks.length = esz ∧ ks ≠ [] ∧ RGood w (rs 0)) {ρ : Rho} (hz : ρ.z = envOf F w rs) (hgl : GlobOk F w := by exact Go.Proofs.Ytjgkaimgocnkmab.Sx.glob_nil rfl) : RomsOk [(0, (esz, ks))] w ρ := by
  refine roms_ok (rs := rs) (F := F) ?_ hz hgl
  intro r esz' ks' hr
  rw [lk_cons, lk_nil] at hr
  split at hr
  · rename_i e
    cases hr; subst e; exact h
  · cases hr
theorem roms_two {w : World} {rs : Nat → RSl} {F : Fns} {esz esz1 : Nat} {ks ks1 : List CK} (h : (rs 0).ks = ks ∧ ks.length = esz ∧ ks ≠ [] ∧ RGood w (rs 0)) (h1 : (rs 1).ks = ks1 ∧ ks1.length = esz1 ∧ ks1 ≠ [] ∧ RGood w (rs 1)) {ρ : Rho} (hz : ρ.z = envOf F w rs) (hgl : GlobOk F w := by exact Go.Proofs.Ytjgkaimgocnkmab.Sx.glob_nil rfl) : RomsOk [(0, (esz, ks)), (1, (esz1, ks1))] w ρ := by
  refine roms_ok (rs := rs) (F := F) ?_ hz hgl
  intro r esz' ks' hr
  rw [lk_cons, lk_cons, lk_nil] at hr
  split at hr
  · rename_i e
    cases hr; subst e; exact h
  · split at hr
    · rename_i e
      cases hr; subst e; exact h1
    · cases hr
end Go.Proofs.Ytjgkaimgocnkmab.Sx
