/- A reckoner of Go's small steps over letters: what a region's operations do in the order of the text. No condition. -/
import Derived.Test.YtjgkaimgocnkmabSp9
set_option linter.unusedVariables false
set_option linter.unusedSimpArgs false
set_option linter.deprecated false
namespace Go.Proofs.Ytjgkaimgocnkmab.Sx
open Go

mutual
theorem SV.den_eq {ρ ρ' : Rho} (h : Same ρ ρ') : ∀ (v : SV), (∀ n ∈ v.names, ρ'.a n = ρ.a n) → v.den ρ' = v.den ρ
  | .bool b, _ => by simp [SV.den, BE.den_same h]
  | .int k e, _ => by simp [SV.den, IE.den_same h]
  | .ptr n off, hn => by simp [SV.den, hn n (by simp [SV.names])]
  | .slice n off len cap, hn => by simp [SV.den, hn n (by simp [SV.names])]
  | .func fn f c, hn => by
    have hf : fnDen ρ' fn = fnDen ρ fn := by
      cases fn <;> simp [fnDen]
      exact hn _ (by simp [SV.names])
    have h1 := SV.denL_same h f (fun n hm => hn n (by cases fn <;> simp [SV.names, hm]))
    have h2 := SV.denL_same h c (fun n hm => hn n (by cases fn <;> simp [SV.names, hm]))
    simp [SV.den, hf, h1, h2]
  | .iface t v, hn => by simp [SV.den, SV.den_eq h v (fun n hm => hn n (by simpa [SV.names] using hm))]
  | .agg cs, hn => by simp [SV.den, SV.denL_same h cs (fun n hm => hn n (by simpa [SV.names] using hm))]
  | .tup vs, hn => by simp [SV.den, SV.denL_same h vs (fun n hm => hn n (by simpa [SV.names] using hm))]
  | .opq n, _ => by simp [SV.den, h.v]
  | .const v, _ => by simp [SV.den]
  | .str bs, _ => by
    have : bs.map (IE.den ρ') = bs.map (IE.den ρ) := List.map_congr_left fun e _ => IE.den_same h e
    simp [SV.den, this]
  | .sl n cn sz off len, hn => by simp [SV.den, hn n (by simp [SV.names]), hn cn (by simp [SV.names])]
  | .rom r off len cap, _ => by simp [SV.den, h.z, IE.den_same h, capDen_same h]
  | .rptr r i c, _ => by simp [SV.den, h.z, IE.den_same h]
  | .sll n cn sz off len cap, hn => by simp [SV.den, hn n (by simp [SV.names]), hn cn (by simp [SV.names]), IE.den_same h, capDen_same h]
  | .lptr n sz i c, hn => by simp [SV.den, hn n (by simp [SV.names]), IE.den_same h]
  | .lstr l, _ => by simp [SV.den, LE.den_same h]
  | .cel l i j, _ => by simp [SV.den, LE.den_same h, IE.den_same h]
theorem SV.denL_same {ρ ρ' : Rho} (h : Same ρ ρ') : ∀ (l : List SV), (∀ n ∈ SV.namesL l, ρ'.a n = ρ.a n) → SV.denL ρ' l = SV.denL ρ l
  | [], _ => rfl
  | v :: l, hn => by
    rw [SV.denL, SV.denL, SV.den_eq h v (fun n hm => hn n (by simp [SV.namesL, hm])), SV.denL_same h l (fun n hm => hn n (by simp [SV.namesL, hm]))]
end
theorem OracOk.same {P : Program} {b0 : World} {l : Orc} {ρ ρ' : Rho} (g : Same ρ ρ') (h : OracOk P b0 l ρ) : OracOk P b0 l ρ' := by
  refine ⟨?_, h.rom.eqz g.z, by rw [g.z]; exact h.F, h.ctr⟩
  intro o ho
  obtain ⟨⟨n1, n2, n3⟩, hc⟩ := h.l o ho
  refine ⟨⟨n1, n2, n3⟩, fun W hW => ?_⟩
  have e1 := SV.denL_same g o.args (by rw [n1]; simp)
  have e2 : (if o.c.den ρ' then o.yes else o.no).den ρ' = (if o.c.den ρ then o.yes else o.no).den ρ := by
    rw [BE.den_same g]
    apply SV.den_eq g
    split <;> simp [n2, n3]
  rw [e1, e2]
  exact hc W hW
theorem ObjR.same {ρ ρ' : Rho} (g : Same ρ ρ') {o : SObj} {obj : Obj} (h : ObjR ρ o obj) (hn : ∀ m ∈ o.names, ρ'.a m = ρ.a m) : ObjR ρ' o obj := by
  cases o with
  | cells cs t =>
    have := SV.denL_same g cs (by simpa [SObj.names] using hn)
    simp only [ObjR] at h ⊢
    rw [this]; exact h
  | row cs t cn sz =>
    have := SV.denL_same g cs (fun m hm => hn m (by simp [SObj.names, hm]))
    simp only [ObjR] at h ⊢
    rw [this, hn cn (by simp [SObj.names])]; exact h
  | rowl c tot ks t cn sz =>
    simp only [ObjR] at h ⊢
    rw [LE.den_same g, IE.den_same g, hn cn (by simp [SObj.names])]; exact h
  | loop st pend fn tmps ps as body d =>
    obtain ⟨X, hX, c1, c2, c3, ho⟩ := h
    refine ⟨X, ?_, c1, c2, c3, ?_⟩
    · intro i
      rw [← hX i]
      cases hv : get2 tmps i with
      | none => rfl
      | some v =>
        simp only [Option.map_some, Option.some.injEq]
        apply SV.den_eq g
        intro m hm
        refine hn m ?_
        simp only [SObj.names, List.mem_cons]
        exact .inr (mem_namesL.2 ⟨v, get2_flat hv, hm⟩)
    · rw [hn d (by simp [SObj.names])]; exact ho
  | defd s => exact h

/-- What stands in one place behind some of the operations, in the order of the text. -/
def stX {V : Type} (ap : Eff → Nat → Option V → Option V) : List Eff → (Nat → Bool) → Nat → Nat → Option V → Option V
  | [], _, _, _, v => v
  | _ :: _, _, 0, _, v => v
  | e :: es, D, m + 1, x, v => stX ap es (fun i => D (i + 1)) m x (if D 0 then ap e x v else v)
def apS (e : Eff) (t : Nat) (v : Option SV) : Option SV := if e.dst = some t then v.map fun _ => e.val else v
noncomputable def apH (e : Eff) (n : Nat) (v : Option SObj) : Option SObj :=
  match lk e.made n with
  | some o => some o
  | none => match lk e.writes n with
    | some o => some o
    | none => if memN n e.gone then none else v
def WS (e : Eff) (t : Nat) : Prop := e.dst = some t
def WH (e : Eff) (n : Nat) : Prop := (lk e.made n).isSome = true ∨ (lk e.writes n).isSome = true ∨ memN n e.gone = true
theorem apS_id {e : Eff} {t : Nat} (h : ¬ WS e t) (v : Option SV) : apS e t v = v := by simp [apS, show ¬ e.dst = some t from h]
theorem apH_id {e : Eff} {n : Nat} (h : ¬ WH e n) (v : Option SObj) : apH e n v = v := by
  unfold WH at h
  unfold apH
  cases h1 : lk e.made n <;> cases h2 : lk e.writes n <;> simp_all
section
variable {V : Type} {ap : Eff → Nat → Option V → Option V} {W : Eff → Nat → Prop}
theorem stX_agree (hid : ∀ e x v, ¬ W e x → ap e x v = v) : ∀ (es : List Eff) (D D' : Nat → Bool) (m m' x : Nat) (v : Option V),
    (∀ i e, es[i]? = some e → W e x → (decide (i < m) && D i) = (decide (i < m') && D' i)) → stX ap es D m x v = stX ap es D' m' x v := by
  intro es
  induction es with
  | nil => intro D D' m m' x v h; simp [stX]
  | cons e es ih =>
    intro D D' m m' x v h
    have h0 := h 0 e rfl
    have hs : ∀ (m m' : Nat) (v : Option V), (∀ i e', es[i]? = some e' → W e' x → (decide (i < m) && D (i + 1)) = (decide (i < m') && D' (i + 1))) →
        stX ap es (fun i => D (i + 1)) m x v = stX ap es (fun i => D' (i + 1)) m' x v := fun m m' v hh => ih _ _ m m' x v hh
    have hz : ∀ (D : Nat → Bool) (v : Option V), stX ap es D 0 x v = v := by intro D v; cases es <;> rfl
    cases m with
    | zero =>
      cases m' with
      | zero => rfl
      | succ m' =>
        simp only [stX]
        have e1 : (if D' 0 = true then ap e x v else v) = v := by
          by_cases hw : W e x
          · have := h0 hw; simp at this; simp [this]
          · rw [hid e x v hw]; simp
        rw [e1]
        exact (hz (fun i => D (i + 1)) v).symm.trans (hs 0 m' v (fun i e' he hw => by simpa using h (i + 1) e' he hw))
    | succ m =>
      cases m' with
      | zero =>
        simp only [stX]
        have e1 : (if D 0 = true then ap e x v else v) = v := by
          by_cases hw : W e x
          · have := h0 hw; simp at this; simp [this]
          · rw [hid e x v hw]; simp
        rw [e1]
        exact (hs m 0 v (fun i e' he hw => by simpa using h (i + 1) e' he hw)).trans (hz (fun i => D' (i + 1)) v)
      | succ m' =>
        simp only [stX]
        have e1 : (if D 0 = true then ap e x v else v) = (if D' 0 = true then ap e x v else v) := by
          by_cases hw : W e x
          · have := h0 hw; simp at this; simp [this]
          · rw [hid e x v hw]; simp
        rw [e1]
        exact hs m m' _ (fun i e' he hw => by simpa using h (i + 1) e' he hw)
theorem stX_add (hid : ∀ e x v, ¬ W e x → ap e x v = v) : ∀ (es : List Eff) (D D' : Nat → Bool) (m j x : Nat) (v : Option V) (e : Eff), es[j]? = some e → j < m → D j = false → (∀ i, D' i = (D i || decide (i = j))) →
    (∀ i e', j < i → es[i]? = some e' → D i = true → W e x → ¬ W e' x) → stX ap es D' m x v = ap e x (stX ap es D m x v) := by
  intro es
  induction es with
  | nil => intro D D' m j x v e he; simp at he
  | cons a es ih =>
    intro D D' m j x v e he hj hD hD' hc
    cases m with
    | zero => omega
    | succ m =>
      simp only [stX]
      cases j with
      | zero =>
        simp at he
        subst he
        have d0 : D' 0 = true := by rw [hD']; simp
        rw [d0, hD]
        simp only [if_true, Bool.false_eq_true, if_false]
        have hrest : ∀ i, D' (i + 1) = D (i + 1) := by intro i; rw [hD']; simp
        by_cases hw : W a x
        · have hn : ∀ u, stX ap es (fun i => D' (i + 1)) m x u = u := by
            intro u
            have hz : stX ap es (fun i => D' (i + 1)) 0 x u = u := by cases es <;> rfl
            rw [← hz]
            conv => lhs; rw [hz]
            refine stX_agree hid es _ _ m 0 x u ?_
            intro i e' he' hw'
            cases hd : D (i + 1) with
            | false => simp [hrest, hd]
            | true => exact absurd hw' (hc (i + 1) e' (by omega) he' hd hw)
          rw [hn]
          have hn2 : stX ap es (fun i => D (i + 1)) m x v = v := by
            have := hn v
            rwa [show (fun i => D' (i + 1)) = (fun i => D (i + 1)) from funext hrest] at this
          rw [hn2]
        · rw [hid a x _ hw, hid a x _ hw, show (fun i => D' (i + 1)) = (fun i => D (i + 1)) from funext hrest]
      | succ j =>
        have e0 : D' 0 = D 0 := by rw [hD']; simp
        rw [e0]
        exact ih _ _ m j x _ e (by simpa using he) (by omega) hD (fun i => by rw [hD']; simp) (fun i e' hi he' hd => hc (i + 1) e' (by omega) (by simpa using he') hd)
theorem stX_from (hap : ∀ e x v u, ap e x v = some u → v = some u ∨ (W e x ∧ ap e x none = some u) ∨ (W e x ∧ ∃ y, v = some y ∧ ap e x (some y) = some u)) : ∀ (es : List Eff) (D : Nat → Bool) (m x : Nat) (v : Option V) (u : V), stX ap es D m x v = some u →
    v = some u ∨ ∃ i e y, es[i]? = some e ∧ D i = true ∧ W e x ∧ ap e x y = some u := by
  intro es
  induction es with
  | nil => intro D m x v u h; exact .inl h
  | cons a es ih =>
    intro D m x v u h
    cases m with
    | zero => exact .inl h
    | succ m =>
      simp only [stX] at h
      rcases ih _ _ _ _ _ h with h1 | ⟨i, e, y, h1, h2, h3, h4⟩
      · cases hd : D 0 with
        | false => simp [hd] at h1; exact .inl h1
        | true =>
          simp [hd] at h1
          rcases hap _ _ _ _ h1 with h2 | ⟨h2, h3⟩ | ⟨h2, y, h3, h4⟩
          · exact .inl h2
          · exact .inr ⟨0, a, none, rfl, hd, h2, h3⟩
          · exact .inr ⟨0, a, some y, rfl, hd, h2, h4⟩
      · exact .inr ⟨i + 1, e, y, by simpa using h1, h2, h3, h4⟩
end
end Go.Proofs.Ytjgkaimgocnkmab.Sx
