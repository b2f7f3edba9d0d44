/- A reckoner of Go's small steps over letters: structs that are compared. No condition. -/
import Derived.Test.YtjgkaimgocnkmabSp19
set_option linter.unusedVariables false
set_option linter.unusedSimpArgs false
set_option linter.deprecated false
namespace Go.Proofs.Ytjgkaimgocnkmab.Sx
open Go
def VK : CK → Value → Prop
  | .int k, v => ∃ n, v = .int k n
  | .bool, v => ∃ b, v = .bool b
  | _, _ => False
inductive Fit : List CK → List Value → Prop
  | nil : Fit [] []
  | cons {k v ks vs} : VK k v → Fit ks vs → Fit (k :: ks) (v :: vs)
def isOneK (c : CK) : List CK → Bool
  | [d] => (match c, d with
    | .int k, .int j => keq k j
    | .bool, .bool => true
    | _, _ => false)
  | _ => false
def fldsK (P : Program) (chk : TypeId → List CK → Bool) : List Field → Nat → List CK → Bool
  | [], _, ks => (match ks with
    | [] => true
    | _ => false)
  | f :: fs, off, ks =>
    if Nat.beq f.offset off then (if f.name == "_" then false else (if Nat.ble (P.cellsOf f.type) ks.length then (if chk f.type (ks.take (P.cellsOf f.type)) then fldsK P chk fs (off + P.cellsOf f.type) (ks.drop (P.cellsOf f.type)) else false) else false)) else false
def eqChk (P : Program) : Nat → TypeId → List CK → Bool
  | 0, _, _ => false
  | d + 1, t, ks =>
    match P.underlying t, P.info? t with
    | some (.int k), some _ => isOneK (.int k) ks
    | some .bool, some _ => isOneK .bool ks
    | some (.struct fs), some i => if P.stoodInHeld t then false else (if Nat.beq ks.length i.size then fldsK P (eqChk P d) fs.toList 0 ks else false)
    | _, _ => false
/-- A variable's value out of its cells. -/
def wv (P : Program) (t : TypeId) (cs : List Value) : Value :=
  match P.underlying t with
  | some (.struct _) => .agg cs.toArray
  | _ => cs.headD undef
def vbeq : Value → Value → Bool
  | .int _ a, .int _ b => a == b
  | .bool a, .bool b => a == b
  | _, _ => false
def veq : List Value → List Value → Bool
  | [], [] => true
  | a :: l, b :: m => vbeq a b && veq l m
  | _, _ => false
theorem Fit.length {ks : List CK} {vs : List Value} (h : Fit ks vs) : vs.length = ks.length := by
  induction h with
  | nil => rfl
  | cons _ _ ih => simp [ih]
theorem Fit.take {ks : List CK} {vs : List Value} (h : Fit ks vs) : ∀ n, Fit (ks.take n) (vs.take n) := by
  induction h with
  | nil => intro n; simp; exact .nil
  | cons h _ ih => intro n; cases n with
    | zero => exact .nil
    | succ n => exact .cons h (ih n)
theorem Fit.drop {ks : List CK} {vs : List Value} (h : Fit ks vs) : ∀ n, Fit (ks.drop n) (vs.drop n) := by
  induction h with
  | nil => intro n; simp; exact .nil
  | cons h h2 ih => intro n; cases n with
    | zero => exact .cons h h2
    | succ n => exact ih n
theorem veq_split : ∀ (n : Nat) (xs ys : List Value), xs.length = ys.length → veq xs ys = (veq (xs.take n) (ys.take n) && veq (xs.drop n) (ys.drop n))
  | 0, xs, ys, h => by simp [veq]
  | n + 1, [], [], h => by simp [veq]
  | n + 1, a :: xs, b :: ys, h => by
    simp only [veq, List.take_succ_cons, List.drop_succ_cons]
    rw [veq_split n xs ys (by simpa using h), Bool.and_assoc]
section
variable {P : Program}
theorem isOneK_ok {c : CK} {ks : List CK} (h : isOneK c ks = true) : ks = [c] := by
  unfold isOneK at h
  split at h
  · split at h
    · rw [(keq_iff _ _).1 h]
    · rfl
    · cases h
  · cases h
theorem part_wv {t : TypeId} {d : Nat} {ks : List CK} (hc : eqChk P d t ks = true) {cs : List Value} {off : Nat} (hf : Fit ks ((cs.drop off).take (P.cellsOf t))) (w : World) : (part t cs.toArray off).run P w = .ok (wv P t ((cs.drop off).take (P.cellsOf t))) w := by
  cases d with
  | zero => simp [eqChk] at hc
  | succ d =>
    simp only [eqChk] at hc
    split at hc
    · rename_i k i hu hi
      have hk := isOneK_ok hc
      subst hk
      have hl := hf.length
      cases hx : (cs.drop off).take (P.cellsOf t) with
      | nil => rw [hx] at hl; simp at hl
      | cons v l =>
        have h0 : ((cs.drop off).take (P.cellsOf t))[0]? = some v := by rw [hx]; rfl
        rw [List.getElem?_take] at h0
        split at h0
        · rw [List.getElem?_drop] at h0
          simp at h0
          simp [part, run_isAgg hu, wv, hu, h0]
        · cases h0
    · rename_i i hu hi
      have hk := isOneK_ok hc
      subst hk
      have hl := hf.length
      cases hx : (cs.drop off).take (P.cellsOf t) with
      | nil => rw [hx] at hl; simp at hl
      | cons v l =>
        have h0 : ((cs.drop off).take (P.cellsOf t))[0]? = some v := by rw [hx]; rfl
        rw [List.getElem?_take] at h0
        split at h0
        · rw [List.getElem?_drop] at h0
          simp at h0
          simp [part, run_isAgg hu, wv, hu, h0]
        · cases h0
    · rename_i fs i hu hi
      simp [part, run_isAgg hu, wv, hu, run_sizeOf' hi, Program.cellsOf, hi]
    · cases hc
theorem eqChk_ok (D : Nat) : ∀ (d : Nat) (t : TypeId) (ks : List CK), eqChk P d t ks = true → ∀ (xs ys : List Value) (w : World), Fit ks xs → Fit ks ys → (Op.equalIn (D + d) t (wv P t xs) (wv P t ys)).run P w = .ok (veq xs ys) w := by
  intro d
  induction d with
  | zero => intro t ks h; simp [eqChk] at h
  | succ d ih =>
    intro t ks h xs ys w hx hy
    have hch := h
    simp only [eqChk] at h
    split at h
    · rename_i k i hu hi
      have hk := isOneK_ok h
      subst hk
      cases hx with
      | cons hv hx =>
        cases hx
        cases hy with
        | cons hv2 hy =>
          cases hy
          obtain ⟨a, rfl⟩ := hv
          obtain ⟨b, rfl⟩ := hv2
          have := run_equalIn_int (P := P) w (D + d) t k k a b hu
          rw [show D + (d + 1) = (D + d) + 1 from rfl]
          simpa [wv, hu, veq, vbeq] using this
    · rename_i i hu hi
      have hk := isOneK_ok h
      subst hk
      cases hx with
      | cons hv hx =>
        cases hx
        cases hy with
        | cons hv2 hy =>
          cases hy
          obtain ⟨a, rfl⟩ := hv
          obtain ⟨b, rfl⟩ := hv2
          have := run_equalIn_bool' (P := P) w (D + d) t a b hu
          rw [show D + (d + 1) = (D + d) + 1 from rfl]
          simpa [wv, hu, veq, vbeq] using this
    · rename_i fs i hu hi
      split at h
      · cases h
      · rename_i hst
        split at h
        · rename_i hlen
          have hfo : P.fieldsOf t = fs := by simp [Program.fieldsOf, hu]
          have hst' : P.stoodInHeld t = false := by simpa using hst
          simp only [wv, hu]
          rw [show D + (d + 1) = (D + d) + 1 by omega, run_equalIn_agg w (D + d) t _ _ (by rw [hfo]; exact hu) hst', hfo]
          have key : ∀ (l : List Field) (off : Nat) (ks : List CK) (xs' ys' : List Value) (w : World), fldsK P (eqChk P d) l off ks = true → xs' = xs.drop off → ys' = ys.drop off → Fit ks xs' → Fit ks ys' →
              (Op.eqFields (D + d) xs.toArray ys.toArray l).run P w = .ok (veq xs' ys') w := by
            intro l
            induction l with
            | nil =>
              intro off ks xs' ys' w hf h1 h2 f1 f2
              simp only [fldsK] at hf
              split at hf
              · cases f1; cases f2; simp [Op.eqFields, veq]
              · cases hf
            | cons f l ihl =>
              intro off ks xs' ys' w hf h1 h2 f1 f2
              simp only [fldsK] at hf
              split at hf
              · rename_i ho
                have ho' : f.offset = off := by simpa using ho
                split at hf
                · cases hf
                · rename_i hnm
                  split at hf
                  · rename_i hle
                    split at hf
                    · rename_i hc
                      have g1 := f1.take (P.cellsOf f.type)
                      have g2 := f2.take (P.cellsOf f.type)
                      rw [h1] at g1
                      rw [h2] at g2
                      have p1 := part_wv hc g1 w
                      have p2 := part_wv hc g2 w
                      have e1 := ih f.type _ hc _ _ w g1 g2
                      have hrest := ihl (off + P.cellsOf f.type) _ (xs'.drop (P.cellsOf f.type)) (ys'.drop (P.cellsOf f.type)) w hf (by rw [h1, List.drop_drop]) (by rw [h2, List.drop_drop]) (f1.drop _) (f2.drop _)
                      have hn : f.name ≠ "_" := by simpa using hnm
                      simp only [Op.eqFields, hn, ne_eq, not_false_eq_true, if_true, Sem.run_bind, ho', p1, p2, Result.andThen_ok, e1]
                      have hl : xs'.length = ys'.length := f1.length.trans f2.length.symm
                      rw [veq_split (P.cellsOf f.type) xs' ys' hl, h1, h2]
                      rw [h1, h2] at hrest
                      cases hb : veq ((xs.drop off).take (P.cellsOf f.type)) ((ys.drop off).take (P.cellsOf f.type)) with
                      | false => simp
                      | true => simp only [Bool.not_true, Bool.false_eq_true, if_false, hrest, Bool.true_and]
                    · cases hf
                  · cases hf
              · cases hf
          exact key fs.toList 0 ks xs ys w h (by simp) (by simp) hx hy
        · cases h
    · cases h
theorem eqCells_ok (ρ : Rho) : ∀ (ks : List CK) (xs ys : List SV) (c : BE), eqCells ks xs ys = some c → Fit ks (SV.denL ρ xs) ∧ Fit ks (SV.denL ρ ys) ∧ c.den ρ = veq (SV.denL ρ xs) (SV.denL ρ ys) := by
  intro ks
  induction ks with
  | nil =>
    intro xs ys c h
    cases xs <;> cases ys <;> simp [eqCells] at h
    subst h
    exact ⟨.nil, .nil, rfl⟩
  | cons k ks ih =>
    intro xs ys c h
    unfold eqCells at h
    split at h
    · rename_i e; cases e
    · rename_i k' ks' j a l i b m e
      cases e
      split at h
      · rename_i h1
        split at h
        · rename_i h2
          split at h
          · rename_i r hr
            cases h
            obtain ⟨f1, f2, f3⟩ := ih _ _ _ hr
            have e1 := (keq_iff _ _).1 h1
            have e2 := (keq_iff _ _).1 h2
            subst e1
            subst e2
            refine ⟨.cons ⟨_, rfl⟩ f1, .cons ⟨_, rfl⟩ f2, ?_⟩
            rw [mkAnd_den, f3]
            simp only [SV.denL, SV.den, veq, vbeq]
            congr 1
            split
            · rename_i hb; rw [IE.beq_eq _ _ hb]; simp [BE.den]
            · rw [mkEq_den]; exact (beq_dec _ _).symm
          · cases h
        · cases h
      · cases h
    · rename_i ks' a l b m e
      cases e
      split at h
      · rename_i r hr
        cases h
        obtain ⟨f1, f2, f3⟩ := ih _ _ _ hr
        refine ⟨.cons ⟨_, rfl⟩ f1, .cons ⟨_, rfl⟩ f2, ?_⟩
        rw [mkAnd_den, f3]
        simp only [SV.denL, SV.den, veq, vbeq]
        congr 1
        split
        · rename_i hb; rw [BE.beq_eq _ _ hb]; simp [BE.den]
        · rw [mkIff_den]
      · cases h
    · cases h
/-- Types whose equality is as that of their cells. -/
def eqAll (P : Program) : List (Nat × List CK) → Bool
  | [] => true
  | (t, ks) :: l => if P.eqGuardType P.depth t then false else (match P.underlying t with
    | some (.struct _) => if eqChk P 6 t ks then eqAll P l else false
    | _ => false)
theorem eqAll_ok : ∀ (l : List (Nat × List CK)), eqAll P l = true → ∀ t ks, lk l t = some ks → EqOk P t ks
  | [], _, t, ks, h => by simp [lk_nil] at h
  | (u, us) :: l, ha, t, ks, h => by
    simp only [eqAll] at ha
    split at ha
    · cases ha
    · rename_i hg
      split at ha
      · rename_i fs hu
        split at ha
        · rename_i hc
          rw [lk_cons] at h
          split at h
          · rename_i e
            subst e
            cases h
            intro ρ xs ys c w x y hcc
            obtain ⟨f1, f2, f3⟩ := eqCells_ok ρ _ _ _ _ hcc
            have hg' : P.eqGuardType P.depth u = false := by simpa using hg
            have he := eqChk_ok (P := P) 9994 6 u _ hc _ _ w f1 f2
            simp only [wv, hu] at he
            have he' : (Op.equalIn 10000 u (.agg (SV.denL ρ xs).toArray) (.agg (SV.denL ρ ys).toArray)).run P w = .ok (veq (SV.denL ρ xs) (SV.denL ρ ys)) w := he
            constructor
            · rw [Sem.run_bind, run_eqGuard_agg w .eql u x y _ _ hg', Result.andThen_ok, run_eql_struct, he', f3]; rfl
            · rw [Sem.run_bind, run_eqGuard_agg w .neq u x y _ _ hg', Result.andThen_ok, run_neq_struct, he', f3]; rfl
          · exact eqAll_ok l ha t ks h
        · cases ha
      · cases ha
end
end Go.Proofs.Ytjgkaimgocnkmab.Sx
