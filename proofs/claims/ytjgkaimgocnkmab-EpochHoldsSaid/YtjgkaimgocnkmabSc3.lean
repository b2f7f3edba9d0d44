/- A reckoner of Go's small steps over letters: loops, from template to template. No condition. -/
import Derived.Test.YtjgkaimgocnkmabSc2
set_option linter.unusedVariables false
set_option linter.unusedSimpArgs false
namespace Go.Proofs.Ytjgkaimgocnkmab.Sx
open Go
section
variable {P : Program} {T : Tab} {b0 : World} {sel : Sel}
def PieceOk (P : Program) (b0 : World) (C : Cfg) (ρ : Rho) (w : World) (f : Frame) (fs cs : List Frame) : Piece → Prop
  | .done lf => Holds ρ lf.pc ∧ ∃ ρ' w' f', Same ρ ρ' ∧ Steps P (lone f (fs ++ cs) w) (lone f' cs w') ∧ f'.leaving P w' (.returned (lf.val.den ρ')) ∧ f'.fn = bot C.top C.rest ∧ b0.grownBy w' none
  | .cut _ C' => Holds ρ C'.pc ∧ ∃ ρ' w' f' fs', Same ρ ρ' ∧ Steps P (lone f (fs ++ cs) w) (lone f' (fs' ++ cs) w') ∧ CfgR ρ' b0 C' w' f' fs' ∧ bot C'.top C'.rest = bot C.top C.rest
theorem PieceOk.before {C C1 : Cfg} {ρ ρ1 : Rho} {w w1 : World} {f f1 : Frame} {fs fs1 cs : List Frame} {p : Piece} (g : Same ρ ρ1) (hst : Steps P (lone f (fs ++ cs) w) (lone f1 (fs1 ++ cs) w1)) (hb : bot C1.top C1.rest = bot C.top C.rest) (h : PieceOk P b0 C1 ρ1 w1 f1 fs1 cs p) : PieceOk P b0 C ρ w f fs cs p := by
  cases p with
  | done lf =>
    obtain ⟨h1, ρ', w', f', h2, h3, h4, h5, h6⟩ := h
    exact ⟨(g.holds).1 h1, ρ', w', f', g.trans h2, Steps.trans hst h3, h4, h5.trans hb, h6⟩
  | cut k C' =>
    obtain ⟨h1, ρ', w', f', fs', h2, h3, h4, h5⟩ := h
    exact ⟨(g.holds).1 h1, ρ', w', f', fs', g.trans h2, Steps.trans hst h3, h4, h5.trans hb⟩
theorem overC_ok {k : Cfg → POut} : ∀ (l : List Cfg) (ls : List Piece), overC k l = .ok ls → ∀ x ∈ l, ∃ lx, k x = .ok lx ∧ ∀ p ∈ lx, p ∈ ls
  | [], ls, h, x, hx => by simp at hx
  | y :: l, ls, h, x, hx => by
    simp only [overC] at h
    cases h1 : k y with
    | fail a b => rw [h1] at h; cases h
    | ok ly =>
      cases h2 : overC k l with
      | fail a b => rw [h1, h2] at h; cases h
      | ok ll =>
        rw [h1, h2] at h
        simp only [POut.app, POut.ok.injEq] at h
        subst h
        rcases List.mem_cons.1 hx with rfl | hx
        · exact ⟨ly, h1, fun p hp => List.mem_append.2 (.inl hp)⟩
        · obtain ⟨lx, h3, h4⟩ := overC_ok l ll h2 x hx
          exact ⟨lx, h3, fun p hp => List.mem_append.2 (.inr (h4 p hp))⟩
theorem runC_ok (hT : T.Ok P) : ∀ (n : Nat) (C : Cfg) (ls : List Piece), runC T sel n C = .ok ls → ∀ (ρ : Rho) (w : World) (f : Frame) (fs cs : List Frame), ρ.Ok → OracOk P b0 T.orac ρ → CfgR ρ b0 C w f fs → ∃ p ∈ ls, PieceOk P b0 C ρ w f fs cs p := by
  intro n
  induction n with
  | zero => intro C ls h; simp [runC] at h
  | succ n ih =>
    intro C ls h ρ w f fs cs hρ hO R
    have hstep := stepS_ok (sub := runS T n) hT (runS_ok hT n) hρ hO R n cs
    simp only [runC] at h
    split at h
    · rename_i C' hC'
      rw [hC'] at hstep
      obtain ⟨_, ρ1, w1, f1, fs1, R1, hm, hst, hbot⟩ := hstep
      have go : runC T sel n C' = .ok ls → ∃ p ∈ ls, PieceOk P b0 C ρ w f fs cs p := by
        intro h
        obtain ⟨p, hp, hk⟩ := ih C' ls h ρ1 w1 f1 fs1 cs (hm.agr.ok hρ) (hO.agr hm.agr) R1
        exact ⟨p, hp, hk.before hm.agr.same hst hbot⟩
      split at h
      · split at h
        · rename_i k hk
          simp only [POut.ok.injEq] at h
          subst h
          exact ⟨_, List.mem_singleton.2 rfl, (hm.agr.holds).1 R1.pc, ρ1, w1, f1, fs1, hm.agr.same, hst, R1, hbot⟩
        · exact go h
      · exact go h
    · rename_i l hl
      rw [hl] at hstep
      obtain ⟨_, C', hC', ρ1, w1, f1, fs1, R1, hm, hst, hbot⟩ := hstep
      obtain ⟨lx, h1, h2⟩ := overC_ok l ls h C' hC'
      obtain ⟨p, hp, hk⟩ := ih C' lx h1 ρ1 w1 f1 fs1 cs (hm.agr.ok hρ) (hO.agr hm.agr) R1
      exact ⟨p, h2 p hp, hk.before hm.agr.same hst hbot⟩
    · rename_i c hc
      rw [fBE_eq] at h
      cases h1 : runC T sel n { C with pc := c :: C.pc } with
      | fail a b => rw [h1] at h; cases h
      | ok l1 =>
        cases h2 : runC T sel n { C with pc := .not c :: C.pc } with
        | fail a b => rw [h1, h2] at h; cases h
        | ok l2 =>
          rw [h1, h2] at h
          simp only [POut.app, POut.ok.injEq] at h
          subst h
          cases hd : c.den ρ with
          | true =>
            obtain ⟨p, hp, hk⟩ := ih _ _ h1 ρ w f fs cs hρ hO ⟨R.top, R.rest, R.heap, R.names, R.pc.cons hd⟩
            refine ⟨p, List.mem_append.2 (.inl hp), ?_⟩
            cases p <;> exact hk
          | false =>
            obtain ⟨p, hp, hk⟩ := ih _ _ h2 ρ w f fs cs hρ hO ⟨R.top, R.rest, R.heap, R.names, R.pc.cons (by simp [den_not, hd])⟩
            refine ⟨p, List.mem_append.2 (.inr hp), ?_⟩
            cases p <;> exact hk
    · rename_i v hv
      rw [hv] at hstep
      obtain ⟨h1, h2, h3, _⟩ := hstep
      simp only [POut.ok.injEq] at h
      subst h
      have hfs : fs = [] := by
        have := R.rest
        rw [h1] at this
        cases this; rfl
      subst hfs
      refine ⟨_, List.mem_singleton.2 rfl, R.pc, ρ, w, f, .refl ρ, .refl _ _, h2, ?_, R.heap.g0⟩
      rw [h3, h1]; rfl
    · cases h
end
/- what is asked of the views of a segment -/
noncomputable section
def viewOk (m : Nat → IE) (k : Nat) : View → Bool
  | .done pc (.bool b) => (match dec pc b with
    | some true => true
    | _ => false)
  | .cut j pc S _ => (match dec (.lit true :: pc) (.le (.lit 1) (m k)) with
    | some true => (match dec (.lit true :: pc) (.le (.add ((m j).sb S) (.lit 1)) (m k)) with
      | some true => true
      | _ => false)
    | _ => false)
  | _ => false
def viewsOk (m : Nat → IE) (k : Nat) : List View → Bool
  | [] => true
  | v :: l => if viewOk m k v then viewsOk m k l else false
def codesL : List View → List (Nat × List (List SItem))
  | [] => []
  | .cut j _ _ X :: l => (j, X) :: codesL l
  | _ :: l => codesL l
def codesR (tm : List (Nat × Cfg)) : List View → List (Nat × List (List SItem))
  | [] => []
  | .cut j _ S _ :: l => (j, (match lk tm j with
    | some C => codesOf S C
    | none => [])) :: codesR tm l
  | _ :: l => codesR tm l
def views : VOut → List View
  | .ok l => l
  | .fail _ _ => []
def isOkV : VOut → Bool
  | .ok _ => true
  | .fail _ _ => false
/-- A segment: its run, what is asked of it, its codes. -/
def segL (T : Tab) (sel : Sel) (n : Nat) (tm : List (Nat × Cfg)) (m : Nat → IE) (k : Nat) (C : Cfg) : Bool × Bool × List (Nat × List (List SItem)) :=
  (isOkV (viewO tm (runC T sel n C)), viewsOk m k (views (viewO tm (runC T sel n C))), codesL (views (viewO tm (runC T sel n C))))
def segR (T : Tab) (sel : Sel) (n : Nat) (tm : List (Nat × Cfg)) (C : Cfg) : Bool × Bool × List (Nat × List (List SItem)) :=
  (true, true, codesR tm (views (viewO tm (runC T sel n C))))
end
section
variable {P : Program} {T : Tab} {b0 : World} {sel : Sel}
theorem viewL_mem {tm : List (Nat × Cfg)} : ∀ {l : List Piece} {p : Piece}, p ∈ l → viewP tm p ∈ viewL tm l
  | x :: l, p, h => by
    rcases List.mem_cons.1 h with rfl | h
    · exact List.mem_cons_self ..
    · exact List.mem_cons_of_mem _ (viewL_mem h)
theorem viewsOk_mem {m : Nat → IE} {k : Nat} : ∀ {l : List View}, viewsOk m k l = true → ∀ v ∈ l, viewOk m k v = true
  | [], _, v, hv => by simp at hv
  | x :: l, h, v, hv => by
    simp only [viewsOk] at h
    split at h
    · rename_i h1
      rcases List.mem_cons.1 hv with rfl | hv
      · exact h1
      · exact viewsOk_mem h v hv
    · cases h
theorem codes_mem {tm : List (Nat × Cfg)} : ∀ {l : List View}, codesL l = codesR tm l → ∀ j pc S X, View.cut j pc S X ∈ l → X = (match lk tm j with
    | some C => codesOf S C
    | none => [])
  | [], _, j, pc, S, X, hv => by simp at hv
  | x :: l, h, j, pc, S, X, hv => by
    cases x with
    | cut j' pc' S' X' =>
      simp only [codesL, codesR, List.cons.injEq, Prod.mk.injEq, true_and] at h
      rcases List.mem_cons.1 hv with e | hv
      · cases e; exact h.1
      · exact codes_mem h.2 j pc S X hv
    | done pc v =>
      rcases List.mem_cons.1 hv with e | hv
      · cases e
      · exact codes_mem (show codesL l = codesR tm l from h) j _ S X hv
    | bad k y S C =>
      rcases List.mem_cons.1 hv with e | hv
      · cases e
      · exact codes_mem (show codesL l = codesR tm l from h) j pc _ X hv
/-- From template to template, to the end. -/
theorem drive (hT : T.Ok P) (n : Nat) (tm : List (Nat × Cfg)) (m : Nat → IE) (hok : ∀ k C, lk tm k = some C → cfgOk C = true) (hseg : ∀ k C, lk tm k = some C → segL T sel n tm m k C = segR T sel n tm C) (z : Env)
    (hO : ∀ ρ : Rho, ρ.Ok → ρ.z = z → OracOk P b0 T.orac ρ) : ∀ (q k : Nat) (C : Cfg) (ρ : Rho) (w : World) (f : Frame) (fs cs : List Frame), lk tm k = some C → ((m k).den ρ).toNat ≤ q → ρ.Ok → ρ.z = z → CfgR ρ b0 C w f fs →
    ∃ w' f', Steps P (lone f (fs ++ cs) w) (lone f' cs w') ∧ f'.leaving P w' (.returned (.bool true)) ∧ f'.fn = bot C.top C.rest ∧ b0.grownBy w' none := by
  have one : ∀ (k : Nat) (C : Cfg) (ρ : Rho) (w : World) (f : Frame) (fs cs : List Frame), lk tm k = some C → ρ.Ok → ρ.z = z → CfgR ρ b0 C w f fs →
      (∃ w' f', Steps P (lone f (fs ++ cs) w) (lone f' cs w') ∧ f'.leaving P w' (.returned (.bool true)) ∧ f'.fn = bot C.top C.rest ∧ b0.grownBy w' none) ∨
      (∃ j C' ρ' w' f' fs', lk tm j = some C' ∧ ((m j).den ρ').toNat < ((m k).den ρ).toNat ∧ ρ'.Ok ∧ ρ'.z = z ∧ CfgR ρ' b0 C' w' f' fs' ∧ Steps P (lone f (fs ++ cs) w) (lone f' (fs' ++ cs) w') ∧ bot C'.top C'.rest = bot C.top C.rest) := by
    intro k C ρ w f fs cs hk hρ hz R
    have hs := hseg k C hk
    simp only [segL, segR, Prod.mk.injEq] at hs
    obtain ⟨s1, s2, s3⟩ := hs
    cases hr : runC T sel n C with
    | fail a b => rw [hr] at s1; simp [viewO, isOkV] at s1
    | ok ls =>
      rw [hr] at s2 s3
      simp only [viewO, views] at s2 s3
      obtain ⟨p, hp, hpk⟩ := runC_ok hT n C ls hr ρ w f fs cs hρ (hO ρ hρ hz) R
      have hv := viewsOk_mem s2 _ (viewL_mem (tm := tm) hp)
      cases p with
      | done lf =>
        obtain ⟨hh, ρ', w', f', hsame, hst, hlv, hfn, hg⟩ := hpk
        simp only [viewP] at hv
        left
        refine ⟨w', f', hst, ?_, hfn, hg⟩
        unfold viewOk at hv
        split at hv
        · rename_i pc b e
          simp only [View.done.injEq] at e
          obtain ⟨e1, e2⟩ := e
          split at hv
          · rename_i hd
            rw [← e1] at hd
            have hb := dec_den (hsame.ok hρ) ((hsame.holds).2 hh) _ _ hd
            rw [e2] at hlv
            simpa [SV.den, hb] using hlv
          · cases hv
        · rename_i e; cases e
        · cases hv
      | cut j C' =>
        obtain ⟨hh, ρ', w', f', fs', hsame, hst, R', hbot⟩ := hpk
        have hvm := viewL_mem (tm := tm) hp
        simp only [viewP] at hv hvm
        cases hj : lk tm j with
        | none => rw [hj] at hv; simp [viewOk] at hv
        | some Cj =>
          rw [hj] at hv hvm
          simp only [] at hv hvm
          right
          cases hfit : fitWith j Cj C' (subOf Cj C') with
          | done pc v => rw [hfit] at hv; unfold fitWith at hfit; (repeat' split at hfit) <;> cases hfit
          | bad a b c d => rw [hfit] at hv; simp [viewOk] at hv
          | cut j' pc S X =>
            rw [hfit] at hv hvm
            have hX := codes_mem s3 _ _ _ _ hvm
            have hjj : j' = j := by
              unfold fitWith at hfit
              (repeat' split at hfit) <;> first
                | (cases hfit; rfl)
                | (cases hfit; done)
            subst hjj
            rw [hj] at hX
            obtain ⟨_, e2, o1, o2⟩ := fit_ok hfit hX (hok j' Cj hj) (hsame.ok hρ) R'
            have hbj : bot Cj.top Cj.rest = bot C'.top C'.rest := by
              have hff : fitFs S (Cj.top :: Cj.rest) (C'.top :: C'.rest) = true := by
                unfold fitWith at hfit
                split at hfit
                · rename_i h1
                  (repeat' split at hfit) <;> first
                    | (simp only [View.cut.injEq] at hfit; rw [← hfit.2.2.1]; exact h1)
                    | (cases hfit; done)
                · cases hfit
              have gen : ∀ (t a : List SFrame) (x y : SFrame), fitFs S (x :: t) (y :: a) = true → bot x t = bot y a := by
                intro t
                induction t with
                | nil =>
                  intro a x y h
                  cases a with
                  | nil =>
                    simp only [fitFs] at h
                    split at h
                    · rename_i h1
                      unfold fitF at h1
                      split at h1
                      · rename_i h2; exact Nat.eq_of_beq_eq_true h2
                      · cases h1
                    · cases h
                  | cons b a => simp [fitFs] at h
                | cons t ts ih =>
                  intro a x y h
                  cases a with
                  | nil => simp [fitFs] at h
                  | cons b a =>
                    have h' : fitFs S (t :: ts) (b :: a) = true := by
                      simp only [fitFs] at h
                      split at h
                      · simpa only [fitFs] using h
                      · cases h
                    exact ih a t b h'
              exact gen _ _ _ _ hff
            refine ⟨j', Cj, ρ'.sb S, w', f', fs', hj, ?_, o1, by show ρ'.z = z; rw [hsame.z]; exact hz, o2, hst, hbj.trans hbot⟩
            simp only [viewOk] at hv
            split at hv
            · rename_i d1
              split at hv
              · rename_i d2
                rw [e2] at d1 d2
                have a1 := den_le_t.1 (dec_den (hsame.ok hρ) (R'.pc.cons (p := .lit true) rfl) _ _ d1)
                have a2 := den_le_t.1 (dec_den (hsame.ok hρ) (R'.pc.cons (p := .lit true) rfl) _ _ d2)
                simp only [IE.den] at a1 a2
                rw [IE.sb_den] at a2
                rw [IE.den_same hsame] at a1 a2
                omega
              · cases hv
            · cases hv
  intro q
  induction q with
  | zero =>
    intro k C ρ w f fs cs hk hm hρ hz R
    rcases one k C ρ w f fs cs hk hρ hz R with h | ⟨j, C', ρ', w', f', fs', h1, h2, _⟩
    · exact h
    · omega
  | succ q ih =>
    intro k C ρ w f fs cs hk hm hρ hz R
    rcases one k C ρ w f fs cs hk hρ hz R with h | ⟨j, C', ρ', w', f', fs', h1, h2, h3, h4, h5, h6, h7⟩
    · exact h
    · obtain ⟨w2, f2, g1, g2, g3, g4⟩ := ih j C' ρ' w' f' fs' cs h1 (by omega) h3 h4 h5
      exact ⟨w2, f2, Steps.trans h6 g1, g2, g3.trans h7, g4⟩
/- slots of a template -/
def opqL (base : Nat) : Nat → List SV
  | 0 => []
  | n + 1 => .opq base :: opqL (base + 16) n
noncomputable def opqS (base n : Nat) : Slots := chunk n (opqL base n)
noncomputable def over (t : Slots) : List (Nat × SV) → Slots
  | [] => t
  | (i, v) :: l => over (put2 t i v) l
/-- A call as a configuration. -/
def start (F : Func) (c : Code) (g : FuncId) (args : List SV) (pc : List BE) : Cfg := { top := frameOf g F c args, rest := [], heap := [], next := 0, pc := pc }
theorem drive_call (hT : T.Ok P) (n : Nat) (tm : List (Nat × Cfg)) (m : Nat → IE) (hok : ∀ k C, lk tm k = some C → cfgOk C = true) (hseg : ∀ k C, lk tm k = some C → segL T sel n tm m k C = segR T sel n tm C) {w : World} {ρ : Rho} (hρ : ρ.Ok)
    (hO : ∀ σ : Rho, σ.Ok → σ.z = ρ.z → OracOk P w T.orac σ) {g : FuncId} {F : Func} {c : Code} {args : List SV} {pc : List BE} {k0 : Nat} (hF : T.fn.get g = some F) (hc : F.body = some c) (h0 : lk tm k0 = some (start F c g args pc)) (hp : Holds ρ pc) (hn : SV.namesL args = []) :
    Calls P g (SV.denL ρ args).toArray w fun e w' => e = .returned (.bool true) ∧ w.grownBy w' none := by
  have hnl : NamesL 0 args := by rw [NamesL.iff, hn]; simp
  have H0 : HeapR ρ w [] w := ⟨⟨rfl, rfl, rfl, Nat.le_refl _, fun _ _ _ => rfl⟩, fun n o hh => by simp [lk_nil] at hh, fun n o hh => by simp [lk_nil] at hh, fun n m o p hh => by simp [lk_nil] at hh⟩
  have R : CfgR ρ w (start F c g args pc) w (Frame.enter P g (SV.denL ρ args).toArray .normal) [] :=
    ⟨(enter_R hT hF hc hnl).1, .nil, H0, fun n o hh => by simp [start, lk_nil] at hh, hp⟩
  intro cs
  obtain ⟨w', f', hst, hlv, hfn, hg⟩ := drive hT n tm m hok hseg ρ.z hO _ k0 _ ρ w _ [] cs h0 (Nat.le_refl _) hρ rfl R
  exact ⟨.returned (.bool true), w', f', ⟨rfl, hg⟩, hst, hfn, hlv⟩
end
end Go.Proofs.Ytjgkaimgocnkmab.Sx
