/- A reckoner of Go's small steps over letters: loops, from template to template. No condition. -/
import Derived.Test.YtjgkaimgocnkmabSc2
set_option linter.unusedVariables false
set_option linter.unusedSimpArgs false
set_option linter.deprecated false
namespace Go.Proofs.Ytjgkaimgocnkmab.Sx
open Go
section
variable {P : Program} {T : Tab} {b0 : World} {sel : Sel}
def PieceOk (P : Program) (b0 : World) (C : Cfg) (ρ : Rho) (w : World) (f : Frame) (fs cs : List Frame) : Piece → Prop
  | .done lf => Holds ρ lf.pc ∧ ∃ ρ' w' f', Same ρ ρ' ∧ Steps P (lone f (fs ++ cs) w) (lone f' cs w') ∧ f'.leaving P w' (.returned (lf.val.den ρ')) ∧ f'.fn = bot C.top C.rest ∧ HeapR ρ' b0 lf.heap w'
  | .cut _ C' => Holds ρ C'.pc ∧ ∃ ρ' w' f' fs', Same ρ ρ' ∧ Steps P (lone f (fs ++ cs) w) (lone f' (fs' ++ cs) w') ∧ CfgR ρ' b0 C' w' f' fs' ∧ bot C'.top C'.rest = bot C.top C.rest
theorem PieceOk.before {C C1 : Cfg} {ρ ρ1 : Rho} {w w1 : World} {f f1 : Frame} {fs fs1 cs : List Frame} {p : Piece} (g : Same ρ ρ1) (hst : Steps P (lone f (fs ++ cs) w) (lone f1 (fs1 ++ cs) w1)) (hb : bot C1.top C1.rest = bot C.top C.rest) (h : PieceOk P b0 C1 ρ1 w1 f1 fs1 cs p) : PieceOk P b0 C ρ w f fs cs p := by
  cases p with
  | done lf =>
    obtain ⟨h1, ρ', w', f', h2, h3, h4, h5, h6⟩ := h
    exact ⟨(g.holds).1 h1, ρ', w', f', g.trans h2, Steps.trans hst h3, h4, h5.trans hb, h6⟩
  | cut k C' =>
    obtain ⟨h1, ρ', w', f', fs', h2, h3, h4, h5⟩ := h
    exact ⟨(g.holds).1 h1, ρ', w', f', fs', g.trans h2, Steps.trans hst h3, h4, h5.trans hb⟩
theorem overC_ok {k : Cfg → POut} : ∀ (l : List Cfg) (ls : List Piece), overC k l = .ok ls → ∀ x ∈ l, ∃ lx, k x = .ok lx ∧ ∀ p ∈ lx, p ∈ ls
  | [], ls, h, x, hx => by simp at hx
  | y :: l, ls, h, x, hx => by
    simp only [overC] at h
    cases h1 : k y with
    | fail a b => rw [h1] at h; cases h
    | ok ly =>
      cases h2 : overC k l with
      | fail a b => rw [h1, h2] at h; cases h
      | ok ll =>
        rw [h1, h2] at h
        simp only [POut.app, POut.ok.injEq] at h
        subst h
        rcases List.mem_cons.1 hx with rfl | hx
        · exact ⟨ly, h1, fun p hp => List.mem_append.2 (.inl hp)⟩
        · obtain ⟨lx, h3, h4⟩ := overC_ok l ll h2 x hx
          exact ⟨lx, h3, fun p hp => List.mem_append.2 (.inr (h4 p hp))⟩
theorem runC_ok (hT : T.Ok P) : ∀ (n : Nat) (C : Cfg) (ls : List Piece), runC T sel n C = .ok ls → ∀ (ρ : Rho) (w : World) (f : Frame) (fs cs : List Frame), ρ.Ok → OracOk P b0 T.orac ρ → CfgR ρ b0 C w f fs → ∃ p ∈ ls, PieceOk P b0 C ρ w f fs cs p := by
  intro n
  induction n with
  | zero => intro C ls h; simp [runC] at h
  | succ n ih =>
    intro C ls h ρ w f fs cs hρ hO R
    have hstep := stepS_ok (sub := runS T n) hT (runS_ok hT n) hρ hO R n cs
    simp only [runC] at h
    split at h
    · rename_i C' hC'
      rw [hC'] at hstep
      obtain ⟨_, ρ1, w1, f1, fs1, R1, hm, hst, hbot⟩ := hstep
      have go : runC T sel n C' = .ok ls → ∃ p ∈ ls, PieceOk P b0 C ρ w f fs cs p := by
        intro h
        obtain ⟨p, hp, hk⟩ := ih C' ls h ρ1 w1 f1 fs1 cs (hm.agr.ok hρ) (hO.agr hm.agr) R1
        exact ⟨p, hp, hk.before hm.agr.same hst hbot⟩
      split at h
      · split at h
        · rename_i k hk
          simp only [POut.ok.injEq] at h
          subst h
          exact ⟨_, List.mem_singleton.2 rfl, (hm.agr.holds).1 R1.pc, ρ1, w1, f1, fs1, hm.agr.same, hst, R1, hbot⟩
        · exact go h
      · exact go h
    · rename_i l hl
      rw [hl] at hstep
      obtain ⟨_, C', hC', ρ1, w1, f1, fs1, R1, hm, hst, hbot⟩ := hstep
      obtain ⟨lx, h1, h2⟩ := overC_ok l ls h C' hC'
      obtain ⟨p, hp, hk⟩ := ih C' lx h1 ρ1 w1 f1 fs1 cs (hm.agr.ok hρ) (hO.agr hm.agr) R1
      exact ⟨p, h2 p hp, hk.before hm.agr.same hst hbot⟩
    · rename_i c hc
      rw [fBE_eq] at h
      cases h1 : runC T sel n { C with pc := c :: C.pc } with
      | fail a b => rw [h1] at h; cases h
      | ok l1 =>
        cases h2 : runC T sel n { C with pc := .not c :: C.pc } with
        | fail a b => rw [h1, h2] at h; cases h
        | ok l2 =>
          rw [h1, h2] at h
          simp only [POut.app, POut.ok.injEq] at h
          subst h
          cases hd : c.den ρ with
          | true =>
            obtain ⟨p, hp, hk⟩ := ih _ _ h1 ρ w f fs cs hρ hO ⟨R.top, R.rest, R.heap, R.names, R.pc.cons hd⟩
            refine ⟨p, List.mem_append.2 (.inl hp), ?_⟩
            cases p <;> exact hk
          | false =>
            obtain ⟨p, hp, hk⟩ := ih _ _ h2 ρ w f fs cs hρ hO ⟨R.top, R.rest, R.heap, R.names, R.pc.cons (by simp [den_not, hd])⟩
            refine ⟨p, List.mem_append.2 (.inr hp), ?_⟩
            cases p <;> exact hk
    · rename_i v hv
      rw [hv] at hstep
      obtain ⟨h1, h2, h3, _⟩ := hstep
      simp only [POut.ok.injEq] at h
      subst h
      have hfs : fs = [] := by
        have := R.rest
        rw [h1] at this
        cases this; rfl
      subst hfs
      refine ⟨_, List.mem_singleton.2 rfl, R.pc, ρ, w, f, .refl ρ, .refl _ _, h2, ?_, R.heap⟩
      rw [h3, h1]; rfl
    · cases h
end
/- what is asked of a way's end -/
noncomputable section
/-- What must be shown equal. -/
inductive G where
  | i (a b : IE)
  | b (a b : BE)
  | l (a b : LE)
def G.den (ρ : Rho) : G → Prop
  | .i x y => x.den ρ = y.den ρ
  | .b x y => x.den ρ = y.den ρ
  | .l x y => x.den ρ = y.den ρ
def gI (pc : List BE) (a b : IE) : List G := if a.beq b then [] else (match dec pc (mkEq a b) with
  | some true => []
  | _ => [.i a b])
def gB (pc : List BE) (a b : BE) : List G := if a.beq b then [] else (match dec pc (mkIff a b) with
  | some true => []
  | _ => (match dec (b :: pc) a, dec (mkNot b :: pc) a with
    | some true, some false => []
    | _, _ => [.b a b]))
def gL (a b : LE) : List G := if a.beq b then [] else [.l a b]
def oG (a b : Option (List G)) : Option (List G) := match a, b with
  | some x, some y => some (x ++ y)
  | _, _ => none
def gV (roms : List (Nat × (Nat × List CK))) (pc : List BE) (S : Sub) : SV → SV → Option (List G)
  | .bool a, .bool b => some (gB pc a b)
  | .int k a, .int j b => if keq k j then some (gI pc a b) else none
  | .lstr a, y => (match asL roms pc y with
    | some m => some (gL a m)
    | none => none)
  | .sll n cn z (.lit (.ofNat 0)) len none, .sll m dn y (.lit (.ofNat 0)) len' none => if Nat.beq (nmA S.a n) m then (if Nat.beq (nmA S.a cn) dn then (if Nat.beq z y then some (gI pc len len') else none) else none) else none
  | .const (.slice none 0 0), .const (.slice none 0 0) => some []
  | _, _ => none
def gVs (roms : List (Nat × (Nat × List CK))) (pc : List BE) (S : Sub) : List SV → List SV → Option (List G)
  | [], [] => some []
  | v :: l, u :: m => oG (gV roms pc S v u) (gVs roms pc S l m)
  | _, _ => none
def gV1 (roms : List (Nat × (Nat × List CK))) (pc : List BE) (S : Sub) : SV → SV → Option (List G)
  | .agg l, .agg m => gVs roms pc S l m
  | v, u => gV roms pc S v u
def gV1s (roms : List (Nat × (Nat × List CK))) (pc : List BE) (S : Sub) : List SV → List SV → Option (List G)
  | [], [] => some []
  | v :: l, u :: m => oG (gV1 roms pc S v u) (gV1s roms pc S l m)
  | _, _ => none
def gV2 (roms : List (Nat × (Nat × List CK))) (pc : List BE) (S : Sub) : SV → SV → Option (List G)
  | .tup l, .tup m => gV1s roms pc S l m
  | v, u => gV1 roms pc S v u
def gH (pc : List BE) (S : Sub) (h : SHeap) : SHeap → Option (List G)
  | [] => some []
  | (n, .rowl c tot ks t cn sz) :: l => (match lk h (nmA S.a n) with
    | some (.rowl c' tot' js u dn zs) => if Nat.beq t u then (if Nat.beq (nmA S.a cn) dn then (if Nat.beq sz zs then (if ksEq ks js then oG (some (gL c c' ++ gI pc tot tot')) (gH pc S h l) else none) else none) else none) else none
    | _ => none)
  | _ => none
def leafG (roms : List (Nat × (Nat × List CK))) (c : Ctr) (l : Leaf) : Option (List G) :=
  match colH l.heap c.heap (colV c.res l.val Sub.nil) with
  | S => if apartN S c.heap [] then oG (gV2 roms (.lit true :: l.pc) S c.res l.val) (gH (.lit true :: l.pc) S l.heap c.heap) else none
/-- A way, stripped. -/
inductive VW where
  | done (pc : List BE) (g : Option (List G))
  | cut (k : Nat) (pc : List BE) (S : Sub)
  | bad (k why : Nat)
def stripV (roms : List (Nat × (Nat × List CK))) (c : Ctr) : View → VW
  | .done l => .done l.pc (leafG roms c l)
  | .cut k pc S _ => .cut k pc ⟨S.i, S.b, S.l, [], [], S.r⟩
  | .bad k w _ _ => .bad k w
def stripL (roms : List (Nat × (Nat × List CK))) (c : Ctr) : List View → List VW
  | [] => []
  | v :: l => stripV roms c v :: stripL roms c l
def codesL : List View → List (Nat × List (List SItem))
  | [] => []
  | .cut j _ _ X :: l => (j, X) :: codesL l
  | _ :: l => codesL l
def codesR (tm : List (Nat × Cfg)) : List View → List (Nat × List (List SItem))
  | [] => []
  | .cut j _ S _ :: l => (j, (match lk tm j with
    | some C => codesOf S C
    | none => [])) :: codesR tm l
  | _ :: l => codesR tm l
def views : VOut → List View
  | .ok l => l
  | .fail _ _ => []
def isOkV : VOut → Bool
  | .ok _ => true
  | .fail _ _ => false
/-- A segment: its run; whether it ends; its codes; its ways. -/
def seg (T : Tab) (sel : Sel) (n : Nat) (tm : List (Nat × Cfg)) (C : Cfg) : VOut := viewO T.orac.rom tm (runC T sel n C)
def segL (roms : List (Nat × (Nat × List CK))) (c : Ctr) (o : VOut) : Bool × List (Nat × List (List SItem)) × List VW := (isOkV o, codesL (views o), stripL roms c (views o))
end
/-- Letters alone. -/
structure Lt where
  i : IntKind → Nat → Int
  b : Nat → Bool
  l : Nat → LV
  z : Env
def Rho.lt (ρ : Rho) : Lt := ⟨ρ.i, ρ.b, ρ.l, ρ.z⟩
theorem Same.lt {ρ ρ' : Rho} (h : Same ρ ρ') : ρ'.lt = ρ.lt := by
  unfold Rho.lt; rw [h.i, h.b, h.l, h.z]
/-- What is known of a template's rows. -/
def RowsF (h : SHeap) (ρ : Rho) : Prop := ∀ n c tot ks t cn sz, lk h n = some (.rowl c tot ks t cn sz) → Typed ks (c.den ρ) ∧ tot.den ρ = ((c.den ρ).length : Int)
structure Known (T : Tab) (C : Cfg) (ρ : Rho) : Prop where
  ok : ρ.Ok
  F : ρ.z.F = T.orac.F
  rom : RTyped T.orac.rom ρ
  rows : RowsF C.heap ρ
/-- What is to be shown of a way. -/
def VC (T : Tab) (inv : Nat → Lt → Prop) (ms : Nat → Lt → Nat) (k : Nat) (C : Cfg) : VW → Prop
  | .done pc (some gs) => ∀ ρ, Known T C ρ → inv k ρ.lt → Holds ρ pc → ∀ g ∈ gs, g.den ρ
  | .cut j pc S => ∀ ρ, Known T C ρ → inv k ρ.lt → Holds ρ pc → inv j (ρ.sb S).lt ∧ ms j (ρ.sb S).lt < ms k ρ.lt
  | _ => False
section
variable {P : Program} {T : Tab} {b0 : World} {sel : Sel} {ρ : Rho}
theorem viewL_mem {roms : List (Nat × (Nat × List CK))} {tm : List (Nat × Cfg)} : ∀ {l : List Piece} {p : Piece}, p ∈ l → viewP roms tm p ∈ viewL roms tm l
  | x :: l, p, h => by
    rcases List.mem_cons.1 h with rfl | h
    · exact List.mem_cons_self ..
    · exact List.mem_cons_of_mem _ (viewL_mem h)
theorem stripL_mem {roms : List (Nat × (Nat × List CK))} {c : Ctr} : ∀ {l : List View} {v : View}, v ∈ l → stripV roms c v ∈ stripL roms c l
  | x :: l, v, h => by
    rcases List.mem_cons.1 h with rfl | h
    · exact List.mem_cons_self ..
    · exact List.mem_cons_of_mem _ (stripL_mem h)
theorem codes_mem {tm : List (Nat × Cfg)} : ∀ {l : List View}, codesL l = codesR tm l → ∀ j pc S X, View.cut j pc S X ∈ l → X = (match lk tm j with
    | some C => codesOf S C
    | none => [])
  | [], _, j, pc, S, X, hv => by simp at hv
  | x :: l, h, j, pc, S, X, hv => by
    cases x with
    | cut j' pc' S' X' =>
      simp only [codesL, codesR, List.cons.injEq, Prod.mk.injEq, true_and] at h
      rcases List.mem_cons.1 hv with e | hv
      · cases e; exact h.1
      · exact codes_mem h.2 j pc S X hv
    | done lf =>
      rcases List.mem_cons.1 hv with e | hv
      · cases e
      · exact codes_mem (show codesL l = codesR tm l from h) j _ S X hv
    | bad k y S C =>
      rcases List.mem_cons.1 hv with e | hv
      · cases e
      · exact codes_mem (show codesL l = codesR tm l from h) j pc _ X hv
theorem rowsF {h : SHeap} {w : World} (H : HeapR ρ b0 h w) : RowsF h ρ := by
  intro n c tot ks t cn sz hl
  obtain ⟨obj, ho, rest, lo, hi, rfl, _, _, _, _, _, ht, htot⟩ := H.at_ n _ hl
  exact ⟨ht, htot⟩
theorem rowsF_same {ρ' : Rho} {h : SHeap} (g : Same ρ ρ') (H : RowsF h ρ) : RowsF h ρ' := by
  intro n c tot ks t cn sz hl
  have := H n c tot ks t cn sz hl
  rw [LE.den_same g, IE.den_same g]; exact this
theorem bot_fit {pc : List BE} {S : Sub} : ∀ (t a : List SFrame) (x y : SFrame), fitFs pc S (x :: t) (y :: a) = true → bot x t = bot y a := by
  intro t
  induction t with
  | nil =>
    intro a x y h
    cases a with
    | nil =>
      simp only [fitFs] at h
      split at h
      · rename_i h1
        unfold fitF at h1
        split at h1
        · rename_i h2; exact Nat.eq_of_beq_eq_true h2
        · cases h1
      · cases h
    | cons b a => simp [fitFs] at h
  | cons t ts ih =>
    intro a x y h
    cases a with
    | nil => simp [fitFs] at h
    | cons b a =>
      have h' : fitFs pc S (t :: ts) (b :: a) = true := by
        simp only [fitFs] at h
        split at h
        · simpa only [fitFs] using h
        · cases h
      exact ih a t b h'
theorem fit_frames {roms : List (Nat × (Nat × List CK))} {k : Nat} {Ck C : Cfg} {k' : Nat} {pc : List BE} {S0 S : Sub} {X : List (List SItem)} (hfit : fitWith roms k Ck C S0 = .cut k' pc S X) : fitFs C.pc S0 (Ck.top :: Ck.rest) (C.top :: C.rest) = true ∧ k' = k ∧ pc = C.pc := by
  unfold fitWith at hfit
  split at hfit
  · rename_i h1
    refine ⟨h1, ?_⟩
    (repeat' split at hfit) <;> first
      | (cases hfit; exact ⟨rfl, rfl⟩)
      | (cases hfit; done)
  · cases hfit
/-- From template to template, to the end. -/
theorem drive (hT : T.Ok P) (n : Nat) (c : Ctr) (tm : List (Nat × Cfg)) (inv : Nat → Lt → Prop) (ms : Nat → Lt → Nat) (vw : Nat → List VW) (hok : ∀ k C, lk tm k = some C → cfgOk C = true) (hseg : ∀ k C, lk tm k = some C → segL T.orac.rom c (seg T sel n tm C) = (true, codesR tm (views (seg T sel n tm C)), vw k))
    (hvc : ∀ k C, lk tm k = some C → ∀ v ∈ vw k, VC T inv ms k C v) (hlean : ∀ k C, lk tm k = some C → ∀ ρ, Known T C ρ → inv k ρ.lt → Holds ρ (leanOf C.pc)) (z : Env) (hO : ∀ ρ : Rho, ρ.Ok → ρ.z = z → OracOk P b0 T.orac ρ) : ∀ (q k : Nat) (C : Cfg) (ρ : Rho) (w : World) (f : Frame) (fs cs : List Frame), lk tm k = some C → ms k ρ.lt ≤ q → ρ.Ok → ρ.z = z → CfgR ρ b0 C w f fs → inv k ρ.lt →
    ∃ lf gs ρ' w' f', Frz ρ ρ' ∧ ρ'.Ok ∧ Steps P (lone f (fs ++ cs) w) (lone f' cs w') ∧ f'.leaving P w' (.returned (lf.val.den ρ')) ∧ f'.fn = bot C.top C.rest ∧ HeapR ρ' b0 lf.heap w' ∧ Holds ρ' lf.pc ∧ leafG T.orac.rom c lf = some gs ∧ ∀ g ∈ gs, g.den ρ' := by
  have one : ∀ (k : Nat) (C : Cfg) (ρ : Rho) (w : World) (f : Frame) (fs cs : List Frame), lk tm k = some C → ρ.Ok → ρ.z = z → CfgR ρ b0 C w f fs → inv k ρ.lt →
      (∃ lf gs ρ' w' f', Frz ρ ρ' ∧ ρ'.Ok ∧ Steps P (lone f (fs ++ cs) w) (lone f' cs w') ∧ f'.leaving P w' (.returned (lf.val.den ρ')) ∧ f'.fn = bot C.top C.rest ∧ HeapR ρ' b0 lf.heap w' ∧ Holds ρ' lf.pc ∧ leafG T.orac.rom c lf = some gs ∧ ∀ g ∈ gs, g.den ρ') ∨
      (∃ j C' ρ' w' f' fs', lk tm j = some C' ∧ ms j ρ'.lt < ms k ρ.lt ∧ ρ'.Ok ∧ ρ'.z = z ∧ Frz ρ ρ' ∧ CfgR ρ' b0 C' w' f' fs' ∧ inv j ρ'.lt ∧ Steps P (lone f (fs ++ cs) w) (lone f' (fs' ++ cs) w') ∧ bot C'.top C'.rest = bot C.top C.rest) := by
    intro k C ρ w f fs cs hk hρ hz R hi
    have hs := hseg k C hk
    simp only [segL, Prod.mk.injEq] at hs
    obtain ⟨s1, s2, s3⟩ := hs
    have hO' := hO ρ hρ hz
    have known : Known T C ρ := ⟨hρ, hO'.F, hO'.rom.typed, rowsF R.heap⟩
    unfold seg at s1 s2 s3
    cases hr : runC T sel n C with
    | fail a b => rw [hr] at s1; simp [viewO, isOkV] at s1
    | ok ls =>
      rw [hr] at s2 s3
      simp only [viewO, views] at s2 s3
      obtain ⟨p, hp, hpk⟩ := runC_ok hT n C ls hr ρ w f fs cs hρ hO' R
      have hvm := viewL_mem (roms := T.orac.rom) (tm := tm) hp
      have hsm := stripL_mem (roms := T.orac.rom) (c := c) hvm
      rw [s3] at hsm
      have hv := hvc k C hk _ hsm
      have known' : ∀ ρ', Same ρ ρ' → Known T C ρ' := fun ρ' hsame => ⟨hsame.ok hρ, by rw [hsame.z]; exact hO'.F, (by intro r esz ks hl; rw [hsame.z]; exact hO'.rom.typed r esz ks hl), rowsF_same hsame known.rows⟩
      cases p with
      | done lf =>
        obtain ⟨hh, ρ', w', f', hsame, hst, hlv, hfn, hH⟩ := hpk
        left
        simp only [viewP, stripV] at hv
        cases hg : leafG T.orac.rom c lf with
        | none => rw [hg] at hv; exact absurd hv id
        | some gs =>
          rw [hg] at hv
          exact ⟨lf, gs, ρ', w', f', hsame.frz, hsame.ok hρ, hst, hlv, hfn, hH, (hsame.holds).2 hh, hg, hv ρ' (known' ρ' hsame) (by rw [hsame.lt]; exact hi) ((hsame.holds).2 hh)⟩
      | cut j C' =>
        obtain ⟨hh, ρ', w', f', fs', hsame, hst, R', hbot⟩ := hpk
        right
        simp only [viewP] at hv hvm
        cases hj : lk tm j with
        | none => rw [hj] at hv; exact absurd hv id
        | some Cj =>
          rw [hj] at hv hvm
          simp only [] at hv hvm
          cases hfit : fitWith T.orac.rom j Cj C' (subOf Cj C') with
          | done lf => unfold fitWith at hfit; (repeat' split at hfit) <;> cases hfit
          | bad a b c d => rw [hfit] at hv; exact absurd hv id
          | cut j' pc S X =>
            rw [hfit] at hv hvm
            have hX := codes_mem s2 _ _ _ _ hvm
            obtain ⟨hff, hjj, e2⟩ := fit_frames hfit
            subst hjj
            rw [hj] at hX
            have kn := known' ρ' hsame
            have hpc : Holds ρ' pc := by rw [e2]; exact R'.pc
            obtain ⟨v1, v2⟩ : inv j' (ρ'.sb S).lt ∧ ms j' (ρ'.sb S).lt < ms k ρ'.lt := hv ρ' kn (by rw [hsame.lt]; exact hi) hpc
            obtain ⟨_, _, o1, o3, o2⟩ := fit_ok hfit hX (hok j' Cj hj) kn.ok kn.rom R' (fun k1 kf k2 => hlean j' Cj hj _ ⟨k1, by rw [kf.z]; exact kn.F, (by intro r esz ks hr; rw [kf.z]; exact kn.rom r esz ks hr), rowsF k2⟩ v1)
            rw [hsame.lt] at v2
            exact ⟨j', Cj, ρ'.sb S, w', f', fs', hj, v2, o1, by rw [o3.z, hsame.z]; exact hz, hsame.frz.trans o3, o2, v1, hst, (bot_fit _ _ _ _ hff).trans hbot⟩
  intro q
  induction q with
  | zero =>
    intro k C ρ w f fs cs hk hm hρ hz R hi
    rcases one k C ρ w f fs cs hk hρ hz R hi with h | ⟨j, C', ρ', w', f', fs', h1, h2, _⟩
    · exact h
    · omega
  | succ q ih =>
    intro k C ρ w f fs cs hk hm hρ hz R hi
    rcases one k C ρ w f fs cs hk hρ hz R hi with h | ⟨j, C', ρ', w', f', fs', h1, h2, h3, h4, h5, h6, h7, h8, h9⟩
    · exact h
    · obtain ⟨lf, gs, ρ2, w2, f2, g1, g2, g3, g4, g5, g6⟩ := ih j C' ρ' w' f' fs' cs h1 (by omega) h3 h4 h6 h7
      exact ⟨lf, gs, ρ2, w2, f2, h5.trans g1, g2, Steps.trans h8 g3, g4, g5.trans h9, g6⟩
/- what a way's end gives -/
theorem gI_ok {pc : List BE} {a b : IE} (hρ : ρ.Ok) (hp : Holds ρ pc) (h : ∀ g ∈ gI pc a b, g.den ρ) : a.den ρ = b.den ρ := by
  unfold gI at h
  split at h
  · rename_i hb; rw [IE.beq_eq _ _ hb]
  · split at h
    · rename_i hd; exact dec_eq hρ hp hd
    · exact h _ (List.mem_singleton.2 rfl)
theorem gB_ok {pc : List BE} {a b : BE} (hρ : ρ.Ok) (hp : Holds ρ pc) (h : ∀ g ∈ gB pc a b, g.den ρ) : a.den ρ = b.den ρ := by
  unfold gB at h
  split at h
  · rename_i hb; rw [BE.beq_eq _ _ hb]
  · split at h
    · rename_i hd
      have := dec_den hρ hp _ _ hd
      rw [mkIff_den] at this
      exact of_decide_eq_true (by simpa using this)
    · split at h
      · rename_i h1 h2
        cases hb : b.den ρ with
        | true => exact dec_den hρ (hp.cons hb) _ _ h1
        | false => exact dec_den hρ (hp.cons (p := mkNot b) (by rw [mkNot_den, hb]; rfl)) _ _ h2
      · exact h _ (List.mem_singleton.2 rfl)
theorem gL_ok {a b : LE} (h : ∀ g ∈ gL a b, g.den ρ) : a.den ρ = b.den ρ := by
  unfold gL at h
  split at h
  · rename_i hb; rw [LE.beq_eq _ _ hb]
  · exact h _ (List.mem_singleton.2 rfl)
theorem oG_some {a b : Option (List G)} {gs : List G} (h : oG a b = some gs) : ∃ x y, a = some x ∧ b = some y ∧ gs = x ++ y := by
  unfold oG at h
  split at h
  · cases h; exact ⟨_, _, rfl, rfl, rfl⟩
  · cases h
variable {ρ' : Rho} {roms : List (Nat × (Nat × List CK))} {pc : List BE} {S : Sub}
/-- Values whose parts are equal. -/
theorem gV_ok (hρ : ρ.Ok) (hp : Holds ρ pc) (hr : RTyped roms ρ) (hb : Base ρ ρ') {N : Nat} (ha : ∀ n, n < N → ρ'.a n = ρ.a (nmA S.a n)) {v u : SV} {gs : List G} (hf : v.flat = true) (hn : NamesV N v) (h : gV roms pc S v u = some gs) (hg : ∀ g ∈ gs, g.den ρ) : v.den ρ' = u.den ρ := by
  unfold gV at h
  split at h
  · cases h
    simp only [SV.flat] at hf
    simp only [SV.den, BE.free_den hb _ hf, gB_ok hρ hp hg]
  · split at h
    · rename_i hk
      cases h
      simp only [SV.flat] at hf
      simp only [SV.den, IE.free_den hb _ hf, gI_ok hρ hp hg, (keq_iff _ _).1 hk]
    · cases h
  · split at h
    · rename_i m hm
      cases h
      simp only [SV.flat] at hf
      rw [(asL_ok hρ hp hr hm).1]
      simp only [SV.den, LE.free_den hb _ hf, gL_ok hg]
    · cases h
  · rename_i n cn z len m dn y len'
    split at h
    · rename_i h1
      split at h
      · rename_i h2
        split at h
        · rename_i h3
          cases h
          simp only [SV.flat] at hf
          have e1 : nmA S.a n = m := by simpa using h1
          have e2 : nmA S.a cn = dn := by simpa using h2
          have e3 : z = y := by simpa using h3
          simp only [SV.den, capDen, IE.free_den hb _ hf, gI_ok hρ hp hg, ha n (hn n (by simp [SV.names])), ha cn (hn cn (by simp [SV.names])), e1, e2, e3, IE.den]
        · cases h
      · cases h
    · cases h
  · simp only [SV.den]
  · cases h
theorem gVs_ok (hρ : ρ.Ok) (hp : Holds ρ pc) (hr : RTyped roms ρ) (hb : Base ρ ρ') {N : Nat} (ha : ∀ n, n < N → ρ'.a n = ρ.a (nmA S.a n)) : ∀ {v u : List SV} {gs : List G}, flatL v = true → (∀ m ∈ SV.namesL v, m < N) → gVs roms pc S v u = some gs → (∀ g ∈ gs, g.den ρ) → SV.denL ρ' v = SV.denL ρ u
  | [], [], gs, _, _, h, _ => rfl
  | [], _ :: _, gs, _, _, h, _ => by cases h
  | _ :: _, [], gs, _, _, h, _ => by cases h
  | v :: vs, u :: us, gs, hf, hn, h, hg => by
    simp only [gVs] at h
    obtain ⟨x, y, h1, h2, rfl⟩ := oG_some h
    rw [SV.denL, SV.denL, gV_ok hρ hp hr hb ha (ifb hf).1 (fun m hm => hn m (by simp [SV.namesL, hm])) h1 (fun g hx => hg g (List.mem_append.2 (.inl hx))), gVs_ok hρ hp hr hb ha (ifb hf).2 (fun m hm => hn m (by simp [SV.namesL, hm])) h2 (fun g hx => hg g (List.mem_append.2 (.inr hx)))]
theorem gV1_ok (hρ : ρ.Ok) (hp : Holds ρ pc) (hr : RTyped roms ρ) (hb : Base ρ ρ') {N : Nat} (ha : ∀ n, n < N → ρ'.a n = ρ.a (nmA S.a n)) {v u : SV} {gs : List G} (hf : v.flat1 = true) (hn : NamesV N v) (h : gV1 roms pc S v u = some gs) (hg : ∀ g ∈ gs, g.den ρ) : v.den ρ' = u.den ρ := by
  unfold gV1 at h
  split at h
  · simp only [SV.flat1] at hf
    rw [SV.den, SV.den, gVs_ok hρ hp hr hb ha hf (fun m hm => hn m (by simpa [SV.names] using hm)) h hg]
  · rename_i hno
    refine gV_ok hρ hp hr hb ha ?_ hn h hg
    unfold SV.flat1 at hf
    split at hf
    · rename_i cs
      unfold gV at h
      cases u <;> cases h
    · exact hf
theorem gV1s_ok (hρ : ρ.Ok) (hp : Holds ρ pc) (hr : RTyped roms ρ) (hb : Base ρ ρ') {N : Nat} (ha : ∀ n, n < N → ρ'.a n = ρ.a (nmA S.a n)) : ∀ {v u : List SV} {gs : List G}, flatL1 v = true → (∀ m ∈ SV.namesL v, m < N) → gV1s roms pc S v u = some gs → (∀ g ∈ gs, g.den ρ) → SV.denL ρ' v = SV.denL ρ u
  | [], [], gs, _, _, h, _ => rfl
  | [], _ :: _, gs, _, _, h, _ => by cases h
  | _ :: _, [], gs, _, _, h, _ => by cases h
  | v :: vs, u :: us, gs, hf, hn, h, hg => by
    simp only [gV1s] at h
    obtain ⟨x, y, h1, h2, rfl⟩ := oG_some h
    rw [SV.denL, SV.denL, gV1_ok hρ hp hr hb ha (ifb hf).1 (fun m hm => hn m (by simp [SV.namesL, hm])) h1 (fun g hx => hg g (List.mem_append.2 (.inl hx))), gV1s_ok hρ hp hr hb ha (ifb hf).2 (fun m hm => hn m (by simp [SV.namesL, hm])) h2 (fun g hx => hg g (List.mem_append.2 (.inr hx)))]
theorem gV2_ok (hρ : ρ.Ok) (hp : Holds ρ pc) (hr : RTyped roms ρ) (hb : Base ρ ρ') {N : Nat} (ha : ∀ n, n < N → ρ'.a n = ρ.a (nmA S.a n)) {v u : SV} {gs : List G} (hf : v.flat2 = true) (hn : NamesV N v) (h : gV2 roms pc S v u = some gs) (hg : ∀ g ∈ gs, g.den ρ) : v.den ρ' = u.den ρ := by
  unfold gV2 at h
  split at h
  · simp only [SV.flat2] at hf
    rw [SV.den, SV.den, gV1s_ok hρ hp hr hb ha hf (fun m hm => hn m (by simpa [SV.names] using hm)) h hg]
  · refine gV1_ok hρ hp hr hb ha ?_ hn h hg
    unfold SV.flat2 at hf
    split at hf
    · unfold gV1 gV at h
      cases u <;> cases h
    · exact hf
theorem gH_ok (hρ : ρ.Ok) (hp : Holds ρ pc) {h : SHeap} : ∀ {t : SHeap} {gs : List G}, gH pc S h t = some gs → (∀ g ∈ gs, g.den ρ) → ∀ n o, lk t n = some o → ∃ c tot ks ty cn sz c' tot', o = .rowl c tot ks ty cn sz ∧ lk h (nmA S.a n) = some (.rowl c' tot' ks ty (nmA S.a cn) sz) ∧ c.den ρ = c'.den ρ ∧ tot.den ρ = tot'.den ρ
  | [], gs, _, _, n, o, hl => by rw [lk_nil] at hl; cases hl
  | (m, p) :: t, gs, h1, hg, n, o, hl => by
    unfold gH at h1
    split at h1
    · rename_i hq; cases hq
    · rename_i m' c tot ks ty cn sz l hq
      cases hq
      split at h1
      · rename_i c' tot' js u dn zs hlk
        split at h1
        · rename_i q1
          split at h1
          · rename_i q2
            split at h1
            · rename_i q3
              split at h1
              · rename_i q4
                obtain ⟨x, y, e1, e2, rfl⟩ := oG_some h1
                cases e1
                rw [lk_cons] at hl
                split at hl
                · rename_i he
                  subst he
                  cases hl
                  have p1 : ty = u := by simpa using q1
                  have p2 : nmA S.a cn = dn := by simpa using q2
                  have p3 : sz = zs := by simpa using q3
                  have p4 := ksEq_eq _ _ q4
                  subst p1; subst p2; subst p3; subst p4
                  exact ⟨c, tot, ks, ty, cn, sz, c', tot', rfl, hlk, gL_ok (fun g hx => hg g (by simp [hx])), gI_ok hρ hp (fun g hx => hg g (by simp [hx]))⟩
                · exact gH_ok hρ hp e2 (fun g hx => hg g (List.mem_append.2 (.inr hx))) n o hl
              · cases h1
            · cases h1
          · cases h1
        · cases h1
      · cases h1
    · cases h1
/-- A call by templates: what is told of it. -/
theorem ctr_of (hT : T.Ok P) (n : Nat) (c : Ctr) (tm : List (Nat × Cfg)) (inv : Nat → Lt → Prop) (ms : Nat → Lt → Nat) (vw : Nat → List VW) (k0 : Nat) {F : Func} {code : Code} (hF : T.fn.get c.f = some F) (hc : F.body = some code) {pc0 : List BE}
    (hrom : T.orac.rom = c.roms) (hflat : c.res.flat2 = true ∧ flatH c.heap = true ∧ freeL c.post = true ∧ freeL c.pre = true) (hnames : HNames c.cnt c.heap ∧ NamesV c.cnt c.res ∧ SV.namesL c.pat = [] ∧ ∀ p ∈ c.heap, p.1 < c.cnt)
    (hok : ∀ k C, lk tm k = some C → cfgOk C = true) (hseg : ∀ k C, lk tm k = some C → segL T.orac.rom c (seg T sel n tm C) = (true, codesR tm (views (seg T sel n tm C)), vw k)) (hvc : ∀ k C, lk tm k = some C → ∀ v ∈ vw k, VC T inv ms k C v)
    (hlean : ∀ k C, lk tm k = some C → ∀ ρ, Known T C ρ → inv k ρ.lt → Holds ρ (leanOf C.pc)) (h0 : lk tm k0 = some { top := frameOf c.f F code c.pat, rest := [], heap := [], next := 0, pc := pc0 }) (hpre : ∀ ρ : Rho, Gd T.orac.F ρ → Holds ρ c.pre → Holds ρ pc0) (hi : ∀ ρ : Rho, Gd T.orac.F ρ → RTyped c.roms ρ → Holds ρ c.pre → inv k0 ρ.lt)
    (hl : T.orac.l = []) (hct : ∀ d ∈ T.orac.ctr, CtrOk P T.orac.F d) : CtrOk P T.orac.F c := by
  refine ⟨hflat, hnames, ?_⟩
  intro ρ w gd hro hp
  have hnl : NamesL 0 c.pat := by rw [NamesL.iff, hnames.2.2.1]; simp
  have H0 : HeapR ρ w [] w := ⟨⟨rfl, rfl, rfl, Nat.le_refl _, fun _ _ _ => rfl⟩, fun n o hh => by simp [lk_nil] at hh, fun n o hh => by simp [lk_nil] at hh, fun n m o p hh => by simp [lk_nil] at hh⟩
  have R : CfgR ρ w { top := frameOf c.f F code c.pat, rest := [], heap := [], next := 0, pc := pc0 } w (Frame.enter P c.f (SV.denL ρ c.pat).toArray .normal) [] :=
    ⟨(enter_R hT hF hc hnl).1, .nil, H0, fun n o hh => by simp [lk_nil] at hh, hpre ρ gd hp⟩
  have hO : ∀ σ : Rho, σ.Ok → σ.z = ρ.z → OracOk P w T.orac σ := by
    intro σ hσ hz
    have gσ : Gd T.orac.F σ := ⟨hσ, by rw [hz]; exact gd.F⟩
    refine ⟨(fun o ho => by rw [hl] at ho; cases ho), ?_, gσ.F, hct⟩
    show RomsOk T.orac.rom w σ
    rw [hrom]
    refine ⟨by rw [hz]; exact hro.1, ?_⟩
    intro r esz cl hr
    have := hro.2 r esz cl hr
    rw [hz]; exact this
  intro cs
  obtain ⟨lf, gs, ρ', w', f', hfz, hρ', hst, hlv, hfn, hH, hpc, hg, hgs⟩ := drive hT n c tm inv ms vw hok hseg hvc hlean ρ.z hO _ k0 _ ρ w _ [] cs h0 (Nat.le_refl _) gd.ok rfl R (hi ρ gd (by rw [← hrom]; exact (hO ρ gd.ok rfl).rom.typed) hp)
  unfold leafG at hg
  generalize colH lf.heap c.heap (colV c.res lf.val Sub.nil) = S at hg
  simp only [] at hg
  split at hg
  · rename_i hap
    obtain ⟨g1, g2, e1, e2, rfl⟩ := oG_some hg
    have hO' := hO ρ' hρ' hfz.z
    have hpT : Holds ρ' (.lit true :: lf.pc) := hpc.cons (p := .lit true) (by simp only [BE.den])
    obtain ⟨ρ2, hρ2⟩ : ∃ ρ2 : Rho, ρ2 = { ρ with a := fun n => if n < c.cnt then ρ'.a (nmA S.a n) else ρ.a n } := ⟨_, rfl⟩
    have ag : Agr ρ ρ2 0 c.cnt := by
      subst hρ2
      exact ⟨rfl, rfl, rfl, rfl, rfl, fun n hn => by
        have : ¬ n < c.cnt := by omega
        simp [this]⟩
    have hb : Base ρ' ρ2 := by
      subst hρ2
      exact ⟨fun k n hn => (hfz.i k n hn).symm, fun n hn => (hfz.b n hn).symm, fun n hn => (hfz.l n hn).symm, by show ρ.z.F = ρ'.z.F; rw [hfz.z], by show ρ.z.rl = ρ'.z.rl; rw [hfz.z]⟩
    have ha : ∀ n, n < c.cnt → ρ2.a n = ρ'.a (nmA S.a n) := by
      intro n hn
      subst hρ2
      simp [hn]
    have hval := gV2_ok hρ' hpT hO'.rom.typed hb ha hflat.1 hnames.2.1 e1 (fun g hx => hgs g (List.mem_append.2 (.inl hx)))
    have hheap := gH_ok (ρ := ρ') (S := S) hρ' hpT e2 (fun g hx => hgs g (List.mem_append.2 (.inr hx)))
    have hapr := (apartN_ok c.heap [] hap).2
    refine ⟨.returned (lf.val.den ρ'), w', f', ⟨ρ2, ag, by rw [hval], ⟨hH.g0, ?_, ?_, ?_⟩⟩, hst, hfn, hlv⟩
    · intro n o hl
      obtain ⟨cc, tot, ks, ty, cn, sz, c', tot', rfl, h2, h3, h4⟩ := hheap n o hl
      have hn := hnames.1 n _ hl
      have hcn : cn < c.cnt := hn.2 cn (by simp [SObj.names])
      obtain ⟨obj, q1, q2⟩ := hH.at_ _ _ h2
      refine ⟨obj, by rw [ha n hn.1]; exact q1, ?_⟩
      obtain ⟨cc2, tot2, ks2, t2, cn2, sz2, e, f1, f2⟩ := flatH_row hflat.2.1 n _ hl
      cases e
      simp only [ObjR] at q2 ⊢
      rw [LE.free_den hb _ f1, IE.free_den hb _ f2, h3, h4, ha cn hcn]
      exact q2
    · intro n o hl
      obtain ⟨cc, tot, ks, ty, cn, sz, c', tot', rfl, h2, _⟩ := hheap n o hl
      rw [ha n (hnames.1 n _ hl).1]
      exact hH.own _ _ h2
    · intro n m o p hl hm he
      obtain ⟨_, _, _, _, _, _, _, _, rfl, h2, _⟩ := hheap n o hl
      obtain ⟨_, _, _, _, _, _, _, _, rfl, h3, _⟩ := hheap m p hm
      rw [ha n (hnames.1 n _ hl).1, ha m (hnames.1 m _ hm).1] at he
      exact hapr n m _ _ hl hm (hH.inj _ _ _ _ h2 h3 he)
  · cases hg
/- slots of a template -/
def opqL (base : Nat) : Nat → List SV
  | 0 => []
  | n + 1 => .opq base :: opqL (base + 16) n
noncomputable def opqS (base n : Nat) : Slots := chunk n (opqL base n)
noncomputable def over (t : Slots) : List (Nat × SV) → Slots
  | [] => t
  | (i, v) :: l => over (put2 t i v) l
end
end Go.Proofs.Ytjgkaimgocnkmab.Sx
