/- A reckoner of Go's small steps over letters: tables that are held against the program; how it is used. No condition. -/
import Derived.Test.YtjgkaimgocnkmabSp18
set_option linter.unusedVariables false
set_option linter.unusedSimpArgs false
set_option linter.deprecated false
namespace Go.Proofs.Ytjgkaimgocnkmab.Sx
open Go
def svIs : SV → Value → Bool
  | .int k (.lit n), .int j m => if keq k j then ieqb n m else false
  | .bool (.lit b), .bool c => b == c
  | .const (.pointer none), .pointer none => true
  | .const (.slice none 0 0), .slice none 0 0 => true
  | .const (.map none), .map none => true
  | .const .nilFunc, .nilFunc => true
  | .const .nilIface, .nilIface => true
  | .str [], .string t => Nat.beq t.size 0
  | .const (.string s), .string t => if Nat.beq s.size 0 then Nat.beq t.size 0 else false
  | _, _ => false
def svsIs : List SV → List Value → Bool
  | [], [] => true
  | a :: l, b :: m => if svIs a b then svsIs l m else false
  | _, _ => false
def stChk : ST → TypeDesc → Bool
  | .int k, .int j => keq k j
  | .bool, .bool => true
  | .slice e, .slice d => Nat.beq e d
  | .arr n e, .array m d => if Nat.beq n m then Nat.beq e d else false
  | .str, .string => true
  | .ptr, .pointer _ => true
  | .func, .func _ _ _ => true
  | .iface, .interface _ => true
  | .map k e, .map a b => if Nat.beq k a then Nat.beq e b else false
  | .struct fs, .struct F => fs == F.toList.map fun f => (f.offset, f.type)
  | .other, _ => true
  | _, _ => false
def aggIs (b : Bool) : Value → Bool
  | .agg _ => b
  | _ => !b
theorem aggIs_ok {b : Bool} {z : Value} (h : aggIs b z = true) : (b = true → ∃ cs, z = .agg cs) ∧ (b = false → ∀ cs, z ≠ .agg cs) := by
  unfold aggIs at h
  split at h
  · subst h; exact ⟨fun _ => ⟨_, rfl⟩, fun e => (by cases e)⟩
  · rename_i hz
    have : b = false := by simpa using h
    subst this
    exact ⟨fun e => (by cases e), fun _ cs e => hz cs e⟩
def tyChk (P : Program) (t : TypeId) (ti : TI) : Bool :=
  match P.info? t, P.underlying t with
  | some i, some d => (match i.zero with
    | some z => if Nat.beq i.size ti.size then (if svsIs ti.zero z.cells.toList then (if stChk ti.und d then (if ti.agg == d.isRow then (if Nat.beq i.bytes ti.bytes then (if aggIs ti.agg z then Nat.beq ti.zero.length ti.size else false) else false) else false) else false) else false) else false
    | none => false)
  | _, _ => false
def BT.all {α : Type} (p : Nat → α → Bool) : BT α → Bool
  | .nil => true
  | .node l n v r => if p n v then (if l.all p then r.all p else false) else false
theorem BT.all_get {α : Type} {p : Nat → α → Bool} : ∀ (b : BT α), b.all p = true → ∀ k v, b.get k = some v → p k v = true
  | .nil, _, k, v, h => by simp [BT.get] at h
  | .node l n u r, ha, k, v, h => by
    simp only [BT.all] at ha
    split at ha
    · rename_i h1
      split at ha
      · rename_i h2
        simp only [BT.get] at h
        split at h
        · rename_i e
          have : n = k := by simpa using e
          subst this
          cases h
          exact h1
        · split at h
          · exact BT.all_get l h2 k v h
          · exact BT.all_get r ha k v h
      · cases ha
    · cases ha
def BT.AllP {α : Type} (p : Nat → α → Prop) : BT α → Prop
  | .nil => True
  | .node l n v r => BT.AllP p l ∧ p n v ∧ BT.AllP p r
theorem BT.allP_get {α : Type} {p : Nat → α → Prop} : ∀ (b : BT α), BT.AllP p b → ∀ k v, b.get k = some v → p k v
  | .nil, _, k, v, h => by simp [BT.get] at h
  | .node l n u r, ⟨h1, h2, h3⟩, k, v, h => by
    simp only [BT.get] at h
    split at h
    · rename_i e
      have : n = k := by simpa using e
      subst this
      cases h
      exact h2
    · split at h
      · exact BT.allP_get l h1 k v h
      · exact BT.allP_get r h3 k v h
theorem svIs_ok (a : SV) (b : Value) (h : svIs a b = true) : a.names = [] ∧ ∀ ρ, a.den ρ = b := by
  unfold svIs at h
  split at h <;> first
    | (cases h; done)
    | skip
  · split at h
    · rename_i hk
      rw [(keq_iff _ _).1 hk, (ieqb_iff _ _).1 h]
      exact ⟨rfl, fun ρ => rfl⟩
    · cases h
  · rename_i b c
    have : b = c := by simpa using h
    subst this
    exact ⟨rfl, fun ρ => rfl⟩
  · exact ⟨rfl, fun ρ => rfl⟩
  · exact ⟨rfl, fun ρ => rfl⟩
  · exact ⟨rfl, fun ρ => rfl⟩
  · exact ⟨rfl, fun ρ => rfl⟩
  · exact ⟨rfl, fun ρ => rfl⟩
  · rename_i t
    have e2 : t.size = 0 := by simpa using h
    refine ⟨rfl, fun ρ => ?_⟩
    have : t = bytesOf [] := by
      obtain ⟨⟨b⟩⟩ := t
      simp [ByteArray.size] at e2
      rw [e2]; rfl
    rw [this]; rfl
  · rename_i s t
    split at h
    · rename_i h1
      have e1 : s.size = 0 := by simpa using h1
      have e2 : t.size = 0 := by simpa using h
      have : s = t := by
        obtain ⟨⟨a⟩⟩ := s
        obtain ⟨⟨b⟩⟩ := t
        simp [ByteArray.size] at e1 e2
        rw [e1, e2]
      subst this
      exact ⟨rfl, fun ρ => rfl⟩
    · cases h
theorem svsIs_ok : ∀ (l : List SV) (m : List Value), svsIs l m = true → SV.namesL l = [] ∧ ∀ ρ, SV.denL ρ l = m
  | [], m, h => by cases m <;> simp [svsIs] at h; exact ⟨rfl, fun ρ => rfl⟩
  | a :: l, m, h => by
    cases m with
    | nil => simp [svsIs] at h
    | cons b m =>
      simp only [svsIs] at h
      split at h
      · rename_i h1
        obtain ⟨n1, d1⟩ := svIs_ok a b h1
        obtain ⟨n2, d2⟩ := svsIs_ok l m h
        exact ⟨by simp [SV.namesL, n1, n2], fun ρ => by simp [SV.denL, d1 ρ, d2 ρ]⟩
      · cases h
theorem stChk_ok (s : ST) (d : TypeDesc) (h : stChk s d = true) : StOk s d := by
  unfold stChk at h
  split at h <;> first
    | (cases h; done)
    | skip
  · rw [(keq_iff _ _).1 h]; rfl
  · rfl
  · have := Nat.eq_of_beq_eq_true h
    subst this; rfl
  · split at h
    · rename_i h1
      have e1 := Nat.eq_of_beq_eq_true h1
      have e2 := Nat.eq_of_beq_eq_true h
      subst e1; subst e2; rfl
    · cases h
  · rfl
  · exact ⟨_, rfl⟩
  · exact ⟨_, _, _, rfl⟩
  · exact ⟨_, rfl⟩
  · split at h
    · rename_i h1
      have e1 := Nat.eq_of_beq_eq_true h1
      have e2 := Nat.eq_of_beq_eq_true h
      subst e1; subst e2; rfl
    · cases h
  · exact ⟨_, rfl, (by simpa using h : _ = _).symm⟩
  · trivial
theorem tyChk_ok {P : Program} {t : TypeId} {ti : TI} (h : tyChk P t ti = true) : TyOk P t ti := by
  unfold tyChk at h
  split at h
  · rename_i i d hi hd
    split at h
    · rename_i z hz
      split at h
      · rename_i h1
        split at h
        · rename_i h2
          split at h
          · rename_i h3
            split at h
            · rename_i h4
              split at h
              · rename_i h5
                split at h
                · rename_i h6
                  obtain ⟨n, e⟩ := svsIs_ok _ _ h2
                  exact ⟨⟨i, z, hi, Nat.eq_of_beq_eq_true h1, hz, fun ρ => by rw [e ρ], Nat.eq_of_beq_eq_true h5⟩, n, Nat.eq_of_beq_eq_true h, (fun i' z' hi' hz' => by
                    rw [hi] at hi'; cases hi'
                    rw [hz] at hz'; cases hz'
                    exact aggIs_ok h6), ⟨d, hd, stChk_ok _ _ h3, by simpa using h4⟩⟩
                · cases h
              · cases h
            · cases h
          · cases h
        · cases h
      · cases h
    · cases h
  · cases h
def nameOk (fn : Func) : Bool := !(fn.name == "runtime.NumGoroutine")
noncomputable def fnChk (fn : Func) : Bool :=
  match fn.body with
  | some c => codeOk c
  | none => true
theorem tab_ok {P : Program} {ty : BT TI} {fn : BT Func} {eqs : List (Nat × List CK)} {orac : Orc} (h1 : ty.all (tyChk P) = true) (h2 : BT.AllP (fun f F => P.funcs[f]? = some F) fn) (h3 : fn.all (fun _ F => nameOk F) = true) (h4 : fn.all (fun _ F => fnChk F) = true)
    (h5 : ∀ t ks, lk eqs t = some ks → EqOk P t ks) (h6 : P.follows .mixedOrders = true) (h7 : PostsOk orac) : Tab.Ok P { ty := ty, fn := fn, eqs := eqs, orac := orac } := by
  refine ⟨fun t ti h => tyChk_ok (BT.all_get ty h1 t ti h), fun f F h => ⟨BT.allP_get fn h2 f F h, by simpa [nameOk] using BT.all_get fn h3 f F h⟩, fun f F c h hc => ?_, h5, h6, h7⟩
  have := BT.all_get fn h4 f F h
  simpa [fnChk, hc] using this
/-- Leaves that are all true. -/
def leafTrue (l : Leaf) : Bool :=
  match l.val with
  | .bool (.lit true) => true
  | _ => false
def allB {α : Type} (p : α → Bool) : List α → Bool
  | [] => true
  | x :: l => if p x then allB p l else false
theorem allB_ok {α : Type} {p : α → Bool} : ∀ {l : List α}, allB p l = true → ∀ x ∈ l, p x = true
  | [], _ => by simp
  | x :: l, h => by
    simp only [allB] at h
    split at h
    · rename_i h1
      intro y hy
      rcases List.mem_cons.1 hy with rfl | hy
      · exact h1
      · exact allB_ok h y hy
    · cases h
def outTrue : Out → Bool
  | .leaves l => allB leafTrue l
  | .fail _ _ => false
/-- Leaves that are the one thing where c holds, the other thing where it doesn't. -/
def leafAt (c : BE) (yes no : SV) (pc : List BE) (v : SV) : Bool :=
  match dec pc c with
  | some true => SV.beq v yes
  | some false => SV.beq v no
  | none => false
/-- A test as a value, taken apart. -/
def leafIf (c : BE) (yes no : SV) (l : Leaf) : Bool :=
  if leafAt c yes no l.pc l.val then true
  else match l.val with
    | .bool b => if leafAt c yes no (b :: l.pc) (.bool (.lit true)) then leafAt c yes no (.not b :: l.pc) (.bool (.lit false)) else false
    | _ => false
def outIf (c : BE) (yes no : SV) : Out → Bool
  | .leaves l => allB (leafIf c yes no) l
  | .fail _ _ => false
section
variable {P : Program} {T : Tab} {b0 : World} {ρ : Rho} {w : World}
theorem leafAt_ok {σ : Rho} (hσ : σ.Ok) {c : BE} {yes no v : SV} {pc : List BE} (hh : Holds σ pc) (h : leafAt c yes no pc v = true) : v.den σ = (if c.den σ then yes else no).den σ := by
  unfold leafAt at h
  split at h
  · rename_i hd
    rw [dec_den hσ hh _ _ hd, SV.beq_eq _ _ h]; rfl
  · rename_i hd
    rw [dec_den hσ hh _ _ hd, SV.beq_eq _ _ h]; rfl
  · cases h
theorem leafIf_ok {σ : Rho} (hσ : σ.Ok) {c : BE} {yes no : SV} {l : Leaf} (hh : Holds σ l.pc) (h : leafIf c yes no l = true) : l.val.den σ = (if c.den σ then yes else no).den σ := by
  unfold leafIf at h
  split at h
  · rename_i h1
    exact leafAt_ok hσ hh h1
  · split at h
    · rename_i b hv
      split at h
      · rename_i h1
        cases hb : b.den σ with
        | true =>
          rw [← leafAt_ok hσ (v := .bool (.lit true)) (pc := b :: l.pc) (by intro p hp; rcases List.mem_cons.1 hp with rfl | hp; exact hb; exact hh p hp) h1, hv]
          simp [SV.den, BE.den, hb]
        | false =>
          rw [← leafAt_ok hσ (v := .bool (.lit false)) (pc := .not b :: l.pc) (by intro p hp; rcases List.mem_cons.1 hp with rfl | hp; simp [BE.den, hb]; exact hh p hp) h, hv]
          simp [SV.den, BE.den, hb]
      · cases h
    · cases h
theorem true_of (hT : T.Ok P) {n : Nat} {g : FuncId} {args : List SV} {pc : List BE} (h : outTrue (callS T n g args pc) = true) (hρ : ρ.Ok) (hO : OracOk P b0 T.orac ρ) (hp : Holds ρ pc) (hn : SV.namesL args = []) (hw : b0.grownBy w none) :
    Calls P g (SV.denL ρ args).toArray w fun e w' => e = .returned (.bool true) ∧ w.grownBy w' none := by
  cases hc : callS T n g args pc with
  | fail a b => rw [hc] at h; cases h
  | leaves ls =>
    rw [hc] at h
    refine (calls_of hT hc hρ hO hp hn hw).mono ?_
    rintro e w' ⟨lf, hlf, hh, ρ', hs, rfl, hg, _⟩
    have := allB_ok h lf hlf
    unfold leafTrue at this
    split at this
    · rename_i hv
      exact ⟨by rw [hv]; rfl, hg⟩
    · cases this
theorem if_of (hT : T.Ok P) {n : Nat} {g : FuncId} {args : List SV} {pc : List BE} {c : BE} {yes no : SV} (h : outIf c yes no (callS T n g args pc) = true) (hρ : ρ.Ok) (hO : OracOk P b0 T.orac ρ) (hp : Holds ρ pc) (hn : SV.namesL args = []) (hy : yes.names = []) (hno : no.names = []) (hw : b0.grownBy w none) :
    Calls P g (SV.denL ρ args).toArray w fun e w' => e = .returned ((if c.den ρ then yes else no).den ρ) ∧ w.grownBy w' none := by
  cases hc : callS T n g args pc with
  | fail a b => rw [hc] at h; cases h
  | leaves ls =>
    rw [hc] at h
    refine (calls_of hT hc hρ hO hp hn hw).mono ?_
    rintro e w' ⟨lf, hlf, hh, ρ', hs, rfl, hg, _⟩
    have hA := allB_ok h lf hlf
    have hh' : Holds ρ' lf.pc := hs.holds.2 hh
    have key : lf.val.den ρ' = ((if c.den ρ' then yes else no) : SV).den ρ' := leafIf_ok (hs.ok hρ) hh' hA
    have ey := SV.den_eq hs yes (by rw [hy]; simp)
    have en := SV.den_eq hs no (by rw [hno]; simp)
    refine ⟨?_, hg⟩
    rw [key, BE.den_same hs]
    split
    · rw [ey]
    · rw [en]
end
end Go.Proofs.Ytjgkaimgocnkmab.Sx
