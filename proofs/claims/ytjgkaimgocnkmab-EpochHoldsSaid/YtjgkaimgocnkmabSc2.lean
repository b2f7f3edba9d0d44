/- A reckoner of Go's small steps over letters: runs that stop at the heads of loops do as they are reckoned. No condition. -/
import Derived.Test.YtjgkaimgocnkmabSc1
set_option linter.unusedVariables false
set_option linter.unusedSimpArgs false
namespace Go.Proofs.Ytjgkaimgocnkmab.Sx
open Go
/-- Letters that stand for other things. -/
noncomputable def Rho.sb (ρ : Rho) (S : Sub) : Rho :=
  { i := fun k n => match lkI S.i k n with
      | some e => e.den ρ
      | none => ρ.i k n
    b := fun n => match lk S.b n with
      | some e => e.den ρ
      | none => ρ.b n
    v := fun n => match lk S.v n with
      | some v => v.den ρ
      | none => ρ.v n
    a := fun n => ρ.a (nmA S.a n)
    z := ρ.z }
section
variable {ρ : Rho} {S : Sub}
theorem IE.sb_den (e : IE) : (e.sb S).den ρ = e.den (ρ.sb S) := by
  induction e with
  | var k n =>
    simp only [IE.sb, IE.den, Rho.sb]
    cases lkI S.i k n <;> rfl
  | _ => simp_all [IE.sb, IE.den] <;> rfl
theorem BE.sb_den (e : BE) : (e.sb S).den ρ = e.den (ρ.sb S) := by
  induction e with
  | var n =>
    simp only [BE.sb, BE.den, Rho.sb]
    cases lk S.b n <;> rfl
  | _ => simp_all [BE.sb, BE.den, IE.sb_den] <;> rfl
theorem subIs_den (l : List IE) : (subIs S l).map (IE.den ρ) = l.map (IE.den (ρ.sb S)) := by
  induction l with
  | nil => rfl
  | cons e l ih => simp [subIs, IE.sb_den, ih]
theorem subFn_den (fn : Fn) : fnDen ρ (subFn S fn) = fnDen (ρ.sb S) fn := by
  cases fn <;> rfl
mutual
theorem SV.sb_den : ∀ (v : SV), (v.sb S).den ρ = v.den (ρ.sb S)
  | .bool b => by simp [SV.sb, SV.den, BE.sb_den]
  | .int k e => by simp [SV.sb, SV.den, IE.sb_den]
  | .ptr n off => by simp [SV.sb, SV.den, Rho.sb]
  | .slice n off len cap => by simp [SV.sb, SV.den, Rho.sb]
  | .func fn f c => by simp [SV.sb, SV.den, subFn_den, SV.sbL_den f, SV.sbL_den c]
  | .iface t v => by simp [SV.sb, SV.den, SV.sb_den v]
  | .agg cs => by simp [SV.sb, SV.den, SV.sbL_den cs]
  | .tup vs => by simp [SV.sb, SV.den, SV.sbL_den vs]
  | .opq n => by
    simp only [SV.sb, SV.den, Rho.sb]
    cases lk S.v n <;> rfl
  | .const v => by simp [SV.sb, SV.den]
  | .str bs => by simp only [SV.sb, SV.den, subIs_den]
  | .sl n cn sz off len => by simp [SV.sb, SV.den, Rho.sb]
  | .rom r off len => by simp only [SV.sb, SV.den, IE.sb_den]; rfl
  | .rptr r i c => by simp only [SV.sb, SV.den, IE.sb_den]; rfl
  | .app n x => by simp only [SV.sb, SV.den, IE.sb_den]; rfl
theorem SV.sbL_den : ∀ (l : List SV), SV.denL ρ (SV.sbL S l) = SV.denL (ρ.sb S) l
  | [] => rfl
  | v :: l => by simp [SV.sbL, SV.denL, SV.sb_den v, SV.sbL_den l]
end
theorem sbL_eq (l : List SV) : SV.sbL S l = l.map (SV.sb S) := by
  induction l with
  | nil => rfl
  | cons v l ih => simp [SV.sbL, ih]
theorem subSl_eq (t : Slots) : subSl S t = t.map fun l => l.map (SV.sb S) := by
  induction t with
  | nil => rfl
  | cons l t ih => simp [subSl, ih, sbL_eq]
theorem get2_subSl (t : Slots) (i : Nat) : get2 (subSl S t) i = (get2 t i).map (SV.sb S) := by
  rw [get2_eq, get2_eq, subSl_eq, List.getElem?_map]
  cases t[i / 8]? <;> simp
theorem eqSl_eq : ∀ (a b : Slots), eqSl a b = true → a = b
  | [], [], _ => rfl
  | [], _ :: _, h => by simp [eqSl] at h
  | _ :: _, [], h => by simp [eqSl] at h
  | l :: r, m :: q, h => by
    simp only [eqSl] at h
    split at h
    · rename_i h1; rw [SV.beqL_eq _ _ h1, eqSl_eq r q h]
    · cases h
theorem slots_sb {t a : Slots} {X : Array Value} (he : eqSl (subSl S t) a = true) (h : SlotsR ρ a X) : SlotsR (ρ.sb S) t X := by
  intro i
  rw [← h i, ← eqSl_eq _ _ he, get2_subSl]
  cases get2 t i <;> simp [SV.sb_den]
theorem eqNs_eq : ∀ (a b : List Nat), eqNs a b = true → a = b
  | [], [], _ => rfl
  | [], _ :: _, h => by simp [eqNs] at h
  | _ :: _, [], h => by simp [eqNs] at h
  | l :: r, m :: q, h => by
    simp only [eqNs] at h
    split at h
    · rename_i h1; rw [Nat.eq_of_beq_eq_true h1, eqNs_eq r q h]
    · cases h
theorem subNs_eq (l : List Nat) : subNs S l = l.map (nmA S.a) := by
  induction l with
  | nil => rfl
  | cons v l ih => simp [subNs, ih]
theorem todo_sb (k : List SItem) : (subTodo S k).map (SItem.den ρ) = k.map (SItem.den (ρ.sb S)) := by
  induction k with
  | nil => rfl
  | cons i k ih => cases i <;> simp [subTodo, SItem.sb, SItem.den, Rho.sb, ih]
end
/- what a template must keep to -/
def okNs (N : Nat) : List Nat → Bool
  | [] => true
  | n :: l => if Nat.blt n N then okNs N l else false
def okSl (N : Nat) : Slots → Bool
  | [] => true
  | l :: r => if okNs N (SV.namesL l) then okSl N r else false
noncomputable def okItem (N : Nat) : SItem → Bool
  | .code c => codeOk c
  | .inLoop c => codeOk c
  | .inScope c => codeOk c
  | .inRegion ops _ => allPlain ops.toList
  | .inRange n => Nat.blt n N
  | .endRange n => Nat.blt n N
  | _ => true
noncomputable def okItems (N : Nat) : List SItem → Bool
  | [] => true
  | i :: k => if okItem N i then okItems N k else false
noncomputable def okF (N : Nat) (f : SFrame) : Bool :=
  if okSl N f.tmps then (if okItems N f.todo then (if okNs N f.defers then (match f.ret, f.round with
    | false, none => true
    | false, some n => Nat.blt n N
    | _, _ => false) else false) else false) else false
noncomputable def okFs (N : Nat) : List SFrame → Bool
  | [] => true
  | f :: l => if okF N f then okFs N l else false
def okH (N : Nat) : SHeap → Bool
  | [] => true
  | (n, o) :: l => if Nat.blt n N then (if okNs N o.names then okH N l else false) else false
noncomputable def cfgOk (C : Cfg) : Bool := if okFs C.next (C.top :: C.rest) then okH C.next C.heap else false
section
variable {ρ : Rho} {S : Sub} {b0 : World}
theorem okNs_ok {N : Nat} : ∀ (l : List Nat), okNs N l = true → ∀ n ∈ l, n < N
  | [], _, n, hn => by simp at hn
  | m :: l, h, n, hn => by
    simp only [okNs] at h
    split at h
    · rename_i h1
      rcases List.mem_cons.1 hn with rfl | hn
      · simpa [Nat.blt_eq] using h1
      · exact okNs_ok l h n hn
    · cases h
theorem okSl_ok {N : Nat} : ∀ (t : Slots), okSl N t = true → ∀ l ∈ t, ∀ v ∈ l, NamesV N v
  | [], _, l, hl => by simp at hl
  | m :: t, h, l, hl => by
    simp only [okSl] at h
    split at h
    · rename_i h1
      rcases List.mem_cons.1 hl with rfl | hl
      · intro v hv n hn
        exact okNs_ok _ h1 n (mem_namesL.2 ⟨v, hv, hn⟩)
      · exact okSl_ok t h l hl
    · cases h
theorem okSl_names {N : Nat} {t : Slots} (h : okSl N t = true) : SNames N t := by
  intro i v hv
  rw [get2_eq] at hv
  cases hc : t[i / 8]? with
  | none => simp [hc] at hv
  | some l =>
    simp only [hc, Option.bind_some] at hv
    exact okSl_ok t h l (List.mem_of_getElem? hc) v (List.mem_of_getElem? hv)
theorem okItem_ok {N : Nat} {i : SItem} (h : okItem N i = true) : i.okI N := by
  cases i <;> simp [okItem, SItem.okI, Nat.blt_eq] at h ⊢ <;> exact h
theorem okItems_ok {N : Nat} : ∀ (k : List SItem), okItems N k = true → ∀ i ∈ k, i.okI N
  | [], _, i, hi => by simp at hi
  | j :: k, h, i, hi => by
    simp only [okItems] at h
    split at h
    · rename_i h1
      rcases List.mem_cons.1 hi with rfl | hi
      · exact okItem_ok h1
      · exact okItems_ok k h i hi
    · cases h
theorem okH_ok {N : Nat} : ∀ (h : SHeap), okH N h = true → HNames N h
  | [], _, n, o, hl => by simp [lk_nil] at hl
  | (m, p) :: h, hk, n, o, hl => by
    simp only [okH] at hk
    split at hk
    · rename_i h1
      split at hk
      · rename_i h2
        rw [lk_cons] at hl
        split at hl
        · rename_i e
          subst e
          cases hl
          exact ⟨by simpa [Nat.blt_eq] using h1, okNs_ok _ h2⟩
        · exact okH_ok h hk n o hl
      · cases hk
    · cases hk
/- frames -/
theorem frame_sb {N M : Nat} {t a : SFrame} {f : Frame} (hok : okF N t = true) (hf : fitF S t a = true) (hc : a.todo = subTodo S t.todo) (h : FrameR ρ M a f) : FrameR (ρ.sb S) N t f := by
  unfold fitF at hf
  split at hf
  · rename_i h1
    split at hf
    · rename_i h2
      split at hf
      · rename_i h3
        split at hf
        · rename_i hr1 hr2
          have e1 := Nat.eq_of_beq_eq_true h1
          have e3 := eqNs_eq _ _ h3
          rw [subNs_eq] at e3
          have e4 : a.round = t.round.map (nmA S.a) := by
            unfold eqON at hf
            split at hf
            · rename_i q1 q2; rw [q1, q2]
            · rename_i n m q1 q2; rw [q1, q2, Nat.eq_of_beq_eq_true hf]
            · cases hf
          unfold okF at hok
          split at hok
          · rename_i o1
            split at hok
            · rename_i o2
              split at hok
              · rename_i o3
                refine ⟨?_, slots_sb h2 h.slots, okSl_names o1, okItems_ok _ o2, okNs_ok _ o3, ?_, fun hh => by rw [hr1] at hh; cases hh⟩
                · rw [h.eq, hr2, hr1, hc, todo_sb, ← e1, ← e3, e4]
                  simp [defsOf, Rho.sb, Function.comp_def]
                · intro n hn
                  rw [hr1, hn] at hok
                  simpa [Nat.blt_eq] using hok
              · cases hok
            · cases hok
          · cases hok
        · cases hf
      · cases hf
    · cases hf
  · cases hf
theorem frames_sb {N M : Nat} : ∀ (t a : List SFrame) (fs : List Frame), okFs N t = true → fitFs S t a = true → codesF a = subTodos S (codesF t) → FramesR ρ M a fs → FramesR (ρ.sb S) N t fs
  | [], [], fs, _, _, _, h => by cases h; exact .nil
  | [], _ :: _, fs, _, hf, _, _ => by simp [fitFs] at hf
  | _ :: _, [], fs, _, hf, _, _ => by simp [fitFs] at hf
  | t :: ts, a :: as, fs, hok, hf, hc, h => by
    cases h with
    | cons h hs =>
      simp only [okFs] at hok
      simp only [fitFs] at hf
      simp only [codesF, subTodos, List.cons.injEq] at hc
      split at hok
      · rename_i o1
        split at hf
        · rename_i f1
          exact .cons (frame_sb o1 f1 hc.1 h) (frames_sb ts as _ hok hf hc.2 hs)
        · cases hf
      · cases hok
theorem stLoop_eq (a b : LoopState) (h : stLoop a = stLoop b) : a = b := by
  cases a <;> cases b <;> first | rfl | (simp [stLoop] at h)
/-- Whether the codes of two things are the same. -/
def sameCode : SObj → SObj → Prop
  | .loop _ _ _ _ _ as body _, .loop _ _ _ _ _ as' body' _ => as' = as ∧ body' = body
  | _, _ => True
theorem obj_sb {t a : SObj} {obj : Obj} (hf : fitO S t a = true) (hc : sameCode t a) (h : ObjR ρ a obj) : ObjR (ρ.sb S) t obj := by
  unfold fitO at hf
  split at hf
  · rename_i l ty m ty'
    split at hf
    · rename_i h1
      have e1 := Nat.eq_of_beq_eq_true h1
      have e2 := SV.beqL_eq _ _ hf
      simp only [ObjR] at h ⊢
      rw [h, ← e2, SV.sbL_den, e1]
    · cases hf
  · rename_i l ty c z m ty' d z'
    split at hf
    · rename_i h1
      split at hf
      · rename_i h2
        split at hf
        · rename_i h3
          have e1 := Nat.eq_of_beq_eq_true h1
          have e2 := Nat.eq_of_beq_eq_true h2
          have e3 := Nat.eq_of_beq_eq_true h3
          have e4 := SV.beqL_eq _ _ hf
          obtain ⟨rest, lo, hi, ho, q1, q2, q3, q4⟩ := h
          have hl : m.length = l.length := by rw [← e4, sbL_eq]; simp
          refine ⟨rest, lo, hi, ?_, ?_, ?_, ?_, ?_⟩
          · rw [ho, ← e4, SV.sbL_den, e1]
          · rw [← hl]; exact q1
          · rw [← hl, e3]
            simp only [Rho.sb]; rw [e2]; exact q2
          · simp only [Rho.sb]; rw [e2]; exact q3
          · rw [e3]; exact q4
        · cases hf
      · cases hf
    · cases hf
  · rename_i st p fn tm ps as bo d st' p' fn' tm' ps' as' bo' d'
    split at hf
    · rename_i h1
      split at hf
      · rename_i h2
        split at hf
        · rename_i h3
          split at hf
          · rename_i h4
            split at hf
            · rename_i h5
              split at hf
              · rename_i h6
                have e1 := stLoop_eq _ _ (Nat.eq_of_beq_eq_true h1)
                have e2 : p = none := by cases p with
                  | none => rfl
                  | some c => simp [noPend] at h2
                have e3 : p' = none := by cases p' with
                  | none => rfl
                  | some c => simp [noPend] at h3
                have e4 := Nat.eq_of_beq_eq_true h4
                have e6 := eqNs_eq _ _ h6
                have e7 := Nat.eq_of_beq_eq_true hf
                obtain ⟨c1, c2⟩ := hc
                obtain ⟨X, hX, k1, k2, k3, ho⟩ := h
                subst e1; subst e2; subst e3; subst e4; subst e6; subst c1; subst c2
                refine ⟨X, slots_sb h5 hX, k1, k2, by simp, ?_⟩
                rw [ho]
                simp only [Rho.sb]
                rw [e7]
              · cases hf
            · cases hf
          · cases hf
        · cases hf
      · cases hf
    · cases hf
  · rename_i s s'
    have : s = s' := by simpa using hf
    subst this
    exact h
  · cases hf
/- memory -/
theorem heap_fit {h : SHeap} : ∀ (t : SHeap), fitH S h t = true → codesH (pickH S h t) = codesH t → ∀ n o, lk t n = some o → ∃ a, lk h (nmA S.a n) = some a ∧ fitO S o a = true ∧ sameCode o a
  | [], _, _, n, o, hl => by simp [lk_nil] at hl
  | (m, p) :: t, hf, hc, n, o, hl => by
    simp only [fitH] at hf
    split at hf
    · rename_i a ha
      split at hf
      · rename_i h1
        simp only [pickH, ha] at hc
        have key : codesH (pickH S h t) = codesH t ∧ sameCode p a := by
          revert hc
          cases p <;> cases a <;> simp [fitO] at h1 <;> simp [codesH, sameCode]
          intro q1 q2 q3; exact ⟨q3, q1, q2⟩
        rw [lk_cons] at hl
        split at hl
        · rename_i e
          subst e
          cases hl
          exact ⟨a, ha, h1, key.2⟩
        · exact heap_fit t hf key.1 n o hl
      · cases hf
    · cases hf
theorem apartN_ok : ∀ (t : SHeap) (seen : List Nat), apartN S t seen = true → (∀ n o, lk t n = some o → nmA S.a n ∉ seen) ∧ (∀ n m o p, lk t n = some o → lk t m = some p → nmA S.a n = nmA S.a m → n = m)
  | [], seen, _ => ⟨fun n o h => by simp [lk_nil] at h, fun n m o p h => by simp [lk_nil] at h⟩
  | (k, q) :: t, seen, h => by
    simp only [apartN] at h
    split at h
    · cases h
    · rename_i h1
      obtain ⟨a, b⟩ := apartN_ok t _ h
      have h1' : nmA S.a k ∉ seen := fun hm => h1 ((memN_iff _ _).2 hm)
      refine ⟨?_, ?_⟩
      · intro n o hl
        rw [lk_cons] at hl
        split at hl
        · rename_i e; subst e; exact h1'
        · exact fun hm => a n o hl (List.mem_cons_of_mem _ hm)
      · intro n m o p hn hm he
        rw [lk_cons] at hn hm
        split at hn
        · rename_i e1
          subst e1
          split at hm
          · rename_i e2; exact e2
          · exact absurd (List.mem_cons.2 (.inl he.symm)) (a m p hm)
        · split at hm
          · rename_i e2
            subst e2
            exact absurd (List.mem_cons.2 (.inl he)) (a n o hn)
          · exact b n m o p hn hm he
theorem heap_sb {h t : SHeap} {w : World} (hf : fitH S h t = true) (hap : apartN S t [] = true) (hc : codesH (pickH S h t) = codesH t) (H : HeapR ρ b0 h w) : HeapR (ρ.sb S) b0 t w := by
  have fit := heap_fit t hf hc
  have ap := (apartN_ok t [] hap).2
  refine ⟨H.g0, ?_, ?_, ?_⟩
  · intro n o hl
    obtain ⟨a, ha, h1, h2⟩ := fit n o hl
    obtain ⟨obj, q1, q2⟩ := H.at_ _ _ ha
    exact ⟨obj, q1, obj_sb h1 h2 q2⟩
  · intro n o hl
    obtain ⟨a, ha, _⟩ := fit n o hl
    exact H.own _ _ ha
  · intro n m o p hn hm he
    obtain ⟨a, ha, _⟩ := fit n o hn
    obtain ⟨b, hb, _⟩ := fit m p hm
    exact ap n m o p hn hm (H.inj _ _ _ _ ha hb he)
theorem okInts_ok (hρ : ρ.Ok) {pc : List BE} (hp : Holds ρ pc) : ∀ (l : List (IntKind × Nat × IE)), okInts pc l = true → ∀ k n e, lkI l k n = some e → kmin k ≤ e.den ρ ∧ e.den ρ ≤ kmax k
  | [], _, k, n, e, h => by simp [lkI] at h
  | (j, m, x) :: l, h, k, n, e, hl => by
    simp only [okInts] at h
    split at h
    · rename_i h1
      simp only [lkI] at hl
      split at hl
      · rename_i h2
        split at hl
        · cases hl
          have ek := (keq_iff _ _).1 h2
          subst ek
          have hr := rng_in hρ hp x
          unfold oin at h1
          split at h1
          · rename_i a b hab
            rw [hab] at hr
            split at h1
            · rename_i h3
              rw [ileb_iff] at h1 h3
              have := hr.1 a rfl
              have := hr.2 b rfl
              omega
            · cases h1
          · cases h1
        · exact okInts_ok hρ hp l h k n e hl
      · exact okInts_ok hρ hp l h k n e hl
    · cases h
theorem sb_Ok (hρ : ρ.Ok) {pc : List BE} (hp : Holds ρ pc) (h : okInts pc S.i = true) : (ρ.sb S).Ok := by
  have key := okInts_ok hρ hp S.i h
  refine ⟨?_, ?_, hρ.flo, hρ.fhi, hρ.rl⟩
  · intro k n
    simp only [Rho.sb]
    cases hl : lkI S.i k n with
    | none => exact hρ.lo k n
    | some e => exact (key k n e hl).1
  · intro k n
    simp only [Rho.sb]
    cases hl : lkI S.i k n with
    | none => exact hρ.hi k n
    | some e => exact (key k n e hl).2
theorem okPc_ok (hρ : ρ.Ok) {pc : List BE} (hp : Holds ρ pc) : ∀ (l : List BE), okPc pc S l = true → Holds (ρ.sb S) l
  | [], _ => fun p hp => by cases hp
  | c :: l, h => by
    simp only [okPc] at h
    split at h
    · rename_i h1
      refine Holds.cons (okPc_ok hρ hp l h) ?_
      rw [← BE.sb_den]
      exact dec_den hρ hp _ _ h1
    · cases h
/-- A configuration that fits a template is one. -/
theorem fit_ok {k : Nat} {Ck C : Cfg} {k' : Nat} {pc : List BE} {S0 S : Sub} {X : List (List SItem)} {w : World} {f : Frame} {fs : List Frame} (hfit : fitWith k Ck C S0 = .cut k' pc S X) (hX : X = codesOf S Ck) (hok : cfgOk Ck = true) (hρ : ρ.Ok) (R : CfgR ρ b0 C w f fs) :
    k' = k ∧ pc = C.pc ∧ (ρ.sb S).Ok ∧ CfgR (ρ.sb S) b0 Ck w f fs := by
  unfold fitWith at hfit
  split at hfit
  · rename_i h1
    split at hfit
    · rename_i h2
      split at hfit
      · rename_i h3
        split at hfit
        · rename_i h4
          split at hfit
          · rename_i h5
            simp only [View.cut.injEq] at hfit
            obtain ⟨rfl, rfl, rfl, rfl⟩ := hfit
            unfold cfgOk at hok
            split at hok
            · rename_i o1
              have hlen : ∀ (t a : List SFrame), fitFs S0 t a = true → (codesF a).length = (subTodos S0 (codesF t)).length := by
                intro t
                induction t with
                | nil => intro a ha; cases a <;> simp [fitFs] at ha; rfl
                | cons x t ih =>
                  intro a ha
                  cases a with
                  | nil => simp [fitFs] at ha
                  | cons y a =>
                    simp only [fitFs] at ha
                    split at ha
                    · simp [codesF, subTodos, ih a ha]
                    · cases ha
              have hcs : codesF (C.top :: C.rest) = subTodos S0 (codesF (Ck.top :: Ck.rest)) ∧ codesH (pickH S0 C.heap Ck.heap) = codesH Ck.heap := by
                unfold codesOf at hX
                exact List.append_inj hX (hlen _ _ h1)
              have hfr := frames_sb (ρ := ρ) (N := Ck.next) (M := C.next) _ _ (f :: fs) o1 h1 hcs.1 (.cons R.top R.rest)
              cases hfr with
              | cons a b => exact ⟨rfl, rfl, sb_Ok hρ R.pc h4, a, b, heap_sb h2 h3 hcs.2 R.heap, okH_ok _ hok, okPc_ok hρ (R.pc.cons (p := .lit true) rfl) _ h5⟩
            · cases hok
          · cases hfit
        · cases hfit
      · cases hfit
    · cases hfit
  · cases hfit
end
end Go.Proofs.Ytjgkaimgocnkmab.Sx
