/- A reckoner of Go's small steps over letters: runs that stop at the heads of loops do as they are reckoned. No condition. -/
import Derived.Test.YtjgkaimgocnkmabSc1
set_option linter.unusedVariables false
set_option linter.unusedSimpArgs false
set_option linter.deprecated false
namespace Go.Proofs.Ytjgkaimgocnkmab.Sx
open Go
section
variable {ρ : Rho} {S : Sub} {pc : List BE}
theorem sbL_eq (l : List SV) : SV.sbL pc S l = l.map (SV.sb pc S) := by
  induction l with
  | nil => rfl
  | cons v l ih => simp [SV.sbL, ih]
theorem subSl_eq (t : Slots) : subSl pc S t = t.map fun l => l.map (SV.sb pc S) := by
  induction t with
  | nil => rfl
  | cons l t ih => simp [subSl, ih, sbL_eq]
theorem get2_subSl (t : Slots) (i : Nat) : get2 (subSl pc S t) i = (get2 t i).map (SV.sb pc S) := by
  rw [get2_eq, get2_eq, subSl_eq, List.getElem?_map]
  cases t[i / 8]? <;> simp
theorem eqSl_eq : ∀ (a b : Slots), eqSl a b = true → a = b
  | [], [], _ => rfl
  | [], _ :: _, h => by simp [eqSl] at h
  | _ :: _, [], h => by simp [eqSl] at h
  | l :: r, m :: q, h => by
    simp only [eqSl] at h
    split at h
    · rename_i h1; rw [SV.beqL_eq _ _ h1, eqSl_eq r q h]
    · cases h
theorem slots_sb (hρ : ρ.Ok) (hp : Holds ρ pc) {t a : Slots} {X : Array Value} (he : eqSl (subSl pc S t) a = true) (h : SlotsR ρ a X) : SlotsR (ρ.sb S) t X := by
  intro i
  rw [← h i, ← eqSl_eq _ _ he, get2_subSl]
  cases get2 t i <;> simp [SV.sb_den hρ hp]
theorem eqNs_eq : ∀ (a b : List Nat), eqNs a b = true → a = b
  | [], [], _ => rfl
  | [], _ :: _, h => by simp [eqNs] at h
  | _ :: _, [], h => by simp [eqNs] at h
  | l :: r, m :: q, h => by
    simp only [eqNs] at h
    split at h
    · rename_i h1; rw [Nat.eq_of_beq_eq_true h1, eqNs_eq r q h]
    · cases h
theorem subNs_eq (l : List Nat) : subNs S l = l.map (nmA S.a) := by
  induction l with
  | nil => rfl
  | cons v l ih => simp [subNs, ih]
theorem todo_sb (k : List SItem) : (subTodo S k).map (SItem.den ρ) = k.map (SItem.den (ρ.sb S)) := by
  induction k with
  | nil => rfl
  | cons i k ih => cases i <;> simp [subTodo, SItem.sb, SItem.den, Rho.sb, ih]
end
/- what a template must keep to -/
def okNs (N : Nat) : List Nat → Bool
  | [] => true
  | n :: l => if Nat.blt n N then okNs N l else false
def okSl (N : Nat) : Slots → Bool
  | [] => true
  | l :: r => if okNs N (SV.namesL l) then okSl N r else false
noncomputable def okItem (N : Nat) : SItem → Bool
  | .code c => codeOk c
  | .inLoop c => codeOk c
  | .inScope c => codeOk c
  | .inRegion ops _ => allPlain ops.toList
  | .inRange n => Nat.blt n N
  | .endRange n => Nat.blt n N
  | _ => true
noncomputable def okItems (N : Nat) : List SItem → Bool
  | [] => true
  | i :: k => if okItem N i then okItems N k else false
noncomputable def okF (N : Nat) (f : SFrame) : Bool :=
  if okSl N f.tmps then (if okItems N f.todo then (if okNs N f.defers then (match f.ret, f.round with
    | false, none => true
    | false, some n => Nat.blt n N
    | _, _ => false) else false) else false) else false
noncomputable def okFs (N : Nat) : List SFrame → Bool
  | [] => true
  | f :: l => if okF N f then okFs N l else false
def okH (N : Nat) : SHeap → Bool
  | [] => true
  | (n, o) :: l => if Nat.blt n N then (if okNs N o.names then okH N l else false) else false
noncomputable def cfgOk (C : Cfg) : Bool := if okFs C.next (C.top :: C.rest) then okH C.next C.heap else false
section
variable {ρ : Rho} {S : Sub} {b0 : World} {pc : List BE}
theorem okNs_ok {N : Nat} : ∀ (l : List Nat), okNs N l = true → ∀ n ∈ l, n < N
  | [], _, n, hn => by simp at hn
  | m :: l, h, n, hn => by
    simp only [okNs] at h
    split at h
    · rename_i h1
      rcases List.mem_cons.1 hn with rfl | hn
      · simpa [Nat.blt_eq] using h1
      · exact okNs_ok l h n hn
    · cases h
theorem okSl_ok {N : Nat} : ∀ (t : Slots), okSl N t = true → ∀ l ∈ t, ∀ v ∈ l, NamesV N v
  | [], _, l, hl => by simp at hl
  | m :: t, h, l, hl => by
    simp only [okSl] at h
    split at h
    · rename_i h1
      rcases List.mem_cons.1 hl with rfl | hl
      · intro v hv n hn
        exact okNs_ok _ h1 n (mem_namesL.2 ⟨v, hv, hn⟩)
      · exact okSl_ok t h l hl
    · cases h
theorem okSl_names {N : Nat} {t : Slots} (h : okSl N t = true) : SNames N t := by
  intro i v hv
  rw [get2_eq] at hv
  cases hc : t[i / 8]? with
  | none => simp [hc] at hv
  | some l =>
    simp only [hc, Option.bind_some] at hv
    exact okSl_ok t h l (List.mem_of_getElem? hc) v (List.mem_of_getElem? hv)
theorem okItem_ok {N : Nat} {i : SItem} (h : okItem N i = true) : i.okI N := by
  cases i <;> simp [okItem, SItem.okI, Nat.blt_eq] at h ⊢ <;> exact h
theorem okItems_ok {N : Nat} : ∀ (k : List SItem), okItems N k = true → ∀ i ∈ k, i.okI N
  | [], _, i, hi => by simp at hi
  | j :: k, h, i, hi => by
    simp only [okItems] at h
    split at h
    · rename_i h1
      rcases List.mem_cons.1 hi with rfl | hi
      · exact okItem_ok h1
      · exact okItems_ok k h i hi
    · cases h
theorem okH_ok {N : Nat} : ∀ (h : SHeap), okH N h = true → HNames N h
  | [], _, n, o, hl => by simp [lk_nil] at hl
  | (m, p) :: h, hk, n, o, hl => by
    simp only [okH] at hk
    split at hk
    · rename_i h1
      split at hk
      · rename_i h2
        rw [lk_cons] at hl
        split at hl
        · rename_i e
          subst e
          cases hl
          exact ⟨by simpa [Nat.blt_eq] using h1, okNs_ok _ h2⟩
        · exact okH_ok h hk n o hl
      · cases hk
    · cases hk
/- frames -/
theorem frame_sb (hρ : ρ.Ok) (hp : Holds ρ pc) {N M : Nat} {t a : SFrame} {f : Frame} (hok : okF N t = true) (hf : fitF pc S t a = true) (hc : a.todo = subTodo S t.todo) (h : FrameR ρ M a f) : FrameR (ρ.sb S) N t f := by
  unfold fitF at hf
  split at hf
  · rename_i h1
    split at hf
    · rename_i h2
      split at hf
      · rename_i h3
        split at hf
        · rename_i hr1 hr2
          have e1 := Nat.eq_of_beq_eq_true h1
          have e3 := eqNs_eq _ _ h3
          rw [subNs_eq] at e3
          have e4 : a.round = t.round.map (nmA S.a) := by
            unfold eqON at hf
            split at hf
            · rename_i q1 q2; rw [q1, q2]
            · rename_i n m q1 q2; rw [q1, q2, Nat.eq_of_beq_eq_true hf]
            · cases hf
          unfold okF at hok
          split at hok
          · rename_i o1
            split at hok
            · rename_i o2
              split at hok
              · rename_i o3
                refine ⟨?_, slots_sb hρ hp h2 h.slots, okSl_names o1, okItems_ok _ o2, okNs_ok _ o3, ?_, fun hh => by rw [hr1] at hh; cases hh⟩
                · rw [h.eq, hr2, hr1, hc, todo_sb, ← e1, ← e3, e4]
                  simp [defsOf, Rho.sb, Function.comp_def]
                · intro n hn
                  rw [hr1, hn] at hok
                  simpa [Nat.blt_eq] using hok
              · cases hok
            · cases hok
          · cases hok
        · cases hf
      · cases hf
    · cases hf
  · cases hf
theorem frames_sb (hρ : ρ.Ok) (hp : Holds ρ pc) {N M : Nat} : ∀ (t a : List SFrame) (fs : List Frame), okFs N t = true → fitFs pc S t a = true → codesF a = subTodos S (codesF t) → FramesR ρ M a fs → FramesR (ρ.sb S) N t fs
  | [], [], fs, _, _, _, h => by cases h; exact .nil
  | [], _ :: _, fs, _, hf, _, _ => by simp [fitFs] at hf
  | _ :: _, [], fs, _, hf, _, _ => by simp [fitFs] at hf
  | t :: ts, a :: as, fs, hok, hf, hc, h => by
    cases h with
    | cons h hs =>
      simp only [okFs] at hok
      simp only [fitFs] at hf
      simp only [codesF, subTodos, List.cons.injEq] at hc
      split at hok
      · rename_i o1
        split at hf
        · rename_i f1
          exact .cons (frame_sb hρ hp o1 f1 hc.1 h) (frames_sb hρ hp ts as _ hok hf hc.2 hs)
        · cases hf
      · cases hok
theorem stLoop_eq (a b : LoopState) (h : stLoop a = stLoop b) : a = b := by
  cases a <;> cases b <;> first | rfl | (simp [stLoop] at h)
/-- Whether the codes of two things are the same. -/
def sameCode : SObj → SObj → Prop
  | .loop _ _ _ _ _ as body _, .loop _ _ _ _ _ as' body' _ => as' = as ∧ body' = body
  | _, _ => True
theorem obj_sb (hρ : ρ.Ok) (hp : Holds ρ pc) {t a : SObj} {obj : Obj} (hf : fitO pc S t a = true) (hc : sameCode t a) (h : ObjR ρ a obj) : ObjR (ρ.sb S) t obj := by
  unfold fitO at hf
  split at hf
  · rename_i l ty m ty'
    split at hf
    · rename_i h1
      have e1 := Nat.eq_of_beq_eq_true h1
      have e2 := SV.beqL_eq _ _ hf
      simp only [ObjR] at h ⊢
      rw [h, ← e2, SV.sbL_den hρ hp, e1]
    · cases hf
  · rename_i l ty c z m ty' d z'
    split at hf
    · rename_i h1
      split at hf
      · rename_i h2
        split at hf
        · rename_i h3
          have e1 := Nat.eq_of_beq_eq_true h1
          have e2 := Nat.eq_of_beq_eq_true h2
          have e3 := Nat.eq_of_beq_eq_true h3
          have e4 := SV.beqL_eq _ _ hf
          obtain ⟨rest, lo, hi, ho, q1, q2, q3, q4⟩ := h
          have hl : m.length = l.length := by rw [← e4, sbL_eq]; simp
          refine ⟨rest, lo, hi, ?_, ?_, ?_, ?_, ?_⟩
          · rw [ho, ← e4, SV.sbL_den hρ hp, e1]
          · rw [← hl]; exact q1
          · rw [← hl, e3]
            simp only [Rho.sb]; rw [e2]; exact q2
          · simp only [Rho.sb]; rw [e2]; exact q3
          · rw [e3]; exact q4
        · cases hf
      · cases hf
    · cases hf
  · rename_i l x ks ty c z m y js ty' d z'
    split at hf
    · rename_i h1
      split at hf
      · rename_i h2
        split at hf
        · rename_i h3
          split at hf
          · rename_i h4
            split at hf
            · rename_i h5
              have e1 := Nat.eq_of_beq_eq_true h1
              have e2 := Nat.eq_of_beq_eq_true h2
              have e3 := Nat.eq_of_beq_eq_true h3
              have e4 := ksEq_eq _ _ h4
              have e5 := IE.beq_eq _ _ h5
              have e6 := LE.beq_eq _ _ hf
              subst e1; subst e3; subst e4
              have d1 := LE.sb_den (S := S) hρ hp l
              have d2 := IE.sb_den (S := S) hρ hp x
              rw [e6] at d1
              rw [e5] at d2
              simp only [ObjR] at h ⊢
              rw [← d1, ← d2]
              have : (ρ.sb S).a c = ρ.a d := by rw [← e2]; rfl
              rw [this]
              exact h
            · cases hf
          · cases hf
        · cases hf
      · cases hf
    · cases hf
  · rename_i st p fn tm ps as bo d st' p' fn' tm' ps' as' bo' d'
    split at hf
    · rename_i h1
      split at hf
      · rename_i h2
        split at hf
        · rename_i h3
          split at hf
          · rename_i h4
            split at hf
            · rename_i h5
              split at hf
              · rename_i h6
                have e1 := stLoop_eq _ _ (Nat.eq_of_beq_eq_true h1)
                have e2 : p = none := by cases p with
                  | none => rfl
                  | some c => simp [noPend] at h2
                have e3 : p' = none := by cases p' with
                  | none => rfl
                  | some c => simp [noPend] at h3
                have e4 := Nat.eq_of_beq_eq_true h4
                have e6 := eqNs_eq _ _ h6
                have e7 := Nat.eq_of_beq_eq_true hf
                obtain ⟨c1, c2⟩ := hc
                obtain ⟨X, hX, k1, k2, k3, ho⟩ := h
                subst e1; subst e2; subst e3; subst e4; subst e6; subst c1; subst c2
                refine ⟨X, slots_sb hρ hp h5 hX, k1, k2, by simp, ?_⟩
                rw [ho]
                simp only [Rho.sb]
                rw [e7]
              · cases hf
            · cases hf
          · cases hf
        · cases hf
      · cases hf
    · cases hf
  · rename_i s s'
    have : s = s' := by simpa using hf
    subst this
    exact h
  · cases hf
/- memory -/
theorem heap_fit {h : SHeap} : ∀ (t : SHeap), fitH pc S h t = true → codesH (pickH S h t) = codesH t → ∀ n o, lk t n = some o → ∃ a, lk h (nmA S.a n) = some a ∧ fitO pc S o a = true ∧ sameCode o a
  | [], _, _, n, o, hl => by simp [lk_nil] at hl
  | (m, p) :: t, hf, hc, n, o, hl => by
    simp only [fitH] at hf
    split at hf
    · rename_i a ha
      split at hf
      · rename_i h1
        simp only [pickH, ha] at hc
        have key : codesH (pickH S h t) = codesH t ∧ sameCode p a := by
          revert hc
          cases p <;> cases a <;> simp [fitO] at h1 <;> simp [codesH, sameCode]
          intro q1 q2 q3; exact ⟨q3, q1, q2⟩
        rw [lk_cons] at hl
        split at hl
        · rename_i e
          subst e
          cases hl
          exact ⟨a, ha, h1, key.2⟩
        · exact heap_fit t hf key.1 n o hl
      · cases hf
    · cases hf
theorem apartN_ok : ∀ (t : SHeap) (seen : List Nat), apartN S t seen = true → (∀ n o, lk t n = some o → nmA S.a n ∉ seen) ∧ (∀ n m o p, lk t n = some o → lk t m = some p → nmA S.a n = nmA S.a m → n = m)
  | [], seen, _ => ⟨fun n o h => by simp [lk_nil] at h, fun n m o p h => by simp [lk_nil] at h⟩
  | (k, q) :: t, seen, h => by
    simp only [apartN] at h
    split at h
    · cases h
    · rename_i h1
      obtain ⟨a, b⟩ := apartN_ok t _ h
      have h1' : nmA S.a k ∉ seen := fun hm => h1 ((memN_iff _ _).2 hm)
      refine ⟨?_, ?_⟩
      · intro n o hl
        rw [lk_cons] at hl
        split at hl
        · rename_i e; subst e; exact h1'
        · exact fun hm => a n o hl (List.mem_cons_of_mem _ hm)
      · intro n m o p hn hm he
        rw [lk_cons] at hn hm
        split at hn
        · rename_i e1
          subst e1
          split at hm
          · rename_i e2; exact e2
          · exact absurd (List.mem_cons.2 (.inl he.symm)) (a m p hm)
        · split at hm
          · rename_i e2
            subst e2
            exact absurd (List.mem_cons.2 (.inl he)) (a n o hn)
          · exact b n m o p hn hm he
theorem heap_sb (hρ : ρ.Ok) (hp : Holds ρ pc) {h t : SHeap} {w : World} (hf : fitH pc S h t = true) (hap : apartN S t [] = true) (hc : codesH (pickH S h t) = codesH t) (H : HeapR ρ b0 h w) : HeapR (ρ.sb S) b0 t w := by
  have fit := heap_fit t hf hc
  have ap := (apartN_ok t [] hap).2
  refine ⟨H.g0, ?_, ?_, ?_⟩
  · intro n o hl
    obtain ⟨a, ha, h1, h2⟩ := fit n o hl
    obtain ⟨obj, q1, q2⟩ := H.at_ _ _ ha
    exact ⟨obj, q1, obj_sb hρ hp h1 h2 q2⟩
  · intro n o hl
    obtain ⟨a, ha, _⟩ := fit n o hl
    exact H.own _ _ ha
  · intro n m o p hn hm he
    obtain ⟨a, ha, _⟩ := fit n o hn
    obtain ⟨b, hb, _⟩ := fit m p hm
    exact ap n m o p hn hm (H.inj _ _ _ _ ha hb he)
theorem inRows_ok {n : Nat} : ∀ {t : SHeap}, inRows n t = true → ∃ m tot ks ty cn sz, (m, SObj.rowl (.var n) tot ks ty cn sz) ∈ t
  | [], h => by cases h
  | (m, o) :: t, h => by
    unfold inRows at h
    split at h
    · rename_i hq; cases hq
    · rename_i m' q tot ks ty cn sz l hq
      cases hq
      split at h
      · rename_i hn
        have : n = q := by simpa using hn
        subst this
        exact ⟨_, _, _, _, _, _, List.mem_cons_self ..⟩
      · obtain ⟨m1, a1, a2, a3, a4, a5, h1⟩ := inRows_ok h
        exact ⟨m1, a1, a2, a3, a4, a5, List.mem_cons_of_mem _ h1⟩
    · rename_i l _ hq
      cases hq
      obtain ⟨m1, a1, a2, a3, a4, a5, h1⟩ := inRows_ok h
      exact ⟨m1, a1, a2, a3, a4, a5, List.mem_cons_of_mem _ h1⟩
/-- All of a template's things are in memory. -/
theorem fitH_mem {h : SHeap} : ∀ (t : SHeap), fitH pc S h t = true → ∀ n o, (n, o) ∈ t → ∃ a, lk h (nmA S.a n) = some a ∧ fitO pc S o a = true
  | [], _, n, o, hl => by cases hl
  | (m, p) :: t, hf, n, o, hl => by
    simp only [fitH] at hf
    split at hf
    · rename_i a ha
      split at hf
      · rename_i h1
        rcases List.mem_cons.1 hl with e | hl
        · cases e; exact ⟨a, ha, h1⟩
        · exact fitH_mem t hf n o hl
      · cases hf
    · cases hf
theorem okLs_ok (hρ : ρ.Ok) (hp : Holds ρ pc) {roms : List (Nat × (Nat × List CK))} (hr : RTyped roms ρ) {t : SHeap} : ∀ (l : List (Nat × LE)), okLs roms pc t l = true → ∀ n e, lk l n = some e → (oddN n = true → Typed byteK (e.den ρ)) ∧ (inRows n t = true ∨ ((e.den ρ).length : Int) ≤ 9223372036854775807)
  | [], _, n, e, h => by rw [lk_nil] at h; cases h
  | (m, f) :: l, hi, n, e, h => by
    simp only [okLs] at hi
    split at hi
    · rename_i h1
      split at hi
      · rename_i h2
        rw [lk_cons] at h
        split at h
        · rename_i he
          subst he
          cases h
          unfold oddTy at h1
          unfold lenTy at h2
          refine ⟨fun ho => ?_, ?_⟩
          · rw [if_pos ho] at h1
            exact typedB_ok hρ hp hr _ h1
          · by_cases hin : inRows m t = true
            · exact .inl hin
            · rw [if_neg hin] at h2
              split at h2
              · rename_i h3
                have := dec_le hρ hp h3
                rw [lenE_den hρ hp, lit_den] at this
                exact .inr this
              · cases h2
        · exact okLs_ok hρ hp hr l hi n e h
      · cases hi
    · cases hi
theorem keysN_ok {α : Type} : ∀ {l : List (Nat × α)}, keysN l = true → ∀ n, n < 1000 → lk l n = none
  | [], _, n, _ => lk_nil n
  | (m, a) :: l, h, n, hn => by
    simp only [keysN] at h
    split at h
    · rename_i h1
      have := Nat.le_of_ble_eq_true h1
      rw [lk_cons, if_neg (by omega)]
      exact keysN_ok h n hn
    · cases h
theorem keysI_ok : ∀ {l : List (IntKind × Nat × IE)}, keysI l = true → ∀ k n, n < 1000 → lkI l k n = none
  | [], _, k, n, _ => rfl
  | (j, m, a) :: l, h, k, n, hn => by
    simp only [keysI] at h
    split at h
    · rename_i h1
      have := Nat.le_of_ble_eq_true h1
      simp only [lkI]
      have hm : Nat.beq m n = false := by
        cases hb : Nat.beq m n with
        | false => rfl
        | true => have := Nat.eq_of_beq_eq_true hb; omega
      rw [hm]
      split
      · exact keysI_ok h k n hn
      · exact keysI_ok h k n hn
    · cases h
/-- What stays: letters below 1000, what came in. -/
structure Frz (ρ ρ' : Rho) : Prop where
  i : ∀ k n, n < 1000 → ρ'.i k n = ρ.i k n
  b : ∀ n, n < 1000 → ρ'.b n = ρ.b n
  l : ∀ n, n < 1000 → ρ'.l n = ρ.l n
  z : ρ'.z = ρ.z
theorem Frz.refl (ρ : Rho) : Frz ρ ρ := ⟨fun _ _ _ => rfl, fun _ _ => rfl, fun _ _ => rfl, rfl⟩
theorem Frz.trans {a b c : Rho} (h : Frz a b) (g : Frz b c) : Frz a c := ⟨fun k n hn => (g.i k n hn).trans (h.i k n hn), fun n hn => (g.b n hn).trans (h.b n hn), fun n hn => (g.l n hn).trans (h.l n hn), g.z.trans h.z⟩
theorem Same.frz {a b : Rho} (h : Same a b) : Frz a b := ⟨fun k n _ => by rw [h.i], fun n _ => by rw [h.b], fun n _ => by rw [h.l], h.z⟩
theorem keysOk_frz (h : keysOk S = true) : Frz ρ (ρ.sb S) := by
  unfold keysOk at h
  split at h
  · rename_i h1
    split at h
    · rename_i h2
      split at h
      · rename_i h3
        split at h
        · rename_i h4
          refine ⟨fun k n hn => ?_, fun n hn => ?_, fun n hn => ?_, ?_⟩
          · show (match lkI S.i k n with | some e => e.den ρ | none => ρ.i k n) = _
            rw [keysI_ok h1 k n hn]
          · show (match lk S.b n with | some e => e.den ρ | none => ρ.b n) = _
            rw [keysN_ok h2 n hn]
          · show (match lk S.l n with | some e => e.den ρ | none => ρ.l n) = _
            rw [keysN_ok h3 n hn]
          · show ({ ρ.z with rl := fun r => match lk S.r r with | some l => l.den ρ | none => ρ.z.rl r } : Env) = ρ.z
            rw [h4]
            simp only [lk_nil]
        · cases h
      · cases h
    · cases h
  · cases h
theorem sb_Ok (hρ : ρ.Ok) (hp : Holds ρ pc) {pc0 : List BE} (hp0 : Holds ρ pc0) {roms : List (Nat × (Nat × List CK))} (hr : RTyped roms ρ) {t : SHeap} {h : SHeap} {w : World} (H : HeapR ρ b0 h w) (h1 : insK pc S.i = true) (h2 : okLs roms pc t S.l = true) (h3 : keysOk S = true) (h4 : fitH pc0 S h t = true) : (ρ.sb S).Ok := by
  have fz := keysOk_frz (ρ := ρ) h3
  have ol := okLs_ok hρ hp hr _ h2
  refine ⟨?_, ?_, ?_, ?_, ?_, ?_⟩
  · intro k n
    show kmin k ≤ (match lkI S.i k n with | some e => e.den ρ | none => ρ.i k n)
    split
    · rename_i e he; exact (insK_ok hρ hp _ h1 k n e he).1
    · exact hρ.lo k n
  · intro k n
    show (match lkI S.i k n with | some e => e.den ρ | none => ρ.i k n) ≤ kmax k
    split
    · rename_i e he; exact (insK_ok hρ hp _ h1 k n e he).2
    · exact hρ.hi k n
  · intro n
    show (((match lk S.l n with | some e => e.den ρ | none => ρ.l n) : LV).length : Int) ≤ _
    split
    · rename_i e he
      rcases (ol n e he).2 with hin | hle
      · obtain ⟨m, tot, ks, ty, cn, sz, hm⟩ := inRows_ok hin
        obtain ⟨a, ha, hf⟩ := fitH_mem t h4 m _ hm
        cases a with
        | rowl y tot2 js ty2 d z2 =>
          simp only [fitO] at hf
          split at hf
          · split at hf
            · split at hf
              · split at hf
                · split at hf
                  · have e6 := LE.beq_eq _ _ hf
                    simp only [LE.sb, he] at e6
                    subst e6
                    obtain ⟨obj, ho, rest, lo, hi, rfl, _, hcap, hmx, hpos, hks, htc, _⟩ := H.at_ _ _ ha
                    have hfl := flat_len htc
                    rw [hks] at hfl
                    have h5 : (e.den ρ).length * z2 ≤ ρ.a d * z2 := by omega
                    have h6 := Nat.le_of_mul_le_mul_right h5 hpos
                    simp only [maxLen] at hmx
                    omega
                  · cases hf
                · cases hf
              · cases hf
            · cases hf
          · cases hf
        | cells _ _ => simp [fitO] at hf
        | row _ _ _ _ => simp [fitO] at hf
        | loop _ _ _ _ _ _ _ _ => simp [fitO] at hf
        | defd _ => simp [fitO] at hf
      · exact hle
    · exact hρ.ll n
  · intro n hodd
    show Typed byteK (match lk S.l n with | some e => e.den ρ | none => ρ.l n)
    split
    · rename_i e he; exact (ol n e he).1 hodd
    · exact hρ.lodd n hodd
  · intro r; rw [fz.z]; exact hρ.rl r
  · intro n a hodd; rw [fz.z]; exact hρ.fodd n a hodd
theorem mark_den {p : BE} (h : isMark p = true) : p.den ρ = true := by
  unfold isMark at h
  split at h
  · simp [BE.den]
  · cases h
theorem okPc_ok (hρ : ρ.Ok) {pc : List BE} (hp : Holds ρ pc) : ∀ (l : List BE), okPc pc S l = true → Holds (ρ.sb S) (leanOf l) → Holds (ρ.sb S) l
  | [], _, _ => fun p hp => by cases hp
  | c :: l, h, hl => by
    simp only [okPc] at h
    simp only [leanOf] at hl
    split at h
    · rename_i hm
      rw [if_pos hm] at hl
      exact Holds.cons hl (mark_den hm)
    · rename_i hm
      rw [if_neg hm] at hl
      split at h
      · rename_i h1
        refine Holds.cons (okPc_ok hρ hp l h hl) ?_
        rw [← BE.sb_den hρ hp]
        exact dec_den hρ hp _ _ h1
      · cases h
/-- A configuration that fits a template is one. -/
theorem fit_ok {roms : List (Nat × (Nat × List CK))} {k : Nat} {Ck C : Cfg} {k' : Nat} {pc : List BE} {S0 S : Sub} {X : List (List SItem)} {w : World} {f : Frame} {fs : List Frame} (hfit : fitWith roms k Ck C S0 = .cut k' pc S X) (hX : X = codesOf S Ck) (hok : cfgOk Ck = true) (hρ : ρ.Ok) (hr : RTyped roms ρ) (R : CfgR ρ b0 C w f fs) (hl : (ρ.sb S).Ok → Frz ρ (ρ.sb S) → HeapR (ρ.sb S) b0 Ck.heap w → Holds (ρ.sb S) (leanOf Ck.pc)) :
    k' = k ∧ pc = C.pc ∧ (ρ.sb S).Ok ∧ Frz ρ (ρ.sb S) ∧ CfgR (ρ.sb S) b0 Ck w f fs := by
  unfold fitWith at hfit
  split at hfit
  · rename_i h1
    split at hfit
    · rename_i h2
      split at hfit
      · rename_i h3
        split at hfit
        · rename_i h4
          split at hfit
          · rename_i h6
            split at hfit
            · rename_i h7
              split at hfit
              · rename_i h5
                simp only [View.cut.injEq] at hfit
                obtain ⟨rfl, rfl, rfl, rfl⟩ := hfit
                unfold cfgOk at hok
                split at hok
                · rename_i o1
                  have hlen : ∀ (t a : List SFrame), fitFs C.pc S0 t a = true → (codesF a).length = (subTodos S0 (codesF t)).length := by
                    intro t
                    induction t with
                    | nil => intro a ha; cases a <;> simp [fitFs] at ha; rfl
                    | cons x t ih =>
                      intro a ha
                      cases a with
                      | nil => simp [fitFs] at ha
                      | cons y a =>
                        simp only [fitFs] at ha
                        split at ha
                        · simp [codesF, subTodos, ih a ha]
                        · cases ha
                  have hcs : codesF (C.top :: C.rest) = subTodos S0 (codesF (Ck.top :: Ck.rest)) ∧ codesH (pickH S0 C.heap Ck.heap) = codesH Ck.heap := by
                    unfold codesOf at hX
                    exact List.append_inj hX (hlen _ _ h1)
                  have hfr := frames_sb (ρ := ρ) hρ R.pc (N := Ck.next) (M := C.next) _ _ (f :: fs) o1 h1 hcs.1 (.cons R.top R.rest)
                  have hpT : Holds ρ (.lit true :: C.pc) := R.pc.cons (p := .lit true) (by simp only [BE.den])
                  cases hfr with
                  | cons a b =>
                    have k1 := sb_Ok hρ hpT R.pc hr R.heap h4 h6 h7 h2
                    have k2 := heap_sb hρ R.pc h2 h3 hcs.2 R.heap
                    exact ⟨rfl, rfl, k1, keysOk_frz h7, a, b, k2, okH_ok _ hok, okPc_ok hρ hpT _ h5 (hl k1 (keysOk_frz h7) k2)⟩
                · cases hok
              · cases hfit
            · cases hfit
          · cases hfit
        · cases hfit
      · cases hfit
    · cases hfit
  · cases hfit
end
end Go.Proofs.Ytjgkaimgocnkmab.Sx
