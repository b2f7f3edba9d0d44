/- A reckoner of Go's small steps over letters: an operation of a region, wherever it stands in the order. No condition. -/
import Derived.Test.YtjgkaimgocnkmabSp10
set_option linter.unusedVariables false
set_option linter.unusedSimpArgs false
set_option linter.deprecated false
namespace Go.Proofs.Ytjgkaimgocnkmab.Sx
open Go
section
variable {P : Program} {T : Tab} {b0 : World} {sub : Cfg → Out} {ρ : Rho}
theorem HeapF.part {L L' : Nat → Option SObj} {w : World} (H : HeapF ρ b0 L w) (h : ∀ n o, L' n = some o → L n = some o) : HeapF ρ b0 L' w :=
  ⟨H.g0, fun n o hn => H.at_ n o (h n o hn), fun n o hn => H.own n o (h n o hn), fun n m o p hn hm => H.inj n m o p (h n o hn) (h m p hm)⟩
theorem HeapF.lt {L : Nat → Option SObj} {w : World} (H : HeapF ρ b0 L w) {n : Nat} {o : SObj} (hn : L n = some o) : ρ.a n < w.heap.size := by
  obtain ⟨obj, ho, _⟩ := H.at_ n o hn
  exact (Array.getElem?_eq_some_iff.1 ho).1
theorem lk_keepH (F : List Nat) (h : SHeap) (n : Nat) : lk (keepH F h) n = if memN n F then lk h n else none := by
  induction h with
  | nil => simp [keepH, lk_nil]
  | cons p h ih =>
    obtain ⟨m, o⟩ := p
    simp only [keepH]
    by_cases hm : memN m F = true
    · rw [if_pos hm, lk_cons, lk_cons, ih]
      by_cases e : m = n
      · subst e; simp [hm]
      · simp [e]
    · rw [if_neg hm, ih, lk_cons]
      by_cases e : m = n
      · subst e; simp [hm]
      · simp [e]
theorem lk_append {α : Type} (l m : List (Nat × α)) (n : Nat) : lk (l ++ m) n = match lk l n with | some o => some o | none => lk m n := by
  induction l with
  | nil => simp [lk_nil]
  | cons p l ih =>
    obtain ⟨k, o⟩ := p
    rw [List.cons_append, lk_cons, lk_cons, ih]
    by_cases e : k = n <;> simp [e]
theorem lk_mem {α : Type} {l : List (Nat × α)} {n : Nat} {o : α} (h : lk l n = some o) : (n, o) ∈ l := by
  induction l with
  | nil => simp [lk_nil] at h
  | cons p l ih =>
    obtain ⟨k, x⟩ := p
    rw [lk_cons] at h
    split at h
    · rename_i e; subst e; cases h; exact List.mem_cons_self ..
    · exact List.mem_cons_of_mem _ (ih h)
theorem madeOf_ok (nx : Nat) (h : SHeap) (n : Nat) : lk (madeOf nx h) n = if nx ≤ n then lk h n else none := by
  induction h with
  | nil => simp [madeOf, lk_nil]
  | cons p h ih =>
    obtain ⟨m, o⟩ := p
    simp only [madeOf]
    by_cases hm : nx ≤ m
    · rw [if_pos (Nat.ble_eq_true_of_le hm), lk_cons, lk_cons, ih]
      by_cases e : m = n
      · subst e; simp [hm]
      · simp [e]
    · rw [if_neg (by intro hb; exact hm (Nat.le_of_ble_eq_true hb)), ih, lk_cons]
      by_cases e : m = n
      · subst e; simp [hm]
      · simp [e]
theorem SObj.beq_eq (a b : SObj) (h : a.beq b = true) : a = b := by
  cases a <;> cases b <;> simp [SObj.beq] at h
  · rw [h.1, SV.beqL_eq _ _ h.2]
  · rw [h.1, h.2.1, h.2.2.1, SV.beqL_eq _ _ h.2.2.2]
  · rw [h.1, h.2.1, h.2.2.1, ksEq_eq _ _ h.2.2.2.1, IE.beq_eq _ _ h.2.2.2.2.1, LE.beq_eq _ _ h.2.2.2.2.2]
theorem goneOf_ok (h h' : SHeap) : ∀ (F : List Nat) (n : Nat), memN n (goneOf h h' F) = true ↔ memN n F = true ∧ (lk h n).isSome = true ∧ lk h' n = none
  | [], n => by simp [goneOf, memN]
  | m :: F, n => by
    have ih := goneOf_ok h h' F n
    simp only [goneOf]
    split
    · rename_i o h1 h2
      simp only [memN]
      split
      · rename_i e
        have : m = n := by simpa using e
        subst this
        simp [h1, h2]
      · exact ih
    · rename_i hh
      rw [ih]
      simp only [memN]
      split
      · rename_i e
        have : m = n := by simpa using e
        subst this
        constructor
        · rintro ⟨a, b, c⟩
          obtain ⟨o, ho⟩ := Option.isSome_iff_exists.1 b
          exact absurd c (by intro hc; exact hh o ho hc)
        · rintro ⟨_, b, c⟩
          obtain ⟨o, ho⟩ := Option.isSome_iff_exists.1 b
          exact absurd c (by intro hc; exact hh o ho hc)
      · rfl
theorem lk_rmAll : ∀ (g : List Nat) (h : SHeap) (n : Nat), lk (rmAll h g) n = if memN n g then none else lk h n
  | [], h, n => by simp [rmAll, memN]
  | m :: g, h, n => by
    simp only [rmAll]
    rw [lk_rmAll g, lk_rmH]
    simp only [memN]
    by_cases hm : m = n
    · subst hm; simp
    · have : ¬ n = m := fun e => hm e.symm
      simp [hm, this]
theorem writesOf_ok (h h' : SHeap) : ∀ (F : List Nat) (ws : SHeap), writesOf h h' F = some ws →
    (∀ n o, (n, o) ∈ ws → lk h' n = some o ∧ memN n F = true ∧ (lk h n).isSome = true) ∧ (∀ n o, memN n F = true → lk h n = some o → lk ws n = none → memN n (goneOf h h' F) = false → lk h' n = some o) := by
  have gno : ∀ (F : List Nat) (n : Nat), memN n (goneOf h h' F) = false → ∀ o, memN n F = true → lk h n = some o → ∃ o', lk h' n = some o' := by
    intro F n hg o hF ho
    cases hx : lk h' n with
    | some o' => exact ⟨o', rfl⟩
    | none =>
      have := (goneOf_ok h h' F n).2 ⟨hF, by simp [ho], hx⟩
      rw [hg] at this; cases this
  have gback : ∀ (F : List Nat) (m n : Nat), memN n (goneOf h h' (m :: F)) = false → memN n F = true → memN n (goneOf h h' F) = false := by
    intro F m n hg hF
    cases hx : memN n (goneOf h h' F) with
    | false => rfl
    | true =>
      obtain ⟨a, b, c⟩ := (goneOf_ok h h' F n).1 hx
      have := (goneOf_ok h h' (m :: F) n).2 ⟨by simp [memN, a], b, c⟩
      rw [hg] at this; cases this
  intro F
  induction F with
  | nil => intro ws hw; simp [writesOf] at hw; subst hw; exact ⟨by simp, by simp [memN]⟩
  | cons m F ih =>
    intro ws hw
    simp only [writesOf] at hw
    split at hw
    · rename_i o o' ws' h1 h2 h3
      obtain ⟨a1, a2⟩ := ih _ h3
      split at hw
      · rename_i hb
        cases hw
        have := SObj.beq_eq _ _ hb
        subst this
        refine ⟨fun n p hn => ?_, ?_⟩
        · obtain ⟨b1, b2, b3⟩ := a1 n p hn
          exact ⟨b1, by simp [memN, b2], b3⟩
        · intro n p hn hl hws hg
          simp only [memN] at hn
          split at hn
          · rename_i e
            have : m = n := by simpa using e
            subst this
            rw [h1] at hl
            cases hl
            exact h2
          · exact a2 n p hn hl hws (gback F m n hg hn)
      · cases hw
        refine ⟨fun n p hn => ?_, ?_⟩
        · rcases List.mem_cons.1 hn with e | hn
          · cases e
            exact ⟨h2, by simp [memN], by simp [h1]⟩
          · obtain ⟨b1, b2, b3⟩ := a1 n p hn
            exact ⟨b1, by simp [memN, b2], b3⟩
        · intro n p hn hl hws hg
          rw [lk_cons] at hws
          simp only [memN] at hn
          split at hws
          · cases hws
          · rename_i e
            split at hn
            · rename_i e2; exact absurd (by simpa using e2) e
            · exact a2 n p hn hl hws (gback F m n hg hn)
    · rename_i ws' h1
      obtain ⟨a1, a2⟩ := ih _ hw
      refine ⟨fun n p hn => ?_, ?_⟩
      · obtain ⟨b1, b2, b3⟩ := a1 n p hn
        exact ⟨b1, by simp [memN, b2], b3⟩
      · intro n p hn hl hws hg
        simp only [memN] at hn
        split at hn
        · rename_i e
          have : m = n := by simpa using e
          subst this
          rw [h1] at hl
          cases hl
        · exact a2 n p hn hl hws (gback F m n hg hn)
    · rename_i o ws' h1 h2
      obtain ⟨a1, a2⟩ := ih _ hw
      refine ⟨fun n p hn => ?_, ?_⟩
      · obtain ⟨b1, b2, b3⟩ := a1 n p hn
        exact ⟨b1, by simp [memN, b2], b3⟩
      · intro n p hn hl hws hg
        simp only [memN] at hn
        split at hn
        · rename_i e
          have : m = n := by simpa using e
          subst this
          obtain ⟨o', ho'⟩ := gno _ _ hg p (by simp [memN]) hl
          rw [h2] at ho'; cases ho'
        · exact a2 n p hn hl hws (gback F m n hg hn)
    · cases hw
theorem lk_upAll (ws : SHeap) : ∀ (h : SHeap) (n : Nat), (∀ m o o', (m, o) ∈ ws → (m, o') ∈ ws → o = o') → (∀ m o, (m, o) ∈ ws → (lk h m).isSome = true) →
    lk (upAll h ws) n = match lk ws n with | some o => some o | none => lk h n := by
  induction ws with
  | nil => intro h n _ _; simp [upAll, lk_nil]
  | cons p ws ih =>
    obtain ⟨m, o⟩ := p
    intro h n h1 h2
    simp only [upAll]
    rw [ih (up h m o) n (fun a b c hb hc => h1 a b c (List.mem_cons_of_mem _ hb) (List.mem_cons_of_mem _ hc)) (fun a b hb => by
      rw [lk_up]
      have := h2 a b (List.mem_cons_of_mem _ hb)
      split
      · rename_i e; subst e; simpa using this
      · exact this)]
    rw [lk_cons, lk_up]
    by_cases e : m = n
    · subst e
      simp only [if_true]
      cases hl : lk ws m with
      | none =>
        have := h2 m o (List.mem_cons_self ..)
        cases hx : lk h m with
        | none => simp [hx] at this
        | some y => simp
      | some o' => simp [h1 m o o' (List.mem_cons_self ..) (List.mem_cons_of_mem _ (lk_mem hl))]
    · simp [e]
/-- The memory behind an operation that touched a part of it alone. -/
theorem merge {ρ ρ' : Rho} {lo hi : Nat} {L : Nat → Option SObj} {w w' : World} {e : Eff} (H : HeapF ρ b0 L w) (g : Agr ρ ρ' lo hi)
    (H2 : HeapF ρ' b0 (fun x => apH e x (if memN x e.touch then L x else none)) w')
    (hL : ∀ x o, L x = some o → (x < lo ∨ hi ≤ x) ∧ (memN x e.touch = true ∨ ∀ y ∈ o.names, y < lo ∨ hi ≤ y))
    (hmade : ∀ x, (lk e.made x).isSome = true → lo ≤ x ∧ x < hi ∧ (w.heap.size ≤ ρ'.a x ∨ ∃ m p, memN m e.touch = true ∧ L m = some p ∧ ρ'.a x = ρ.a m)) (hgn : ∀ x, memN x e.gone = true → memN x e.touch = true) (hwr : ∀ x, (lk e.writes x).isSome = true → memN x e.touch = true ∧ (L x).isSome = true)
    (hsz : w.heap.size ≤ w'.heap.size) (hsame : ∀ k, k < w.heap.size → (∀ n o, memN n e.touch = true → L n = some o → ρ.a n ≠ k) → w'.heap[k]? = w.heap[k]?) :
    HeapF ρ' b0 (fun x => apH e x (L x)) w' := by
  have key : ∀ x o, apH e x (L x) = some o → (apH e x (if memN x e.touch then L x else none) = some o) ∨ (memN x e.touch = false ∧ L x = some o ∧ lk e.made x = none ∧ lk e.writes x = none) := by
    intro x o hx
    unfold apH at hx ⊢
    cases h1 : lk e.made x with
    | some p => simp [h1] at hx ⊢; exact hx
    | none =>
      cases h2 : lk e.writes x with
      | some p => simp [h1, h2] at hx ⊢; exact hx
      | none =>
        simp only [h1, h2] at hx ⊢
        split at hx
        · cases hx
        · rename_i hg
          simp only [hg]
          cases h3 : memN x e.touch with
          | true => exact .inl (by simpa using hx)
          | false => exact .inr (by simpa using hx)
  have old : ∀ x o, memN x e.touch = false → L x = some o → w'.heap[ρ'.a x]? = w.heap[ρ.a x]? ∧ ρ'.a x = ρ.a x := by
    intro x o hx hl
    have ha := g.a x (hL x o hl).1
    refine ⟨?_, ha⟩
    rw [ha]
    refine hsame _ (H.lt hl) ?_
    intro n p hn hp heq
    have := H.inj n x p o hp hl heq
    subst this
    rw [hx] at hn; cases hn
  -- where a thing of the part stands
  have addr : ∀ x o, apH e x (if memN x e.touch then L x else none) = some o → (∃ p, memN x e.touch = true ∧ L x = some p ∧ ρ'.a x = ρ.a x) ∨ (w.heap.size ≤ ρ'.a x ∨ ∃ m p, memN m e.touch = true ∧ L m = some p ∧ ρ'.a x = ρ.a m) := by
    intro x o hx
    unfold apH at hx
    cases h1 : lk e.made x with
    | some p => exact .inr (hmade x (by simp [h1])).2.2
    | none =>
      simp only [h1] at hx
      cases h2 : lk e.writes x with
      | some p =>
        obtain ⟨ht, hs⟩ := hwr x (by simp [h2])
        obtain ⟨q, hl⟩ := Option.isSome_iff_exists.1 hs
        exact .inl ⟨q, ht, hl, g.a x (hL x q hl).1⟩
      | none =>
        simp only [h2] at hx
        split at hx
        · cases hx
        cases ht : memN x e.touch with
        | true =>
          simp [ht] at hx
          exact .inl ⟨o, rfl, hx, g.a x (hL x o hx).1⟩
        | false => simp [ht] at hx
  refine ⟨H2.g0, ?_, ?_, ?_⟩
  · intro x o hx
    rcases key x o hx with h | ⟨h1, h2, h3, h4⟩
    · exact H2.at_ x o h
    · obtain ⟨obj, h5, h6⟩ := H.at_ x o h2
      obtain ⟨h7, h8⟩ := old x o h1 h2
      refine ⟨obj, h7.trans h5, h6.agr g ?_⟩
      rcases (hL x o h2).2 with h | h
      · rw [h1] at h; cases h
      · exact h
  · intro x o hx
    rcases key x o hx with h | ⟨h1, h2, h3, h4⟩
    · exact H2.own x o h
    · rw [(old x o h1 h2).2]; exact H.own x o h2
  · intro x y o p hx hy heq
    rcases key x o hx with h | ⟨h1, h2, h3, h4⟩ <;> rcases key y p hy with k | ⟨k1, k2, k3, k4⟩
    · exact H2.inj x y o p h k heq
    · rw [(old y p k1 k2).2] at heq
      rcases addr x o h with ⟨q, a1, a2, a3⟩ | a
      · rw [a3] at heq; exact H.inj x y q p a2 k2 heq
      · rcases a with a | ⟨m, q, m1, m2, m3⟩
        · have := H.lt k2; omega
        · rw [m3] at heq
          have := H.inj m y q p m2 k2 heq
          subst this
          rw [k1] at m1; cases m1
    · rw [(old x o h1 h2).2] at heq
      rcases addr y p k with ⟨q, a1, a2, a3⟩ | a
      · rw [a3] at heq; exact H.inj x y o q h2 a2 heq
      · rcases a with a | ⟨m, q, m1, m2, m3⟩
        · have := H.lt h2; omega
        · rw [m3] at heq
          have := H.inj x m o q h2 m2 heq
          subst this
          rw [h1] at m1; cases m1
    · rw [(old x o h1 h2).2, (old y p k1 k2).2] at heq
      exact H.inj x y o p h2 k2 heq
/-- What an operation of a region does, wherever it stands in the order. -/
def Local (P : Program) (b0 : World) (orac : Orc) (ρ : Rho) (ops : Array Oper) (slj : Nat → Option SV) (Lj : Nat → Option SObj) (j : Nat) (o : Oper) (e : Eff) : Prop :=
  ∀ (ρ1 : Rho) (w1 : World) (tm : Array Value) (fn : FuncId) (k : List Item) (ds : List Deferred) (r : Option Nat) (cs : List Frame) (rest : List Nat), Same ρ ρ1 →
    (∀ t ∈ o.looksAt ops, (slj t).map (SV.den ρ1) = tm[t]?) →
    HeapF ρ1 b0 (fun x => if memN x e.touch then Lj x else none) w1 →
    ∃ ρ' w', Agr ρ1 ρ' e.lo e.hi ∧ Steps P (lone (fr fn tm (.inRegion ops (j :: rest) :: k) ds r) cs w1) (lone (fr fn (putA tm o.dst (e.val.den ρ')) (.inRegion ops rest :: k) ds r) cs w') ∧
      HeapF ρ' b0 (fun x => apH e x (if memN x e.touch then Lj x else none)) w' ∧ w1.heap.size ≤ w'.heap.size ∧
      (∀ kk, kk < w1.heap.size → (∀ n o', memN n e.touch = true → Lj n = some o' → ρ1.a n ≠ kk) → w'.heap[kk]? = w1.heap[kk]?) ∧
      (∀ x, (lk e.made x).isSome = true → e.lo ≤ x ∧ x < e.hi ∧ (w1.heap.size ≤ ρ'.a x ∨ ∃ m p, memN m e.touch = true ∧ Lj m = some p ∧ ρ'.a x = ρ1.a m)) ∧ (∀ x, memN x e.gone = true → memN x e.touch = true ∧ (Lj x).isSome = true) ∧ (∀ x, (lk e.writes x).isSome = true → memN x e.touch = true ∧ (Lj x).isSome = true) ∧
      e.lo ≤ e.hi ∧ NamesV e.hi e.val ∧ (∀ x o', (lk e.made x = some o' ∨ lk e.writes x = some o') → ∀ y ∈ o'.names, y < e.hi)
def Dom (N : Nat) (sl : Slots) : Prop := ∀ i, (get2 sl i).isSome = decide (i < N)
theorem Dom.arr {N : Nat} {sl : Slots} (h : Dom N sl) (ρ : Rho) : ∃ X, SlotsR ρ sl X := by
  refine ⟨(Array.range N).map fun i => ((get2 sl i).getD (.tup [])).den ρ, fun i => ?_⟩
  rw [Array.getElem?_map, Array.getElem?_range]
  have := h i
  by_cases hi : i < N
  · simp only [hi, if_true, Option.map_some]
    simp only [hi, decide_true] at this
    obtain ⟨v, hv⟩ := Option.isSome_iff_exists.1 this
    simp [hv]
  · simp only [hi, decide_false] at this
    cases hg : get2 sl i <;> simp_all
theorem Dom.put {N : Nat} {sl : Slots} (h : Dom N sl) (d : Option Tmp) (v : SV) : Dom N (putD sl d v) := by
  cases d with
  | none => exact h
  | some d =>
    intro i
    simp only [putD, get2_put2]
    rw [← h i]
    split <;> simp
theorem get2_putD (sl : Slots) (o : Oper) (v : SV) (e : Eff) (hd : e.dst = o.dst) (hv : e.val = v) (t : Nat) : get2 (putD sl o.dst v) t = apS e t (get2 sl t) := by
  unfold apS
  rw [hd, hv]
  cases o.dst with
  | none => simp [putD]
  | some d =>
    simp only [putD, get2_put2, Option.some.injEq]
theorem eval_of_slots {sl : Slots} {X tm : Array Value} {ds : List Deferred} (hX : SlotsR ρ sl X) {x : Operand} (h : ∀ t, x = .tmp t → (get2 sl t).map (SV.den ρ) = tm[t]?) : Act.eval ⟨tm, ds⟩ x = Act.eval ⟨X, ds⟩ x := by
  cases x with
  | tmp t =>
    simp only [Act.eval]
    rw [Array.getD_eq_getD_getElem?, Array.getD_eq_getD_getElem?, ← hX t, h t rfl]
  | _ => rfl
theorem wanted_run {ops : Array Oper} {pc : List BE} {sl : Slots} {o : Oper} {tm : Array Value} (hρ : ρ.Ok) (hp : Holds ρ pc) (hl : ∀ t ∈ o.looksAt ops, (get2 sl t).map (SV.den ρ) = tm[t]?) :
    (wantedS pc ops.toList sl o = .run → Region.wanted o (yielded ops tm) = true) ∧ (wantedS pc ops.toList sl o = .skip → Region.wanted o (yielded ops tm) = false) := by
  unfold wantedS Region.wanted
  cases hg : o.guard with
  | none => simp
  | some p =>
    obtain ⟨j, want⟩ := p
    simp only [nth_eq, Array.getElem?_toList]
    cases hj : ops[j]? with
    | none => simp [yielded, hj]
    | some oj =>
      simp only []
      cases hd : oj.dst with
      | none => simp [yielded, hj, hd]
      | some d =>
        simp only []
        have hm : d ∈ o.looksAt ops := by simp [Oper.looksAt, hg, hj, hd]
        have ht := hl d hm
        have hy : yielded ops tm j = match (get2 sl d).map (SV.den ρ) with | some (.bool b) => some b | _ => none := by
          rw [ht]
          simp only [yielded, hj, hd, Option.bind_some]
          cases tm[d]? with
          | none => rfl
          | some u => cases u <;> rfl
        rw [hy]
        cases hs : get2 sl d with
        | none => simp
        | some v =>
          cases v <;> simp [SV.den]
          rename_i b
          cases hb : dec pc b with
          | none => simp
          | some q =>
            have := dec_den hρ hp _ _ hb
            simp only [this]
            by_cases hq : q = want <;> simp [hq]
theorem loc_run (hT : T.Ok P) (hs : SubOk P b0 T.orac sub) (hρ : ρ.Ok) (hO : OracOk P b0 T.orac ρ) {ops : Array Oper} {pc : List BE} {h : SHeap} {nx N : Nat} {sl : Slots} {o : Oper} {ls : List Leaf} {lf : Leaf} {F : List Nat} {e : Eff} {j : Nat}
    (hp : Holds ρ pc) (hn : HNames nx h) (hsn : SNames nx sl) (hdom : Dom N sl) (ho : ops[j]? = some o) (hpl : plainOp o = true) (hw : wantedS pc ops.toList sl o = .run)
    (ha : aloneOp T sub pc (keepH F h) nx sl o = .inl (.leaves ls)) (hlf : lf ∈ ls) (hh : Holds ρ lf.pc) (he : effOf o F h nx lf = some e) :
    Local P b0 T.orac ρ ops (get2 sl) (lk h) j o e ∧ e.dst = o.dst ∧ e.val = lf.val ∧ e.lo = nx ∧ e.hi = lf.next ∧ e.touch = F ∧ (∀ x, lk (e.made ++ rmAll (upAll h e.writes) e.gone) x = apH e x (lk h x)) := by
  unfold effOf at he
  split at he
  · cases he
  · rename_i ws hws
    cases he
    obtain ⟨W1, W2⟩ := writesOf_ok h lf.heap F ws hws
    have hpc := aloneOp_pc (fun C ls h => (hs C ls h).1) hT.posts ha
    refine ⟨?_, rfl, rfl, rfl, rfl, rfl, ?_⟩
    · intro ρ1 w1 tm fn k ds r cs rest hsame hl H
      obtain ⟨X, hX⟩ := hdom.arr ρ1
      have hρ1 := hsame.ok hρ
      have hp1 := (hsame.holds (pc := pc)).2 hp
      have Hk : HeapR ρ1 b0 (keepH F h) w1 := by
        refine H.part fun n o' hn => ?_
        rw [lk_keepH] at hn
        exact hn
      have hnk : HNames nx (keepH F h) := by
        intro n o' hn'
        rw [lk_keepH] at hn'
        split at hn'
        · exact hn n o' hn'
        · cases hn'
      have hev : execOp (Act.eval ⟨tm, ds⟩) o = execOp (Act.eval ⟨X, ds⟩) o := by
        refine execOp_congr o ?_ ?_
        · intro cs b hc; simp [plainOp, hc] at hpl
        · intro x hx
          refine eval_of_slots hX ?_
          rintro t rfl
          exact hl t (by simp only [Oper.looksAt, List.mem_append]; exact .inl (List.mem_filterMap.2 ⟨.tmp t, by simpa using hx, rfl⟩))
      obtain ⟨lf', hlf', hh', ρ', w', hst, hmv, hnv⟩ := alone_ok (fn := fn) (k := k) (r := r) (cs := cs) (rest := rest) hT hs hρ1 (hO.same hsame) hp1 Hk hnk hX hsn ho hpl ((wanted_run hρ1 hp1 hl).1 hw) hev ha
      have : lf' = lf := hpc.one ρ1 lf' hlf' lf hlf hh' ((hsame.holds).2 hh)
      subst this
      refine ⟨ρ', w', hmv.agr, hst, ?_, hmv.size, ?_, ?_, ?_, ?_, hmv.le, hnv, ?_⟩
      · refine hmv.heap.part fun n o' hn' => ?_
        unfold apH at hn'
        simp only [madeOf_ok, lk_keepH] at hn'
        split at hn'
        · rename_i o2 h2
          cases hn'
          split at h2
          · split at h2
            · exact h2
            · cases h2
          · cases h2
        · split at hn'
          · rename_i o2 h2
            cases hn'
            exact (W1 n _ (lk_mem h2)).1
          · rename_i h1 h2
            split at hn'
            · cases hn'
            · rename_i hg
              split at hn'
              · rename_i ht
                exact W2 n o' ht hn' h2 (by
                  cases hx : memN n (goneOf h lf'.heap F) with
                  | false => rfl
                  | true => exact absurd hx hg)
              · cases hn'
      · intro kk hkk hne
        refine hmv.same kk hkk ?_
        intro n o' hn'
        rw [lk_keepH] at hn'
        split at hn'
        · rename_i ht; exact hne n o' ht hn'
        · cases hn'
      · intro x hx
        simp only [madeOf_ok, lk_keepH] at hx
        split at hx
        · rename_i hle
          split at hx
          · obtain ⟨o2, h2⟩ := Option.isSome_iff_exists.1 hx
            rcases hmv.dom x o2 h2 with ⟨p, hp⟩ | ⟨d1, d2, d3⟩
            · have := (hnk x p hp).1; omega
            · refine ⟨d1, d2, ?_⟩
              rcases d3 with d3 | ⟨m, p, d4, d5⟩
              · exact .inl d3
              · rw [lk_keepH] at d4
                split at d4
                · rename_i ht; exact .inr ⟨m, p, ht, d4, d5⟩
                · cases d4
          · cases hx
        · cases hx
      · intro x hx
        obtain ⟨g1, g2, _⟩ := (goneOf_ok h lf'.heap F x).1 hx
        exact ⟨g1, g2⟩
      · intro x hx
        obtain ⟨o2, h2⟩ := Option.isSome_iff_exists.1 hx
        obtain ⟨a1, a2, a3⟩ := W1 x o2 (lk_mem h2)
        exact ⟨a2, a3⟩
      · intro x o' hx y hy
        have : lk lf'.heap x = some o' := by
          rcases hx with hx | hx
          · simp only [madeOf_ok, lk_keepH] at hx
            split at hx
            · split at hx
              · exact hx
              · cases hx
            · cases hx
          · exact (W1 x _ (lk_mem hx)).1
        exact (hmv.names x o' this).2 y hy
    · intro x
      have hgw : memN x (goneOf h lf.heap F) = true → lk ws x = none := by
        intro hg
        obtain ⟨_, _, g3⟩ := (goneOf_ok h lf.heap F x).1 hg
        cases hx : lk ws x with
        | none => rfl
        | some o2 =>
          have := (W1 x o2 (lk_mem hx)).1
          rw [g3] at this; cases this
      rw [lk_append, lk_rmAll, lk_upAll ws h x (fun m a b h1 h2 => by have := (W1 m a h1).1; rw [(W1 m b h2).1] at this; exact (Option.some.inj this).symm) (fun m a h1 => (W1 m a h1).2.2)]
      unfold apH
      simp only []
      cases lk (madeOf nx (keepH (reach lf.heap (lf.val.names ++ F)) lf.heap)) x with
      | some o2 => rfl
      | none =>
        simp only []
        cases hg : memN x (goneOf h lf.heap F) with
        | true => simp [hgw hg]
        | false => cases lk ws x <;> simp
end
end Go.Proofs.Ytjgkaimgocnkmab.Sx
