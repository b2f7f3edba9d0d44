/- A reckoner of Go's small steps over letters: a region that draws its order does as in the order of the text. No condition. -/
import Derived.Test.YtjgkaimgocnkmabSp13
set_option linter.unusedVariables false
set_option linter.unusedSimpArgs false
set_option linter.deprecated false
namespace Go.Proofs.Ytjgkaimgocnkmab.Sx
open Go
section
variable {P : Program} {orac : Orc} {b0 : World} {ρ : Rho} {ops : Array Oper} {es : List Eff} {slI : Nat → Option SV} {hI : Nat → Option SObj} {nx N : Nat}
/-- What is known of a whole region. -/
structure Reg (P : Program) (b0 : World) (orac : Orc) (ρ : Rho) (ops : Array Oper) (es : List Eff) (slI : Nat → Option SV) (hI : Nat → Option SObj) (nx N : Nat) : Prop where
  edges : edgesOk ops.toList 0 = true
  pairs : ∀ i j oi oj, i < j → ops[i]? = some oi → ops[j]? = some oj → bitOf (msk ops j) i = true ∨ Oper.apart ops oi oj = true
  len : es.length = ops.size
  facts : ∀ j e, es[j]? = some e → ∃ o, ops[j]? = some o ∧ Fact P b0 orac ρ ops nx N es slI hI 0 j e o
  order : ∀ (i j : Nat) (a b : Eff), i < j → es[i]? = some a → es[j]? = some b → a.hi ≤ b.lo
  free : ∀ i a j b, es[i]? = some a → es[j]? = some b → j ≠ i → bitOf (msk ops i) j = true ∨ bitOf (msk ops j) i = true ∨ Free a b
  slN : ∀ t v, slI t = some v → NamesV nx v
  hN : ∀ x o, hI x = some o → x < nx ∧ ∀ y ∈ o.names, y < nx
/-- Behind the operations D. -/
structure Inv (P : Program) (b0 : World) (ρ : Rho) (w0 : World) (ops : Array Oper) (es : List Eff) (slI : Nat → Option SV) (hI : Nat → Option SObj) (nx N : Nat) (D : Nat → Bool) (ρ1 : Rho) (w1 : World) (tm : Array Value) : Prop where
  same : Same ρ ρ1
  a : ∀ n, n < nx ∨ N ≤ n → ρ1.a n = ρ.a n
  inn : ∀ j, D j = true → j < ops.size
  closed : ∀ j o, D j = true → ops[j]? = some o → ∀ e ∈ o.after.toList, bindsA e = true → D e.on = true
  slots : ∀ t, (stX apS es D ops.size t (slI t)).map (SV.den ρ1) = tm[t]?
  heap : HeapF ρ1 b0 (fun x => stX apH es D ops.size x (hI x)) w1
  size : w0.heap.size ≤ w1.heap.size
  blocks : ∀ k, k < w0.heap.size → (∀ n o, hI n = some o → ρ.a n ≠ k) → w1.heap[k]? = w0.heap[k]?
  dom : ∀ x o, stX apH es D ops.size x (hI x) = some o → (∃ p, hI x = some p) ∨ (nx ≤ x ∧ x < N ∧ (w0.heap.size ≤ ρ1.a x ∨ ∃ m p, hI m = some p ∧ ρ1.a x = ρ.a m))
theorem apS_from : ∀ (e : Eff) (x : Nat) (v : Option SV) (u : SV), apS e x v = some u → v = some u ∨ (WS e x ∧ apS e x none = some u) ∨ (WS e x ∧ ∃ y, v = some y ∧ apS e x (some y) = some u) := by
  intro e x v u h
  by_cases hw : WS e x
  · cases v with
    | none => exact .inr (.inl ⟨hw, h⟩)
    | some y => exact .inr (.inr ⟨hw, y, rfl, h⟩)
  · rw [apS_id hw] at h; exact .inl h
theorem apH_from : ∀ (e : Eff) (x : Nat) (v : Option SObj) (u : SObj), apH e x v = some u → v = some u ∨ (WH e x ∧ apH e x none = some u) ∨ (WH e x ∧ ∃ y, v = some y ∧ apH e x (some y) = some u) := by
  intro e x v u h
  by_cases hw : WH e x
  · cases v with
    | none => exact .inr (.inl ⟨hw, h⟩)
    | some y => exact .inr (.inr ⟨hw, y, rfl, h⟩)
  · rw [apH_id hw] at h; exact .inl h
theorem apS_val {e : Eff} {x : Nat} {y : Option SV} {u : SV} (hw : WS e x) (h : apS e x y = some u) : u = e.val := by
  unfold apS at h
  rw [if_pos (show e.dst = some x from hw)] at h
  cases y <;> simp at h
  exact h.symm
theorem apH_val {e : Eff} {x : Nat} {y : Option SObj} {u : SObj} (hw : WH e x) (h : apH e x y = some u) : lk e.made x = some u ∨ lk e.writes x = some u := by
  unfold apH at h
  cases h1 : lk e.made x with
  | some q => simp only [h1] at h; exact .inl h
  | none =>
    simp only [h1] at h
    cases h2 : lk e.writes x with
    | some q => simp only [h2] at h; exact .inr h
    | none => rcases hw with hw | hw | hw <;> simp_all
theorem apH_W {e : Eff} {x : Nat} {y : Option SObj} {u : SObj} (hw : WH e x) (h : apH e x y = some u) : (lk e.made x).isSome = true ∨ (lk e.writes x).isSome = true := by
  rcases apH_val hw h with h | h
  · exact .inl (by simp [h])
  · exact .inr (by simp [h])
theorem msk_lt (hE : edgesOk ops.toList 0 = true) : ∀ m i', bitOf (msk ops m) i' = true → m < ops.size → i' < m := by
  intro m
  induction m using Nat.strongRecOn with
  | _ m ih =>
    intro i' hb' hm
    obtain ⟨ee, c1, c2, c3, c4⟩ := msk_bit hE (show ops[m]? = some ops[m] by simp [hm]) hb'
    rcases c4 with rfl | c4
    · exact c3
    · have := ih ee.on c3 i' c4 (by omega); omega
theorem apart_use {a b : Oper} (h : Oper.apart ops a b = true) : (∀ d, a.dst = some d → d ∉ b.looksAt ops) ∧ (∀ d, a.dst = some d → b.dst ≠ some d) ∧ (∀ d, b.dst = some d → d ∉ a.looksAt ops) := Oper.apart_spec h
/-- One operation more. -/
theorem inv_step (R : Reg P b0 orac ρ ops es slI hI nx N) {w0 w1 : World} {D : Nat → Bool} {ρ1 : Rho} {tm : Array Value} (I : Inv P b0 ρ w0 ops es slI hI nx N D ρ1 w1 tm) {j : Nat} {o : Oper} (ho : ops[j]? = some o)
    (hDj : D j = false) (hready : ∀ e ∈ o.after.toList, bindsA e = true → D e.on = true) (fn : FuncId) (k : List Item) (ds : List Deferred) (r : Option Nat) (cs : List Frame) (rest : List Nat) :
    ∃ ρ' w' tm', Steps P (lone (fr fn tm (.inRegion ops (j :: rest) :: k) ds r) cs w1) (lone (fr fn tm' (.inRegion ops rest :: k) ds r) cs w') ∧ Inv P b0 ρ w0 ops es slI hI nx N (fun i => D i || decide (i = j)) ρ' w' tm' := by
  have hj : j < ops.size := (Array.getElem?_eq_some_iff.1 ho).1
  have hje : j < es.length := by rw [R.len]; exact hj
  obtain ⟨e, he⟩ : ∃ e, es[j]? = some e := ⟨es[j], by simp [hje]⟩
  obtain ⟨o', ho', F⟩ := R.facts j e he
  rw [ho] at ho'
  cases ho'
  have hloc := F.loc
  rw [Nat.zero_add] at hloc
  have hdone := msk_done R.edges I.closed I.inn
  have pre : ∀ i, bitOf (msk ops j) i = true → D i = true := hdone j o ho hready
  -- what stands behind j is not done, where it stands behind j by the edges
  have post : ∀ i oi, ops[i]? = some oi → D i = true → bitOf (msk ops i) j = true → False := by
    intro i oi hi hd hb
    have := hdone i oi hi (I.closed i oi hd hi) j hb
    rw [hDj] at this; cases this
  have esat : ∀ (i : Nat) (a : Eff), es[i]? = some a → ∃ oi : Oper, ops[i]? = some oi ∧ a.dst = oi.dst := by
    intro i a ha
    obtain ⟨oi, h1, h2⟩ := R.facts i a ha
    exact ⟨oi, h1, h2.dst⟩
  -- the slots that it looks at
  have hsl : ∀ t ∈ o.looksAt ops, stX apS es all j t (slI t) = stX apS es D ops.size t (slI t) := by
    intro t ht
    refine stX_agree (W := WS) (fun e x v h => apS_id h v) es all D j ops.size t (slI t) ?_
    intro i a ha hw
    obtain ⟨oi, hoi, hd⟩ := esat i a ha
    have hi : i < ops.size := (Array.getElem?_eq_some_iff.1 hoi).1
    have hw' : oi.dst = some t := by rw [← hd]; exact hw
    simp only [all, Bool.and_true, hi, decide_true, Bool.true_and]
    rcases Nat.lt_trichotomy i j with h | h | h
    · rw [decide_eq_true h]
      rcases R.pairs i j oi o h hoi ho with hb | hp
      · exact (pre i hb).symm
      · exact absurd ht ((apart_use hp).1 t hw')
    · subst h; simp [hDj]
    · rw [decide_eq_false (by omega)]
      rcases R.pairs j i o oi h ho hoi with hb | hp
      · cases hd2 : D i with
        | false => rfl
        | true => exact (post i oi hoi hd2 hb).elim
      · exact absurd ht ((apart_use hp).2.2 t hw')
  -- the memory that it touches
  have hhp : ∀ x, memN x e.touch = true → stX apH es all j x (hI x) = stX apH es D ops.size x (hI x) := by
    intro x hx
    refine stX_agree (W := WH) (fun e x v h => apH_id h v) es all D j ops.size x (hI x) ?_
    intro i a ha hw
    obtain ⟨oi, hoi, hd⟩ := esat i a ha
    have hi : i < ops.size := (Array.getElem?_eq_some_iff.1 hoi).1
    simp only [all, Bool.and_true, hi, decide_true, Bool.true_and]
    obtain ⟨_, _, Fi⟩ := R.facts i a ha
    have nofree : Free a e → i < j → False := by
      intro hf _
      rcases hw with hw | hw | hw
      · obtain ⟨b1, b2⟩ := Fi.made x hw
        have := hf.touch x b1 b2
        rw [hx] at this; cases this
      · have := hf.wr x hw
        rw [hx] at this; cases this
      · have := hf.gn x hw
        rw [hx] at this; cases this
    rcases Nat.lt_trichotomy i j with h | h | h
    · rw [decide_eq_true h]
      rcases R.free i a j e ha he (by omega) with hb | hb | hf
      · -- j ahead of i, though i is ahead in the text: no such edge
        exfalso
        have := msk_lt R.edges i j hb hi
        omega
      · exact (pre i hb).symm
      · exact (nofree hf h).elim
    · subst h; simp [hDj]
    · rw [decide_eq_false (by omega)]
      cases hd2 : D i with
      | false => rfl
      | true =>
        exfalso
        rcases R.free i a j e ha he (by omega) with hb | hb | hf
        · exact post i oi hoi hd2 hb
        · -- i ahead of j, though behind in the text
          have := msk_lt R.edges j i hb hj
          omega
        · rcases hw with hw | hw | hw
          · obtain ⟨b1, b2⟩ := Fi.made x hw
            have := hf.touch x b1 b2
            rw [hx] at this; cases this
          · have := hf.wr x hw
            rw [hx] at this; cases this
          · have := hf.gn x hw
            rw [hx] at this; cases this
  -- what another one that is done did is free of what j makes
  have hfree : ∀ i a, es[i]? = some a → D i = true → i < j ∧ a.hi ≤ e.lo ∨ j < i ∧ e.hi ≤ a.lo ∧ Free e a := by
    intro i a ha hd
    obtain ⟨oi, hoi, _⟩ := esat i a ha
    have hi : i < ops.size := (Array.getElem?_eq_some_iff.1 hoi).1
    rcases Nat.lt_trichotomy i j with h | h | h
    · exact .inl ⟨h, R.order i j a e h ha he⟩
    · subst h; rw [hDj] at hd; cases hd
    · refine .inr ⟨h, R.order j i e a h he ha, ?_⟩
      rcases R.free j e i a he ha (by omega) with hb | hb | hf
      · have := msk_lt R.edges j i hb hj; omega
      · exact (post i oi hoi hd hb).elim
      · exact hf
  have freshS : ∀ t v, stX apS es D ops.size t (slI t) = some v → ∀ y ∈ v.names, y < e.lo ∨ e.hi ≤ y := by
    intro t v hv y hy
    rcases stX_from (W := WS) apS_from es D ops.size t (slI t) v hv with h | ⟨i, a, u, ha, hd, hw, hu⟩
    · exact .inl (Nat.lt_of_lt_of_le (R.slN t v h y hy) F.lo)
    · have := apS_val hw hu
      subst this
      obtain ⟨_, _, Fi⟩ := R.facts i a ha
      rcases hfree i a ha hd with ⟨h1, h2⟩ | ⟨h1, h2, h3⟩
      · exact .inl (Nat.lt_of_lt_of_le (Fi.val y hy) h2)
      · rcases Nat.lt_or_ge y e.lo with h4 | h4
        · exact .inl h4
        · rcases Nat.lt_or_ge y e.hi with h5 | h5
          · exact absurd hy (h3.val y h4 h5)
          · exact .inr h5
  have freshH : ∀ x q, stX apH es D ops.size x (hI x) = some q → (x < e.lo ∨ e.hi ≤ x) ∧ ∀ y ∈ q.names, y < e.lo ∨ e.hi ≤ y := by
    intro x q hq
    rcases stX_from (W := WH) apH_from es D ops.size x (hI x) q hq with h | ⟨i, a, u, ha, hd, hw, hu⟩
    · obtain ⟨h1, h2⟩ := R.hN x q h
      exact ⟨.inl (Nat.lt_of_lt_of_le h1 F.lo), fun y hy => .inl (Nat.lt_of_lt_of_le (h2 y hy) F.lo)⟩
    · have hm := apH_val hw hu
      have hw := apH_W hw hu
      obtain ⟨_, _, Fi⟩ := R.facts i a ha
      have hlh := Fi.lh
      rcases hfree i a ha hd with ⟨h1, h2⟩ | ⟨h1, h2, h3⟩
      · refine ⟨.inl ?_, fun y hy => .inl (Nat.lt_of_lt_of_le (Fi.objs x q hm y hy) h2)⟩
        rcases hw with hw | hw
        · exact Nat.lt_of_lt_of_le (Fi.made x hw).2 h2
        · obtain ⟨_, hs⟩ := Fi.wr x hw
          obtain ⟨p, hp⟩ := Option.isSome_iff_exists.1 hs
          have := (Fi.st x p hp).1
          omega
      · refine ⟨?_, ?_⟩
        · rcases hw with hw | hw
          · exact .inr (Nat.le_trans h2 (Fi.made x hw).1)
          · obtain ⟨ht, _⟩ := Fi.wr x hw
            rcases Nat.lt_or_ge x e.lo with h4 | h4
            · exact .inl h4
            · rcases Nat.lt_or_ge x e.hi with h5 | h5
              · have := h3.touch x h4 h5
                rw [ht] at this; cases this
              · exact .inr h5
        · intro y hy
          rcases Nat.lt_or_ge y e.lo with h4 | h4
          · exact .inl h4
          · rcases Nat.lt_or_ge y e.hi with h5 | h5
            · exact absurd hy (h3.objs y h4 h5 x q hm.symm)
            · exact .inr h5
  have hfun : (fun x => if memN x e.touch = true then stX apH es all j x (hI x) else none) = (fun x => if memN x e.touch = true then stX apH es D ops.size x (hI x) else none) := by
    funext x
    by_cases hx : memN x e.touch = true
    · rw [if_pos hx, if_pos hx, hhp x hx]
    · rw [if_neg hx, if_neg hx]
  have hpart : HeapF ρ1 b0 (fun x => if memN x e.touch = true then stX apH es all j x (hI x) else none) w1 := by
    rw [hfun]
    refine I.heap.part fun n q hq => ?_
    split at hq
    · exact hq
    · cases hq
  obtain ⟨ρ', w', g, hst, H2, hsz, hsm, hmd, hgn, hwr, hle, hnv, hob⟩ := hloc ρ1 w1 tm fn k ds r cs rest I.same (fun t ht => by show (stX apS es all j t (slI t)).map _ = _; rw [hsl t ht]; exact I.slots t) hpart
  have H2' : HeapF ρ' b0 (fun x => apH e x (if memN x e.touch = true then stX apH es D ops.size x (hI x) else none)) w' := by
    have : (fun x => apH e x (if memN x e.touch = true then stX apH es all j x (hI x) else none)) = (fun x => apH e x (if memN x e.touch = true then stX apH es D ops.size x (hI x) else none)) := by
      funext x; rw [congrFun hfun x]
    rw [← this]; exact H2
  have hwr' : ∀ x, (lk e.writes x).isSome = true → memN x e.touch = true ∧ (stX apH es D ops.size x (hI x)).isSome = true := by
    intro x hx
    obtain ⟨h1, h2⟩ := hwr x hx
    exact ⟨h1, by rw [← hhp x h1]; exact h2⟩
  have hmd' : ∀ x, (lk e.made x).isSome = true → e.lo ≤ x ∧ x < e.hi ∧ (w1.heap.size ≤ ρ'.a x ∨ ∃ m p, memN m e.touch = true ∧ stX apH es D ops.size m (hI m) = some p ∧ ρ'.a x = ρ1.a m) := by
    intro x hx
    obtain ⟨c1, c2, c3⟩ := hmd x hx
    refine ⟨c1, c2, ?_⟩
    rcases c3 with c3 | ⟨m, p, m1, m2, m3⟩
    · exact .inl c3
    · exact .inr ⟨m, p, m1, by rw [← hhp m m1]; exact m2, m3⟩
  have Hm := merge (L := fun x => stX apH es D ops.size x (hI x)) I.heap g H2' (fun x q hq => ⟨(freshH x q hq).1, .inr (freshH x q hq).2⟩) hmd' (fun x hx => (hgn x hx).1) hwr' hsz (by
    intro kk hkk hne
    refine hsm kk hkk (fun n q hn hq => ?_)
    have hq : stX apH es all j n (hI n) = some q := hq
    rw [hhp n hn] at hq
    exact hne n q hn hq)
  have addS : ∀ t, stX apS es (fun i => D i || decide (i = j)) ops.size t (slI t) = apS e t (stX apS es D ops.size t (slI t)) := by
    intro t
    refine stX_add (W := WS) (fun e x v h => apS_id h v) es D _ ops.size j t (slI t) e he hj hDj (fun i => rfl) ?_
    intro i a hij ha hd hw hw2
    obtain ⟨oi, hoi, hdst⟩ := esat i a ha
    rcases R.pairs j i o oi hij ho hoi with hb | hp
    · exact post i oi hoi hd hb
    · exact (apart_use hp).2.1 t (by rw [← F.dst]; exact hw) (by rw [← hdst]; exact hw2)
  have addH : ∀ x, stX apH es (fun i => D i || decide (i = j)) ops.size x (hI x) = apH e x (stX apH es D ops.size x (hI x)) := by
    intro x
    refine stX_add (W := WH) (fun e x v h => apH_id h v) es D _ ops.size j x (hI x) e he hj hDj (fun i => rfl) ?_
    intro i a hij ha hd hw hw2
    obtain ⟨_, _, Fi⟩ := R.facts i a ha
    rcases hfree i a ha hd with ⟨h1, _⟩ | ⟨h1, h2, h3⟩
    · omega
    · have two : (lk a.made x).isSome = true ∨ memN x a.touch = true := by
        rcases hw2 with hw2 | hw2 | hw2
        · exact .inl hw2
        · exact .inr (Fi.wr x hw2).1
        · exact .inr (Fi.gn x hw2).1
      rcases two with hw2 | ht
      · obtain ⟨c1, c2⟩ := Fi.made x hw2
        have old : (stX apH es all j x (hI x)).isSome = true → False := by
          intro hs
          obtain ⟨p, hp⟩ := Option.isSome_iff_exists.1 hs
          have := F.st x p (by simpa using hp)
          have := F.lh
          omega
        rcases hw with hw | hw | hw
        · have := F.made x hw; omega
        · exact old (F.wr x hw).2
        · exact old (F.gn x hw).2
      · rcases hw with hw | hw | hw
        · obtain ⟨c1, c2⟩ := F.made x hw
          have := h3.touch x c1 c2
          rw [ht] at this; cases this
        · have := h3.wr x hw
          rw [ht] at this; cases this
        · have := h3.gn x hw
          rw [ht] at this; cases this
  have hold : ∀ t, (stX apS es D ops.size t (slI t)).map (SV.den ρ') = tm[t]? := by
    intro t
    rw [← I.slots t]
    cases hv : stX apS es D ops.size t (slI t) with
    | none => rfl
    | some v => simp [SV.den_agr g v (freshS t v hv)]
  refine ⟨ρ', w', putA tm o.dst (e.val.den ρ'), hst, ⟨I.same.trans g.same, ?_, ?_, ?_, ?_, ?_, Nat.le_trans I.size hsz, ?_, ?_⟩⟩
  · intro n hn
    have h1 := F.lo
    have h2 := F.hi
    rw [g.a n (by omega)]; exact I.a n hn
  · intro i hi
    simp only [Bool.or_eq_true, decide_eq_true_eq] at hi
    rcases hi with hi | rfl
    · exact I.inn i hi
    · exact hj
  · intro i oi hi hoi ed hed hb
    simp only [Bool.or_eq_true, decide_eq_true_eq] at hi ⊢
    rcases hi with hi | rfl
    · exact .inl (I.closed i oi hi hoi ed hed hb)
    · rw [ho] at hoi; cases hoi; exact .inl (hready ed hed hb)
  · intro t
    rw [addS t]
    have ht := hold t
    generalize stX apS es D ops.size t (slI t) = V at ht ⊢
    unfold apS
    rw [F.dst]
    cases hd : o.dst with
    | none => simpa [putA] using ht
    | some d =>
      by_cases hdt : d = t
      · subst hdt
        simp only [if_true, putA]
        rw [Array.getElem?_setIfInBounds]
        simp only [if_true]
        split
        · rename_i hlt
          rw [Array.getElem?_eq_getElem hlt] at ht
          cases V <;> simp at ht ⊢
        · rename_i hlt
          rw [Array.getElem?_eq_none (by omega)] at ht
          cases V <;> simp at ht ⊢
      · rw [if_neg (by simpa using hdt)]
        simp only [putA]
        rw [Array.getElem?_setIfInBounds_ne hdt]
        exact ht
  · have : (fun x => stX apH es (fun i => D i || decide (i = j)) ops.size x (hI x)) = (fun x => apH e x (stX apH es D ops.size x (hI x))) := funext addH
    rw [this]; exact Hm
  · intro kk hkk hne
    rw [← I.blocks kk hkk hne]
    refine hsm kk (Nat.lt_of_lt_of_le hkk I.size) ?_
    intro n q hn hq heq
    have hq : stX apH es all j n (hI n) = some q := hq
    rw [hhp n hn] at hq
    rcases I.dom n q hq with ⟨p, hp⟩ | ⟨c1, c2, c3⟩
    · rw [I.a n (.inl (R.hN n p hp).1)] at heq
      exact hne n p hp heq
    · rcases c3 with c3 | ⟨m, p, m1, m2⟩
      · omega
      · exact hne m p m1 (by rw [← m2]; exact heq)
  · intro x q hq
    rw [addH x] at hq
    unfold apH at hq
    have key : ∀ p, stX apH es D ops.size x (hI x) = some p → (∃ p, hI x = some p) ∨ (nx ≤ x ∧ x < N ∧ (w0.heap.size ≤ ρ'.a x ∨ ∃ m p, hI m = some p ∧ ρ'.a x = ρ.a m)) := by
      intro p hp
      rcases I.dom x p hp with h | ⟨c1, c2, c3⟩
      · exact .inl h
      · exact .inr ⟨c1, c2, by rw [g.a x (freshH x p hp).1]; exact c3⟩
    cases h1 : lk e.made x with
    | some p =>
      obtain ⟨c1, c2, c3⟩ := hmd' x (by simp [h1])
      refine .inr ⟨Nat.le_trans F.lo c1, Nat.lt_of_lt_of_le c2 F.hi, ?_⟩
      rcases c3 with c3 | ⟨m, q2, m1, m2, m3⟩
      · exact .inl (Nat.le_trans I.size c3)
      · rw [m3]
        rcases I.dom m q2 m2 with ⟨q3, hq3⟩ | ⟨_, _, d3⟩
        · exact .inr ⟨m, q3, hq3, I.a m (.inl (R.hN m q3 hq3).1)⟩
        · exact d3
    | none =>
      simp only [h1] at hq
      cases h2 : lk e.writes x with
      | some p =>
        obtain ⟨p2, hp2⟩ := Option.isSome_iff_exists.1 (hwr' x (by simp [h2])).2
        exact key p2 hp2
      | none =>
        simp only [h2] at hq
        split at hq
        · cases hq
        exact key q hq
end
end Go.Proofs.Ytjgkaimgocnkmab.Sx
