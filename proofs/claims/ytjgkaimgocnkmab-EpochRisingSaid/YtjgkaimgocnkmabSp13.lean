/- A reckoner of Go's small steps over letters: which operations stand ahead of which. No condition. -/
import Derived.Test.YtjgkaimgocnkmabSp12
set_option linter.unusedVariables false
set_option linter.unusedSimpArgs false
set_option linter.deprecated false
namespace Go.Proofs.Ytjgkaimgocnkmab.Sx
open Go
theorem bitOf_eq (m i : Nat) : bitOf m i = m.testBit i := by
  unfold bitOf Nat.testBit
  show Nat.beq ((m >>> i) &&& 1) 1 = (1 &&& m >>> i != 0)
  rw [Nat.and_comm 1]
  have : (m >>> i) &&& 1 = (m >>> i) % 2 := Nat.and_one_is_mod _
  rw [this]
  rcases Nat.mod_two_eq_zero_or_one (m >>> i) with h | h <;> rw [h] <;> rfl
theorem bindsA_eq (e : Edge) : bindsA e = Region.binds .any e := by
  unfold bindsA Region.binds
  cases e.ground <;> rfl
theorem maskOf_bit (bef : List Nat) (i : Nat) : ∀ (l : List Edge), bitOf (maskOf bef l) i = true → ∃ e ∈ l, bindsA e = true ∧ (i = e.on ∨ bitOf ((nth bef e.on).getD 0) i = true) := by
  intro l
  induction l with
  | nil => intro h; rw [bitOf_eq] at h; simp [maskOf] at h
  | cons e l ih =>
    intro h
    simp only [maskOf] at h
    split at h
    · rename_i hb
      rw [bitOf_eq] at h
      rw [show Nat.lor (Nat.lor (Nat.shiftLeft 1 e.on) ((nth bef e.on).getD 0)) (maskOf bef l) = ((1 <<< e.on) ||| ((nth bef e.on).getD 0)) ||| (maskOf bef l) from rfl] at h
      rw [Nat.testBit_or, Nat.testBit_or, Bool.or_eq_true, Bool.or_eq_true] at h
      rcases h with (h | h) | h
      · refine ⟨e, by simp, hb, .inl ?_⟩
        rw [Nat.one_shiftLeft, Nat.testBit_two_pow] at h
        exact (show e.on = i by simpa using h).symm
      · exact ⟨e, by simp, hb, .inr (by rw [bitOf_eq]; exact h)⟩
      · obtain ⟨e', h1, h2⟩ := ih (by rw [bitOf_eq]; exact h)
        exact ⟨e', by simp [h1], h2⟩
    · obtain ⟨e', h1, h2⟩ := ih h
      exact ⟨e', by simp [h1], h2⟩
theorem masks_ok (l : List Oper) : ∀ (bef : List Nat), ∃ ms, masks l bef = bef ++ ms ∧ ms.length = l.length ∧ ∀ j o, l[j]? = some o → ms[j]? = some (maskOf (bef ++ ms.take j) o.after.toList) := by
  induction l with
  | nil => intro bef; exact ⟨[], by simp [masks], rfl, by simp⟩
  | cons o l ih =>
    intro bef
    simp only [masks, fnat_eq]
    obtain ⟨ms, h1, h2, h3⟩ := ih (bef ++ [maskOf bef o.after.toList])
    refine ⟨maskOf bef o.after.toList :: ms, by rw [h1]; simp, by simp [h2], ?_⟩
    intro j o' ho
    cases j with
    | zero => simp at ho; subst ho; simp
    | succ j =>
      have := h3 j o' (by simpa using ho)
      simpa using this
section
variable {ops : Array Oper}
/-- The bits of one. -/
noncomputable def msk (ops : Array Oper) (j : Nat) : Nat := (nth (masks ops.toList []) j).getD 0
theorem edgesAt_ok (i : Nat) (l : List Edge) (h : edgesAt i l = true) : ∀ e ∈ l, bindsA e = true → e.on < i := by
  induction l with
  | nil => simp
  | cons e l ih =>
    simp only [edgesAt] at h
    intro e' he hb
    split at h
    · split at h
      · rename_i h1 h2
        rcases List.mem_cons.1 he with rfl | he
        · simpa using h2
        · exact ih h e' he hb
      · cases h
    · rename_i h1
      rcases List.mem_cons.1 he with rfl | he
      · exact absurd hb h1
      · exact ih h e' he hb
theorem edgesOk_ok (l : List Oper) : ∀ (i : Nat), edgesOk l i = true → ∀ j o, l[j]? = some o → ∀ e ∈ o.after.toList, bindsA e = true → e.on < i + j := by
  induction l with
  | nil => simp
  | cons o l ih =>
    intro i h j o' ho e he hb
    simp only [edgesOk] at h
    split at h
    · rename_i h1
      cases j with
      | zero => simp at ho; subst ho; exact edgesAt_ok i _ h1 e he hb
      | succ j =>
        have := ih (i + 1) h j o' (by simpa using ho) e he hb
        omega
    · cases h
theorem allPlain_ok (l : List Oper) (h : allPlain l = true) : ∀ o ∈ l, plainOp o = true := by
  induction l with
  | nil => simp
  | cons o l ih =>
    simp only [allPlain] at h
    split at h
    · rename_i h1
      intro o' ho
      rcases List.mem_cons.1 ho with rfl | ho
      · exact h1
      · exact ih h o' ho
    · cases h
theorem msk_bit (hE : edgesOk ops.toList 0 = true) {j : Nat} {o : Oper} (ho : ops[j]? = some o) {i : Nat} (h : bitOf (msk ops j) i = true) : ∃ e ∈ o.after.toList, bindsA e = true ∧ e.on < j ∧ (i = e.on ∨ bitOf (msk ops e.on) i = true) := by
  obtain ⟨ms, h1, h2, h3⟩ := masks_ok ops.toList []
  unfold msk at h ⊢
  rw [h1, List.nil_append] at h ⊢
  have hj := h3 j o (by simpa using ho)
  rw [nth_eq, hj, List.nil_append] at h
  obtain ⟨e, a1, a2, a3⟩ := maskOf_bit _ _ _ h
  have hlt := edgesOk_ok _ 0 hE j o (by simpa using ho) e a1 a2
  refine ⟨e, a1, a2, by omega, ?_⟩
  rcases a3 with a3 | a3
  · exact .inl a3
  · refine .inr ?_
    rw [nth_eq, List.getElem?_take, if_pos (by omega)] at a3
    rw [nth_eq]; exact a3
/-- Those that stand ahead of one that may go are done. -/
theorem msk_done (hE : edgesOk ops.toList 0 = true) {D : Nat → Bool} (hD : ∀ j o, D j = true → ops[j]? = some o → ∀ e ∈ o.after.toList, bindsA e = true → D e.on = true) (hin : ∀ j, D j = true → j < ops.size) :
    ∀ (j : Nat) (o : Oper), ops[j]? = some o → (∀ e ∈ o.after.toList, bindsA e = true → D e.on = true) → ∀ i, bitOf (msk ops j) i = true → D i = true := by
  intro j
  induction j using Nat.strongRecOn with
  | _ j ih =>
    intro o ho hr i hi
    obtain ⟨e, h1, h2, h3, h4⟩ := msk_bit hE ho hi
    have hd := hr e h1 h2
    rcases h4 with rfl | h4
    · exact hd
    · have hlt := hin _ hd
      exact ih e.on h3 ops[e.on] (by simp [hlt]) (fun e' he' hb' => hD e.on _ hd (by simp [hlt]) e' he' hb') i h4
theorem pairsAt_ok (ms : List Nat) (oi : Oper) (i : Nat) (l : List Oper) : ∀ (j0 : Nat), pairsAt ops ms oi i l j0 = true → ∀ j oj, l[j]? = some oj → bitOf ((nth ms (j0 + j)).getD 0) i = true ∨ Oper.apart ops oi oj = true := by
  induction l with
  | nil => simp
  | cons o l ih =>
    intro j0 h j oj ho
    simp only [pairsAt] at h
    cases j with
    | zero =>
      simp at ho; subst ho
      split at h
      · rename_i h1; exact .inl (by simpa using h1)
      · split at h
        · rename_i h1; exact .inr h1
        · cases h
    | succ j =>
      have hr : pairsAt ops ms oi i l (j0 + 1) = true := by
        split at h
        · exact h
        · split at h
          · exact h
          · cases h
      have := ih (j0 + 1) hr j oj (by simpa using ho)
      rwa [show j0 + 1 + j = j0 + (j + 1) by omega] at this
theorem pairsOk_ok (ms : List Nat) (l : List Oper) : ∀ (i0 : Nat), pairsOk ops ms l i0 = true → ∀ i j oi oj, i < j → l[i]? = some oi → l[j]? = some oj → bitOf ((nth ms (i0 + j)).getD 0) (i0 + i) = true ∨ Oper.apart ops oi oj = true := by
  induction l with
  | nil => simp
  | cons o l ih =>
    intro i0 h i j oi oj hij hi hj
    simp only [pairsOk] at h
    split at h
    · rename_i h1
      cases j with
      | zero => omega
      | succ j =>
        cases i with
        | zero =>
          simp at hi; subst hi
          have := pairsAt_ok ms o i0 l (i0 + 1) h1 j oj (by simpa using hj)
          rwa [show i0 + 1 + j = i0 + (j + 1) by omega] at this
        | succ i =>
          have := ih (i0 + 1) h i j oi oj (by omega) (by simpa using hi) (by simpa using hj)
          rwa [show i0 + 1 + j = i0 + (j + 1) by omega, show i0 + 1 + i = i0 + (i + 1) by omega] at this
    · cases h
theorem slotsOk_ok (h : slotsOk ops = true) : edgesOk ops.toList 0 = true ∧ (∀ o ∈ ops.toList, plainOp o = true) ∧
    (∀ i j oi oj, i < j → ops[i]? = some oi → ops[j]? = some oj → bitOf (msk ops j) i = true ∨ Oper.apart ops oi oj = true) := by
  unfold slotsOk at h
  split at h
  · rename_i h1
    split at h
    · rename_i h2
      rw [fL_eq] at h
      refine ⟨h1, allPlain_ok _ h2, ?_⟩
      intro i j oi oj hij hi hj
      have := pairsOk_ok (ops := ops) _ _ 0 h i j oi oj hij (by simpa using hi) (by simpa using hj)
      simpa [msk] using this
    · cases h
  · cases h
theorem disj_ok (a b : List Nat) (h : disj a b = true) : ∀ n ∈ a, memN n b = false := by
  induction a with
  | nil => simp
  | cons x a ih =>
    simp only [disj] at h
    split at h
    · cases h
    · rename_i h1
      intro n hn
      rcases List.mem_cons.1 hn with rfl | hn
      · simpa using h1
      · exact ih h n hn
theorem freshIn_ok (lo hi : Nat) (l : List Nat) (h : freshIn lo hi l = true) : ∀ n ∈ l, ¬ (lo ≤ n ∧ n < hi) := by
  induction l with
  | nil => simp
  | cons x l ih =>
    simp only [freshIn] at h
    intro n hn
    rcases List.mem_cons.1 hn with rfl | hn
    · split at h
      · split at h
        · cases h
        · rename_i h1 h2; rintro ⟨_, h3⟩; exact h2 (by simpa using h3)
      · rename_i h1; rintro ⟨h3, _⟩; exact h1 (Nat.ble_eq_true_of_le h3)
    · refine ih ?_ n hn
      split at h
      · split at h
        · cases h
        · exact h
      · exact h
theorem memN_iff (n : Nat) (l : List Nat) : memN n l = true ↔ n ∈ l := by
  induction l with
  | nil => simp [memN]
  | cons x l ih =>
    simp only [memN, List.mem_cons]
    split
    · rename_i h; have : x = n := by simpa using h
      simp [this]
    · rename_i h
      rw [ih]
      have : ¬ n = x := by intro e; exact h (by simp [e])
      simp [this]
theorem mem_objsNames {h : SHeap} {n : Nat} {o : SObj} (hm : (n, o) ∈ h) : n ∈ objsNames h ∧ ∀ y ∈ o.names, y ∈ objsNames h := by
  induction h with
  | nil => simp at hm
  | cons p h ih =>
    obtain ⟨k, q⟩ := p
    simp only [objsNames, List.mem_cons, List.mem_append]
    rcases List.mem_cons.1 hm with e | hm
    · cases e; exact ⟨.inl rfl, fun y hy => .inr (.inl hy)⟩
    · obtain ⟨a, b⟩ := ih hm
      exact ⟨.inr (.inr a), fun y hy => .inr (.inr (b y hy))⟩
/-- One does not mind what the other does. -/
structure Free (i j : Eff) : Prop where
  wr : ∀ x, (lk i.writes x).isSome = true → memN x j.touch = false
  gn : ∀ x, memN x i.gone = true → memN x j.touch = false
  touch : ∀ n, i.lo ≤ n → n < i.hi → memN n j.touch = false
  val : ∀ n, i.lo ≤ n → n < i.hi → n ∉ j.val.names
  objs : ∀ n, i.lo ≤ n → n < i.hi → ∀ x o, (lk j.writes x = some o ∨ lk j.made x = some o) → n ∉ o.names
theorem minds_ok {i j : Eff} (h : minds i j = true) : Free i j := by
  unfold minds at h
  split at h
  · rename_i h1
    have hw : ∀ x, (lk i.writes x).isSome = true → memN x j.touch = false := by
      intro x hx
      obtain ⟨o, ho⟩ := Option.isSome_iff_exists.1 hx
      exact disj_ok _ _ h1 x (List.mem_append.2 (.inr (List.mem_map.2 ⟨(x, o), lk_mem ho, rfl⟩)))
    have hg : ∀ x, memN x i.gone = true → memN x j.touch = false := by
      intro x hx
      exact disj_ok _ _ h1 x (List.mem_append.2 (.inl ((memN_iff _ _).1 hx)))
    split at h
    · rename_i h2
      have : i.lo = i.hi := by simpa using h2
      exact ⟨hw, hg, fun n a b => by omega, fun n a b => by omega, fun n a b => by omega⟩
    · have h345 : freshIn i.lo i.hi j.touch = true ∧ freshIn i.lo i.hi j.val.names = true ∧ freshIn i.lo i.hi (objsNames j.writes) = true ∧ freshIn i.lo i.hi (objsNames j.made) = true := by
        revert h
        cases freshIn i.lo i.hi j.touch <;> cases freshIn i.lo i.hi j.val.names <;> cases freshIn i.lo i.hi (objsNames j.writes) <;> cases freshIn i.lo i.hi (objsNames j.made) <;> simp
      obtain ⟨h4, h3, h5, h6⟩ := h345
      refine ⟨hw, hg, ?_, ?_, ?_⟩
      · intro n a b
        cases hm : memN n j.touch with
        | false => rfl
        | true => exact absurd ⟨a, b⟩ (freshIn_ok _ _ _ h4 n ((memN_iff _ _).1 hm))
      · intro n a b hn
        exact freshIn_ok _ _ _ h3 n hn ⟨a, b⟩
      · intro n a b x o hx hn
        rcases hx with hx | hx
        · exact freshIn_ok _ _ _ h5 n ((mem_objsNames (lk_mem hx)).2 n hn) ⟨a, b⟩
        · exact freshIn_ok _ _ _ h6 n ((mem_objsNames (lk_mem hx)).2 n hn) ⟨a, b⟩
  · cases h
theorem against_ok (i : Eff) (ii bi : Nat) (ms : List Nat) (l : List Eff) : ∀ (k : Nat), against i ii bi ms l k = true → ∀ j e, l[j]? = some e → k + j ≠ ii → bitOf bi (k + j) = true ∨ bitOf ((nth ms (k + j)).getD 0) ii = true ∨ Free i e := by
  induction l with
  | nil => simp
  | cons a l ih =>
    intro k h j e he hne
    simp only [against] at h
    cases j with
    | zero =>
      simp at he; subst he
      simp only [Nat.add_zero] at hne ⊢
      split at h
      · rename_i h1; exact absurd (by simpa using h1) hne
      · split at h
        · rename_i h1; exact .inl h1
        · split at h
          · rename_i h1; exact .inr (.inl h1)
          · split at h
            · rename_i h1; exact .inr (.inr (minds_ok h1))
            · cases h
    | succ j =>
      have hr : against i ii bi ms l (k + 1) = true := by
        split at h
        · exact h
        · split at h
          · exact h
          · split at h
            · exact h
            · split at h
              · exact h
              · cases h
      have := ih (k + 1) hr j e (by simpa using he) (by omega)
      rwa [show k + 1 + j = k + (j + 1) by omega] at this
theorem memOk_ok (es : List Eff) (ms : List Nat) (l : List Eff) : ∀ (k : Nat), memOk es ms l k = true → ∀ i a, l[i]? = some a → ∀ j b, es[j]? = some b → j ≠ k + i → bitOf ((nth ms (k + i)).getD 0) j = true ∨ bitOf ((nth ms j).getD 0) (k + i) = true ∨ Free a b := by
  induction l with
  | nil => simp
  | cons e l ih =>
    intro k h i a ha j b hb hne
    simp only [memOk] at h
    cases i with
    | zero =>
      simp at ha; subst ha
      simp only [Nat.add_zero] at hne ⊢
      split at h
      · split at h
        · rename_i h1 h2
          have := against_ok e k _ ms es 0 h2 j b hb (by omega)
          simpa using this
        · cases h
      · rename_i h1
        refine .inr (.inr ?_)
        unfold loud at h1
        cases hg : e.gone with
        | cons p ws => simp [hg] at h1
        | nil =>
        cases hw : e.writes with
        | nil =>
          simp only [hw, hg] at h1
          split at h1
          · rename_i h2
            have : e.lo = e.hi := by simpa using h2
            exact ⟨by simp [hw, lk_nil], by simp [hg, memN], fun n a b => by omega, fun n a b => by omega, fun n a b => by omega⟩
          · exact absurd rfl h1
        | cons p ws => simp [hw, hg] at h1
    | succ i =>
      have hr : memOk es ms l (k + 1) = true := by
        split at h
        · split at h
          · exact h
          · cases h
        · exact h
      have := ih (k + 1) hr i a (by simpa using ha) j b hb (by omega)
      rwa [show k + 1 + i = k + (i + 1) by omega] at this
end
end Go.Proofs.Ytjgkaimgocnkmab.Sx
