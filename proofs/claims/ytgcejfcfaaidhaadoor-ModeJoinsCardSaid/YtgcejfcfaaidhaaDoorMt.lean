/- Joins and togetherness of lists of modes: the plain facts. No condition. -/
import Derived.Test.YtgcejfcfaaidhaaDoorJo
set_option linter.unusedSimpArgs false
set_option linter.unusedVariables false
namespace Go.Proofs.YtgcejfcfaaidhaaDoor

theorem cov_join_f : ∀ m i j : Fin 6, covB m.1 (joinN i.1 j.1) = (covB m.1 i.1 && covB m.1 j.1) := by decide +kernel
theorem cov_zero_f : ∀ m : Fin 6, covB m.1 0 = true := by decide +kernel
theorem cov_refl_f : ∀ m : Fin 6, covB m.1 m.1 = true := by decide +kernel
theorem cov_le_f : ∀ m i : Fin 6, covB m.1 i.1 = true → i.1 ≤ m.1 := by decide +kernel
theorem cov_top_f : ∀ i : Fin 6, covB 5 i.1 = true := by decide +kernel

theorem cov_joinL (m : Nat) (hm : m < 6) (ms : List Nat) (h : ∀ x ∈ ms, x < 6) : covB m (joinL ms) = ms.all (covB m) := by
  have : ∀ (ms : List Nat) (a : Nat), a < 6 → (∀ x ∈ ms, x < 6) → covB m (ms.foldl joinN a) = (covB m a && ms.all (covB m)) := by
    intro ms
    induction ms with
    | nil => intro a ha _; simp
    | cons x ms ih =>
      intro a ha hx
      rw [List.foldl_cons, ih _ (join_ge a ha x (hx x (by simp))).2 (fun y hy => hx y (by simp [hy])), cov_join_f ⟨m, hm⟩ ⟨a, ha⟩ ⟨x, hx x (by simp)⟩, List.all_cons, Bool.and_assoc]
  rw [joinL, this ms 0 (by omega) h, cov_zero_f ⟨m, hm⟩, Bool.true_and]
/-- The first mode that covers all is their join. -/
theorem joinL_first (m : Nat) (hm : m < 6) (ms : List Nat) (h : ∀ x ∈ ms, x < 6) (hc : ms.all (covB m) = true) (hn : ∀ k, k < m → ms.all (covB k) = false) : joinL ms = m := by
  have hj := joinL_lt ms h
  have h1 : joinL ms ≤ m := cov_le_f ⟨m, hm⟩ ⟨joinL ms, hj⟩ (by rw [← hc]; exact cov_joinL m hm ms h)
  by_cases e : joinL ms = m
  · exact e
  · have := hn (joinL ms) (by omega)
    rw [← cov_joinL _ hj ms h, cov_refl_f ⟨_, hj⟩] at this
    cases this
theorem joinL_last (ms : List Nat) (h : ∀ x ∈ ms, x < 6) (hn : ∀ k, k < 5 → ms.all (covB k) = false) : joinL ms = 5 :=
  joinL_first 5 (by omega) ms h (by rw [List.all_eq_true]; exact fun x hx => cov_top_f ⟨x, h x hx⟩) hn

/-- All go together: each with all ahead of it. -/
def togL : List Nat → Bool
  | [] => true
  | x :: l => l.all (fitB x) && togL l
theorem fit_sym_f : ∀ i j : Fin 6, fitB i.1 j.1 = fitB j.1 i.1 := by decide +kernel
theorem togL_iff (ms : List Nat) : togL ms = true ↔ ms.Pairwise (fun a b => fitB a b = true) := by
  induction ms with
  | nil => simp [togL]
  | cons x l ih => simp [togL, ih, List.pairwise_cons]
/-- What counts tell. -/
def badC (ms : List Nat) (a b : Nat) : Bool := decide (0 < ms.count a) && decide (0 < ms.count b) && (decide (a ≠ b) || decide (1 < ms.count a)) && !fitB a b

theorem pair_of_mem (ms : List Nat) (a b : Nat) (hp : ms.Pairwise (fun a b => fitB a b = true)) (h6 : ∀ x ∈ ms, x < 6) (ha : a ∈ ms) (hb : b ∈ ms) (hn : a ≠ b) : fitB a b = true := by
  induction ms with
  | nil => cases ha
  | cons x l ih =>
    rw [List.pairwise_cons] at hp
    rw [List.mem_cons] at ha hb
    rcases ha with rfl | ha <;> rcases hb with rfl | hb
    · exact absurd rfl hn
    · exact hp.1 b hb
    · rw [fit_sym_f ⟨a, h6 a (by simp [ha])⟩ ⟨b, h6 b (by simp)⟩]; exact hp.1 a ha
    · exact ih hp.2 (fun y hy => h6 y (by simp [hy])) ha hb
theorem pair_of_two (ms : List Nat) (a : Nat) (hp : ms.Pairwise (fun a b => fitB a b = true)) (hc : 1 < ms.count a) : fitB a a = true := by
  induction ms with
  | nil => simp at hc
  | cons x l ih =>
    rw [List.pairwise_cons] at hp
    rw [List.count_cons] at hc
    by_cases e : x = a
    · subst e
      have h0 : 0 < l.count x := by simp at hc; first | omega | exact List.count_pos_iff.2 hc
      exact hp.1 x (List.count_pos_iff.1 h0)
    · simp [e] at hc
      exact ih hp.2 hc
theorem two_of_bad (ms : List Nat) (h6 : ∀ x ∈ ms, x < 6) (h : togL ms = false) : ∃ a b, a < 6 ∧ b ≤ a ∧ badC ms a b = true := by
  induction ms with
  | nil => simp [togL] at h
  | cons x l ih =>
    have mono : ∀ a b, badC l a b = true → badC (x :: l) a b = true := by
      intro a b
      simp only [badC, Bool.and_eq_true, decide_eq_true_eq, Bool.or_eq_true, List.count_cons]
      rintro ⟨⟨⟨h1, h2⟩, h3⟩, h4⟩
      exact ⟨⟨⟨Nat.lt_of_lt_of_le h1 (Nat.le_add_right _ _), Nat.lt_of_lt_of_le h2 (Nat.le_add_right _ _)⟩, h3.imp id (fun h => Nat.lt_of_lt_of_le h (Nat.le_add_right _ _))⟩, h4⟩
    simp only [togL, Bool.and_eq_false_iff] at h
    rcases h with h | h
    · rw [List.all_eq_false] at h
      obtain ⟨y, hy, hf⟩ := h
      have hx := h6 x (by simp)
      have hy6 := h6 y (by simp [hy])
      have hcy : 0 < l.count y := List.count_pos_iff.2 hy
      have cx : 0 < (x :: l).count x := by simp
      have cy : 0 < (x :: l).count y := by rw [List.count_cons]; omega
      have hff : fitB x y = false := by simpa using hf
      by_cases e : x = y
      · subst e
        refine ⟨x, x, hx, Nat.le_refl _, ?_⟩
        have : 1 < (x :: l).count x := by rw [List.count_cons_self]; omega
        simp [badC, hff, hcy]
      · by_cases hle : y ≤ x
        · exact ⟨x, y, hx, hle, by simp only [badC, hff, Bool.and_eq_true, decide_eq_true_eq, Bool.or_eq_true]; exact ⟨⟨⟨cx, cy⟩, .inl e⟩, rfl⟩⟩
        · have hff' : fitB y x = false := by rw [fit_sym_f ⟨y, hy6⟩ ⟨x, hx⟩]; exact hff
          exact ⟨y, x, hy6, by omega, by simp only [badC, hff', Bool.and_eq_true, decide_eq_true_eq, Bool.or_eq_true]; exact ⟨⟨⟨cy, cx⟩, .inl (fun h => e h.symm)⟩, rfl⟩⟩
    · obtain ⟨a, b, h1, h2, h3⟩ := ih (fun y hy => h6 y (by simp [hy])) h
      exact ⟨a, b, h1, h2, mono a b h3⟩
theorem tog_none (ms : List Nat) (h6 : ∀ x ∈ ms, x < 6) (h : ∀ a b, a < 6 → b ≤ a → badC ms a b = false) : togL ms = true := by
  cases e : togL ms
  · obtain ⟨a, b, h1, h2, h3⟩ := two_of_bad ms h6 e
    rw [h a b h1 h2] at h3
    cases h3
  · rfl
theorem tog_some (ms : List Nat) (h6 : ∀ x ∈ ms, x < 6) (a b : Nat) (h : badC ms a b = true) : togL ms = false := by
  simp only [badC, Bool.and_eq_true, decide_eq_true_eq, Bool.or_eq_true, Bool.not_eq_true'] at h
  obtain ⟨⟨⟨h1, h2⟩, h3⟩, h4⟩ := h
  cases e : togL ms
  · rfl
  · rw [togL_iff] at e
    by_cases hab : a = b
    · subst hab
      have h3 : 1 < ms.count a := h3.resolve_left (fun h => h rfl)
      rw [pair_of_two ms a e h3] at h4
      cases h4
    · rw [pair_of_mem ms a b e h6 (List.count_pos_iff.1 h1) (List.count_pos_iff.1 h2) hab] at h4
      cases h4
/-- All of the first k go together, and the next one with the first j of them. -/
theorem togL_snoc (ms : List Nat) (k : Nat) (hk : k < ms.length) (h6 : ∀ x ∈ ms, x < 6) : togL (ms.take (k + 1)) = (togL (ms.take k) && (ms.take k).all (fitB (ms.getD k 0))) := by
  rw [List.take_succ_eq_append_getElem hk, show ms.getD k 0 = ms[k] by simp [List.getD, List.getElem?_eq_getElem hk]]
  have hx : ms[k] < 6 := h6 _ (List.getElem_mem hk)
  have hl : ∀ x ∈ ms.take k, x < 6 := fun x hx => h6 x (List.mem_of_mem_take hx)
  generalize ms[k] = x at *
  generalize ms.take k = l at *
  induction l with
  | nil => simp [togL]
  | cons y l ih =>
    simp only [List.cons_append, togL, List.all_append, List.all_cons, List.all_nil, Bool.and_true, ih (fun z hz => hl z (by simp [hz]))]
    rw [fit_sym_f ⟨y, hl y (by simp)⟩ ⟨x, hx⟩]
    cases l.all (fitB y) <;> cases fitB x y <;> cases togL l <;> cases l.all (fitB x) <;> rfl
end Go.Proofs.YtgcejfcfaaidhaaDoor
