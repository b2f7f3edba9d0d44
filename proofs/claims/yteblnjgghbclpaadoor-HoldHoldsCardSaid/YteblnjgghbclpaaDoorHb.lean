/- Layer hold: of lists. No condition. -/
import Derived.Test.YteblnjgghbclpaaDoorHa
set_option linter.unusedVariables false
set_option linter.unusedSimpArgs false
set_option linter.deprecated false
namespace Go.Proofs.YteblnjgghbclpaaDoor.hold
open Go Go.Proofs.YteblnjgghbclpaaDoor.Sx
theorem at_z {l : LV} {i : Int} (h : 0 ≤ i) (j : Nat) : clampK .i64 (intV (celV l i j)) = atI l i.toNat j := by
  unfold atI; rw [Int.toNat_of_nonneg h]
theorem at_s {i : Int} (h : 0 ≤ i) : (i + 1).toNat = i.toNat + 1 := by omega
theorem fitsAll_le {l : LV} {j : Nat} {m : Int} : ∀ {n k : Nat}, k ≤ n → fitsAll l j m n = true → fitsAll l j m k = true
  | 0, k, h, e => by rw [show k = 0 by omega]; rfl
  | n + 1, k, h, e => by
    by_cases hk : k = n + 1
    · rw [hk]; exact e
    · simp only [fitsAll, Bool.and_eq_true] at e
      exact fitsAll_le (by omega) e.1
theorem fitsAll_at {l : LV} {j : Nat} {m : Int} {n k : Nat} (h : k < n) (e : fitsAll l j m n = true) : fitsN m (atI l k j) = true := by
  have := fitsAll_le (show k + 1 ≤ n by omega) e
  simp only [fitsAll, Bool.and_eq_true] at this
  exact this.2
theorem tog_le {l : LV} {j : Nat} : ∀ {n k : Nat}, k ≤ n → togN l j n = true → togN l j k = true
  | 0, k, h, e => by rw [show k = 0 by omega]; rfl
  | n + 1, k, h, e => by
    by_cases hk : k = n + 1
    · rw [hk]; exact e
    · simp only [togN, Bool.and_eq_true] at e
      exact tog_le (by omega) e.1
theorem tog_at {l : LV} {j : Nat} {n i k : Nat} (h : i < n) (hk : k < i) (e : togN l j n = true) : fitsN (atI l i j) (atI l k j) = true := by
  have := tog_le (show i + 1 ≤ n by omega) e
  simp only [togN, Bool.and_eq_true] at this
  exact fitsAll_at hk this.2
theorem modes_len (l : LV) : ∀ n, (modesL l n).length = n
  | 0 => rfl
  | n + 1 => by simp [modesL, modes_len l n]
theorem post_modes (f : Nat) : PostOk Φ (cModesA f) := by
  intro ρ hF hp
  intro p hp
  simp only [cModesA, List.mem_singleton] at hp
  subst hp
  rw [d_eq]
  simp only [IE.den, LE.den, AL.den, lm, ln, lenV, hF, pl2, modes_len]
theorem modes_at {l : LV} : ∀ {n i : Nat}, i < n → modesN l n = true → 0 ≤ atI l i 0 ∧ atI l i 0 ≤ 5
  | n + 1, i, h, e => by
    simp only [modesN, Bool.and_eq_true, decide_eq_true_eq] at e
    by_cases hk : i = n
    · rw [hk]; exact e.2
    · exact modes_at (by omega) e.1
theorem modes_le {l : LV} : ∀ {n k : Nat}, k ≤ n → modesN l n = true → modesN l k = true
  | 0, k, h, e => by rw [show k = 0 by omega]; rfl
  | n + 1, k, h, e => by
    by_cases hk : k = n + 1
    · rw [hk]; exact e
    · simp only [modesN, Bool.and_eq_true] at e
      exact modes_le (by omega) e.1
theorem cnt_le (l : LV) (m : Int) : ∀ n, cntN l m n ≤ n
  | 0 => Nat.le_refl _
  | n + 1 => by
    have := cnt_le l m n
    unfold cntN; split <;> omega
theorem cnt_s {l : LV} {i : Int} (h : 0 ≤ i) (m : Int) : (cntN l m (i + 1).toNat : Int) = (cntN l m i.toNat : Int) + (if clampK .i64 (intV (celV l i 0)) = m then 1 else 0) := by
  rw [at_s h, at_z h, cntN]; split <;> simp
theorem wrap1 {x : Int} (h : 0 ≤ x) (h2 : x ≤ 1000000) : IntKind.wrap .i64 (x + 1) = x + 1 := wrap_in .i64 _ (by show (-9223372036854775808 : Int) ≤ _; omega) (by show _ ≤ (9223372036854775807 : Int); omega)
theorem clampS {x : Int} (h : 0 ≤ x) (h2 : x ≤ 1000000) : clampK .i64 x = x := by
  unfold clampK
  rw [if_pos]
  exact ⟨by show (-9223372036854775808 : Int) ≤ _; omega, by show _ ≤ (9223372036854775807 : Int); omega⟩
/-- All go together, by how many there are of each. -/
def togC (c : Int → Nat) : Prop := (c 2 = 0 ∨ c 3 = 0) ∧ (c 2 = 0 ∨ c 4 = 0) ∧ (c 3 = 0 ∨ c 4 = 0) ∧ c 4 ≤ 1 ∧ c 5 ≤ 1 ∧ (c 5 = 0 ∨ (c 1 = 0 ∧ c 2 = 0 ∧ c 3 = 0 ∧ c 4 = 0))
theorem fitsAll_cnt {l : LV} {m : Int} (hm : 0 ≤ m ∧ m ≤ 5) : ∀ n, modesN l n = true → ((fitsAll l 0 m n = true) ↔ ∀ a : Int, 0 ≤ a → a ≤ 5 → (cntN l a n = 0 ∨ fitsN m a = true))
  | 0, _ => by simp [fitsAll, cntN]
  | n + 1, h => by
    simp only [modesN, Bool.and_eq_true, decide_eq_true_eq] at h
    rw [fitsAll, Bool.and_eq_true, fitsAll_cnt hm n h.1]
    constructor
    · rintro ⟨h1, h2⟩ a a0 a5
      by_cases e : atI l n 0 = a
      · exact .inr (e ▸ h2)
      · rw [cntN, if_neg e]; exact h1 a a0 a5
    · intro h1
      refine ⟨fun a a0 a5 => ?_, ?_⟩
      · rcases h1 a a0 a5 with h2 | h2
        · exact .inl (by rw [cntN] at h2; omega)
        · exact .inr h2
      · rcases h1 _ h.2.1 h.2.2 with h2 | h2
        · rw [cntN, if_pos rfl] at h2; omega
        · exact h2
theorem tog_cnt {l : LV} : ∀ n, modesN l n = true → ((togN l 0 n = true) ↔ togC (fun a => cntN l a n))
  | 0, _ => by simp [togN, togC, cntN]
  | n + 1, h => by
    simp only [modesN, Bool.and_eq_true, decide_eq_true_eq] at h
    rw [togN, Bool.and_eq_true, tog_cnt n h.1, fitsAll_cnt h.2 n h.1]
    have hm := h.2
    generalize hv : atI l n 0 = m at hm ⊢
    have e : ∀ a : Int, cntN l a (n + 1) = cntN l a n + (if m = a then 1 else 0) := fun a => by rw [cntN, hv]
    have q : (∀ a : Int, 0 ≤ a → a ≤ 5 → (cntN l a n = 0 ∨ fitsN m a = true)) ↔ ((cntN l 1 n = 0 ∨ fitsN m 1 = true) ∧ (cntN l 2 n = 0 ∨ fitsN m 2 = true) ∧ (cntN l 3 n = 0 ∨ fitsN m 3 = true) ∧ (cntN l 4 n = 0 ∨ fitsN m 4 = true) ∧ (cntN l 5 n = 0 ∨ fitsN m 5 = true)) := by
      constructor
      · intro g; exact ⟨g 1 (by omega) (by omega), g 2 (by omega) (by omega), g 3 (by omega) (by omega), g 4 (by omega) (by omega), g 5 (by omega) (by omega)⟩
      · rintro ⟨g1, g2, g3, g4, g5⟩ a a0 a5
        rcases (show a = 0 ∨ a = 1 ∨ a = 2 ∨ a = 3 ∨ a = 4 ∨ a = 5 by omega) with rfl | rfl | rfl | rfl | rfl | rfl
        · right; simp [fitsN]
        · exact g1
        · exact g2
        · exact g3
        · exact g4
        · exact g5
    rw [q]
    simp only [togC, e, fits_iff]
    rcases (show m = 0 ∨ m = 1 ∨ m = 2 ∨ m = 3 ∨ m = 4 ∨ m = 5 by omega) with rfl | rfl | rfl | rfl | rfl | rfl <;> simp <;> omega
theorem clamp_clamp (k : IntKind) (x : Int) : clampK k (clampK k x) = clampK k x := by
  by_cases h : kmin k ≤ x ∧ x ≤ kmax k
  · have e : clampK k x = x := by unfold clampK; rw [if_pos h]
    rw [e, e]
  · have e : clampK k x = 0 := by unfold clampK; rw [if_neg h]
    rw [e]; unfold clampK; split <;> rfl
theorem modes_get (l : LV) : ∀ {n i : Nat}, i < n → (modesL l n)[i]? = some [.int .i64 (atI l i 2)]
  | n + 1, i, h => by
    rw [modesL]
    by_cases e : i = n
    · subst e
      rw [List.getElem?_append_right (by rw [modes_len]; exact Nat.le_refl _), modes_len, Nat.sub_self]; rfl
    · rw [List.getElem?_append_left (by rw [modes_len]; omega)]
      exact modes_get l (by omega)
theorem modes_at0 (l : LV) {n i : Nat} (h : i < n) : atI (modesL l n) i 0 = atI l i 2 := by
  have g : (modesL l n).getD i [] = [.int .i64 (atI l i 2)] := by rw [List.getD_eq_getElem?_getD, modes_get l h]; rfl
  have c : celV (modesL l n) (i : Int) 0 = .int .i64 (atI l i 2) := by
    unfold celV
    rw [Int.toNat_natCast, g]; rfl
  unfold atI at c ⊢
  rw [c]
  exact clamp_clamp _ _
theorem fitsAll_modes (l : LV) {n : Nat} (m : Int) : ∀ {k : Nat}, k ≤ n → fitsAll (modesL l n) 0 m k = fitsAll l 2 m k
  | 0, _ => rfl
  | k + 1, h => by rw [fitsAll, fitsAll, fitsAll_modes l m (by omega), modes_at0 l (by omega)]
theorem tog_modes (l : LV) {n : Nat} : ∀ {k : Nat}, k ≤ n → togN (modesL l n) 0 k = togN l 2 k
  | 0, _ => rfl
  | k + 1, h => by rw [togN, togN, tog_modes l (by omega), modes_at0 l (by omega), fitsAll_modes l _ (by omega)]
theorem ris_le {l : LV} : ∀ {n k : Nat}, k ≤ n → risN l n = true → risN l k = true
  | 0, k, h, e => by rw [show k = 0 by omega]; rfl
  | n + 1, k, h, e => by
    by_cases hk : k = n + 1
    · rw [hk]; exact e
    · simp only [risN, Bool.and_eq_true] at e
      exact ris_le (by omega) e.1
theorem modes_ok {l : LV} {n : Nat} (h : risN l n = true) : ∀ {k : Nat}, k ≤ n → modesN (modesL l n) k = true
  | 0, _ => rfl
  | k + 1, hk => by
    have := ris_le (show k + 1 ≤ n by omega) h
    simp only [risN, Bool.and_eq_true] at this
    have h2 := this.2.1
    rw [mayAt, may_iff] at h2
    rw [modesN, modes_ok h (by omega), modes_at0 l (by omega), Bool.true_and]
    simp only [decide_eq_true_eq]; omega
theorem ris_s {l : LV} {i : Int} (h : 0 ≤ i) : (risN l (i + 1).toNat = true) ↔ (risN l i.toNat = true ∧ mayN (clampK .i64 (intV (celV l i 0))) (clampK .i64 (intV (celV l i 1))) (clampK .i64 (intV (celV l i 2))) = true ∧ (i = 0 ∨ clampK .i64 (intV (celV l (i - 1) 0)) < clampK .i64 (intV (celV l i 0)))) := by
  obtain ⟨n, rfl⟩ : ∃ n : Nat, i = (n : Int) := ⟨i.toNat, by omega⟩
  rw [at_s h, Int.toNat_natCast, risN, Bool.and_eq_true, Bool.and_eq_true, Bool.or_eq_true, decide_eq_true_eq, decide_eq_true_eq]
  have e : (n : Int) = 0 ↔ n = 0 := by omega
  rw [e]
  constructor
  · rintro ⟨h1, h2, h3⟩
    refine ⟨h1, h2, ?_⟩
    by_cases hn : n = 0
    · exact .inl hn
    · rcases h3 with h3 | h3
      · exact .inl h3
      · right
        rw [show ((n : Int) - 1) = ((n - 1 : Nat) : Int) by omega]; exact h3
  · rintro ⟨h1, h2, h3⟩
    refine ⟨h1, h2, ?_⟩
    by_cases hn : n = 0
    · exact .inl hn
    · rcases h3 with h3 | h3
      · exact .inl h3
      · right
        rw [show ((n : Int) - 1) = ((n - 1 : Nat) : Int) by omega] at h3; exact h3
theorem right_f {R : LV} {i : Int} (h : 0 ≤ i) (hl : i < (R.length : Int)) (hn : ¬ risN R (i + 1).toNat = true) : rightL R = false := by
  refine Bool.eq_false_iff.2 fun hh => hn ?_
  rw [rightL, Bool.and_eq_true] at hh
  exact ris_le (by omega) hh.1
theorem right_t {R : LV} {i : Int} (h1 : i ≤ (R.length : Int)) (h2 : (R.length : Int) ≤ i) (hr : risN R i.toNat = true) : rightL R = togN (modesL R R.length) 0 (modesL R R.length).length ∧ modesN (modesL R R.length) (modesL R R.length).length = true := by
  rw [show i.toNat = R.length by omega] at hr
  rw [modes_len, tog_modes R (Nat.le_refl _), rightL, hr, Bool.true_and]
  exact ⟨rfl, modes_ok hr (Nat.le_refl _)⟩
end Go.Proofs.YteblnjgghbclpaaDoor.hold
