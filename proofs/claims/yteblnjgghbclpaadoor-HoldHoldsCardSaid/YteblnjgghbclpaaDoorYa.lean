/- Layer hold: holds that are added and ended are holds. No condition. -/
import Derived.Test.YteblnjgghbclpaaDoorHu0
import Derived.Test.YteblnjgghbclpaaDoorHq
set_option linter.unusedVariables false
set_option linter.unusedSimpArgs false
set_option linter.deprecated false
namespace Go.Proofs.YteblnjgghbclpaaDoor.hold
open Go Go.Proofs.YteblnjgghbclpaaDoor.Sx
theorem ris_of {l : LV} : ∀ {n : Nat}, (∀ k, k < n → mayAt l k = true ∧ (k = 0 ∨ atI l (k - 1) 0 < atI l k 0)) → risN l n = true
  | 0, _ => rfl
  | n + 1, h => by
    have h1 := ris_of (l := l) (n := n) fun k hk => h k (by omega)
    obtain ⟨a, b⟩ := h n (by omega)
    rw [risN, h1, a]
    rcases b with b | b <;> simp [b]
theorem fitsAll_of {l : LV} {j : Nat} {m : Int} : ∀ {n : Nat}, (∀ k, k < n → fitsN m (atI l k j) = true) → fitsAll l j m n = true
  | 0, _ => rfl
  | n + 1, h => by
    have h1 := fitsAll_of (l := l) (j := j) (m := m) (n := n) fun k hk => h k (by omega)
    have h2 := h n (by omega)
    rw [fitsAll, h1, h2]; rfl
theorem tog_of {l : LV} {j : Nat} : ∀ {n : Nat}, (∀ i k, i < n → k < i → fitsN (atI l i j) (atI l k j) = true) → togN l j n = true
  | 0, _ => rfl
  | n + 1, h => by
    have h1 := tog_of (l := l) (j := j) (n := n) fun i k hi hk => h i k (by omega) hk
    have h2 := fitsAll_of (l := l) (j := j) (m := atI l n j) (n := n) fun k hk => h n k (by omega) hk
    rw [togN, h1, h2]; rfl
theorem at_right {a b : LV} {i j : Nat} (h : a.length ≤ i) : atI (a ++ b) i j = atI b (i - a.length) j := by
  have e : (a ++ b).getD (i : Int).toNat [] = b.getD ((i - a.length : Nat) : Int).toNat [] := by
    rw [List.getD_eq_getElem?_getD, List.getD_eq_getElem?_getD, Int.toNat_natCast, Int.toNat_natCast, List.getElem?_append_right h]
  unfold atI celV
  rw [e]
theorem at_take {R : LV} {i k j : Nat} (h : i < k) : atI (R.take k) i j = atI R i j := by
  have e : (R.take k).getD (i : Int).toNat [] = R.getD (i : Int).toNat [] := by
    rw [List.getD_eq_getElem?_getD, List.getD_eq_getElem?_getD, Int.toNat_natCast, List.getElem?_take_of_lt h]
  unfold atI celV
  rw [e]
theorem at_drop {R : LV} {i k j : Nat} : atI (R.drop k) i j = atI R (k + i) j := by
  have e : (R.drop k).getD (i : Int).toNat [] = R.getD ((k + i : Nat) : Int).toNat [] := by
    rw [List.getD_eq_getElem?_getD, List.getD_eq_getElem?_getD, Int.toNat_natCast, Int.toNat_natCast, List.getElem?_drop]
  unfold atI celV
  rw [e]
theorem ins_len' {R x : LV} {k : Nat} (hx : x.length = 1) (hk : k ≤ R.length) : (insL R k x).length = R.length + 1 := by
  unfold insL
  rw [List.length_append, List.length_append, List.length_take, List.length_drop]; omega
theorem cut_len {R : LV} {f : Nat} (hf : f < R.length) : (cutL R f).length = R.length - 1 := by
  unfold cutL
  rw [List.length_append, List.length_take, List.length_drop]; omega
theorem ins_lt {R x : LV} {k i j : Nat} (hx : x.length = 1) (hk : k ≤ R.length) (h : i < k) : atI (insL R k x) i j = atI R i j := by
  have l1 : (R.take k).length = k := by rw [List.length_take]; omega
  unfold insL
  rw [at_app (by rw [List.length_append]; omega), at_app (by omega), at_take h]
theorem ins_eq {R x : LV} {k j : Nat} (hx : x.length = 1) (hk : k ≤ R.length) : atI (insL R k x) k j = atI x 0 j := by
  have l1 : (R.take k).length = k := by rw [List.length_take]; omega
  unfold insL
  rw [at_app (by rw [List.length_append]; omega), at_right (by omega), l1, Nat.sub_self]
theorem ins_gt {R x : LV} {k i j : Nat} (hx : x.length = 1) (hk : k ≤ R.length) (h : k < i) : atI (insL R k x) i j = atI R (i - 1) j := by
  have l1 : (R.take k ++ x).length = k + 1 := by rw [List.length_append, List.length_take]; omega
  unfold insL
  rw [at_right (by omega), l1, at_drop, show k + (i - (k + 1)) = i - 1 by omega]
theorem cut_lt {R : LV} {f i j : Nat} (hf : f < R.length) (h : i < f) : atI (cutL R f) i j = atI R i j := by
  have l1 : (R.take f).length = f := by rw [List.length_take]; omega
  unfold cutL
  rw [at_app (by omega), at_take h]
theorem cut_ge {R : LV} {f i j : Nat} (hf : f < R.length) (h : f ≤ i) : atI (cutL R f) i j = atI R (i + 1) j := by
  have l1 : (R.take f).length = f := by rw [List.length_take]; omega
  unfold cutL
  rw [at_right (by omega), l1, at_drop, show f + 1 + (i - f) = i + 1 by omega]
theorem cut_ins {R x : LV} {k : Nat} (hx : x.length = 1) (hk : k ≤ R.length) : cutL (insL R k x) k = R := by
  have l1 : (R.take k).length = k := by rw [List.length_take]; omega
  have d : List.drop (k + 1) (R.take k ++ (x ++ R.drop k)) = R.drop k := by
    rw [← List.append_assoc, List.drop_append_of_le_length (by rw [List.length_append]; omega), List.drop_eq_nil_of_le (by rw [List.length_append]; omega), List.nil_append]
  unfold cutL insL
  rw [List.append_assoc, d, List.take_append_of_le_length (by omega), List.take_of_length_le (by omega), List.take_append_drop]
theorem right_of {R : LV} (h1 : ∀ k, k < R.length → mayAt R k = true ∧ (k = 0 ∨ atI R (k - 1) 0 < atI R k 0)) (h2 : ∀ i k, i < R.length → k < i → fitsN (atI R i 2) (atI R k 2) = true) : rightL R = true := by
  rw [rightL, ris_of h1, tog_of h2]; rfl
theorem right_cut {R : LV} {f : Nat} (hr : rightL R = true) (hf : f < R.length) : rightL (cutL R f) = true := by
  obtain ⟨h1, h2⟩ := right_ris hr
  have hl := cut_len hf
  refine right_of ?_ ?_
  · intro k hk
    by_cases c : k < f
    · refine ⟨?_, ?_⟩
      · have := (ris_at h1 (k := k) (by omega)).1
        simp only [mayAt, cut_lt hf c] at this ⊢; exact this
      · rcases Nat.eq_zero_or_pos k with z | z
        · exact .inl z
        · rw [cut_lt hf c, cut_lt hf (by omega)]
          exact .inr (ris_lt h1 (by omega) (by omega))
    · refine ⟨?_, ?_⟩
      · have := (ris_at h1 (k := k + 1) (by omega)).1
        simp only [mayAt, cut_ge hf (show f ≤ k by omega)] at this ⊢; exact this
      · rcases Nat.eq_zero_or_pos k with z | z
        · exact .inl z
        · refine .inr ?_
          rw [cut_ge hf (show f ≤ k by omega)]
          by_cases d : k - 1 < f
          · rw [cut_lt hf d]; exact ris_lt h1 (by omega) (by omega)
          · rw [cut_ge hf (show f ≤ k - 1 by omega)]; exact ris_lt h1 (by omega) (by omega)
  · intro i k hi hk
    by_cases c : i < f
    · rw [cut_lt hf c, cut_lt hf (by omega)]; exact tog_at (by omega) hk h2
    · rw [cut_ge hf (show f ≤ i by omega)]
      by_cases d : k < f
      · rw [cut_lt hf d]; exact tog_at (by omega) (by omega) h2
      · rw [cut_ge hf (show f ≤ k by omega)]; exact tog_at (by omega) (by omega) h2
/-- A hold of its own. -/
structure One (x : LV) (s u m : Int) : Prop where
  len : x.length = 1
  hs : atI x 0 0 = s
  hu : atI x 0 1 = u
  hm : atI x 0 2 = m
  may : mayN s u m = true
theorem one_of {s u m : Int} (h : mayN s u m = true) : One (hL s u m) s u m := by
  have h' := h
  rw [may_iff] at h'
  refine ⟨rfl, ?_, ?_, ?_, h⟩
  · show clampK .i64 s = s
    exact clampS (by omega) (by omega)
  · show clampK .i64 u = u
    exact clamp_id ⟨by show (-9223372036854775808 : Int) ≤ u; omega, by show u ≤ (9223372036854775807 : Int); omega⟩
  · show clampK .i64 m = m
    exact clampS (by omega) (by omega)
theorem over_lt {R : LV} {s : Int} (hf : findN R s R.length = R.length) {i : Nat} (h : i < overN R s R.length) : atI R i 0 < s := by
  have b : overN R s R.length ≤ R.length := first_le _ _
  have h1 := first_lt (p := fun k => decide (s < atI R k 0)) (n := R.length) (i := i) h
  have h2 := first_all (p := fun k => decide (atI R k 0 = s)) (n := R.length) (by show R.length ≤ findN R s R.length; omega) (i := i) (by omega)
  simp only [decide_eq_false_iff_not] at h1 h2
  omega
theorem over_ge {R : LV} {s : Int} (hr : rightL R = true) {i : Nat} (h : overN R s R.length ≤ i) (hi : i < R.length) : s < atI R i 0 := by
  have h1 := first_at (p := fun k => decide (s < atI R k 0)) (n := R.length) (by show overN R s R.length < R.length; omega)
  have h1 : s < atI R (overN R s R.length) 0 := of_decide_eq_true h1
  by_cases e : overN R s R.length = i
  · rw [← e]; exact h1
  · have := ris_lt (right_ris hr).1 (i := overN R s R.length) (k := i) (by omega) hi
    omega
theorem right_ins {R x : LV} {s u m : Int} (o : One x s u m) (hr : rightL R = true) (hf : findN R s R.length = R.length) (hF : fitsAll R 2 m R.length = true) : rightL (insL R (overN R s R.length) x) = true := by
  have b : overN R s R.length ≤ R.length := first_le _ _
  have lt := fun i => over_lt (R := R) (s := s) hf (i := i)
  have ge := fun i => over_ge (R := R) (s := s) hr (i := i)
  obtain ⟨h1, h2⟩ := right_ris hr
  generalize overN R s R.length = k at *
  have hl := ins_len' o.len b
  refine right_of ?_ ?_
  · intro i hi
    rcases Nat.lt_trichotomy i k with c | c | c
    · refine ⟨?_, ?_⟩
      · have := (ris_at h1 (k := i) (by omega)).1
        simp only [mayAt, ins_lt o.len b c] at this ⊢; exact this
      · rcases Nat.eq_zero_or_pos i with z | z
        · exact .inl z
        · rw [ins_lt o.len b c, ins_lt o.len b (by omega)]
          exact .inr (ris_lt h1 (by omega) (by omega))
    · subst c
      refine ⟨?_, ?_⟩
      · simp only [mayAt, ins_eq o.len b, o.hs, o.hu, o.hm]; exact o.may
      · rcases Nat.eq_zero_or_pos i with z | z
        · exact .inl z
        · rw [ins_eq o.len b, ins_lt o.len b (by omega), o.hs]
          exact .inr (lt _ (by omega))
    · refine ⟨?_, ?_⟩
      · have := (ris_at h1 (k := i - 1) (by omega)).1
        simp only [mayAt, ins_gt o.len b c] at this ⊢; exact this
      · refine .inr ?_
        rw [ins_gt o.len b c]
        by_cases d : i - 1 = k
        · rw [d, ins_eq o.len b, o.hs]; exact ge _ (by omega) (by omega)
        · rw [ins_gt o.len b (show k < i - 1 by omega)]; exact ris_lt h1 (by omega) (by omega)
  · intro i j hi hj
    rcases Nat.lt_trichotomy i k with c | c | c
    · rw [ins_lt o.len b c, ins_lt o.len b (by omega)]; exact tog_at (by omega) hj h2
    · subst c
      rw [ins_eq o.len b, ins_lt o.len b hj, o.hm]; exact fitsAll_at (by omega) hF
    · rw [ins_gt o.len b c]
      rcases Nat.lt_trichotomy j k with d | d | d
      · rw [ins_lt o.len b d]; exact tog_at (by omega) (by omega) h2
      · subst d
        rw [ins_eq o.len b, o.hm, fits_comm]; exact fitsAll_at (by omega) hF
      · rw [ins_gt o.len b d]; exact tog_at (by omega) (by omega) h2
theorem find_ins {R x : LV} {s u m : Int} (o : One x s u m) (hf : findN R s R.length = R.length) : findN (insL R (overN R s R.length) x) s (insL R (overN R s R.length) x).length = overN R s R.length := by
  have b : overN R s R.length ≤ R.length := first_le _ _
  have lt := fun i => over_lt (R := R) (s := s) hf (i := i)
  generalize overN R s R.length = k at *
  have hl := ins_len' o.len b
  refine first_yes (by omega) (first_none fun i hi => ?_) ?_
  · rw [ins_lt o.len b hi]
    have := lt i hi
    simp only [decide_eq_false_iff_not]; omega
  · rw [ins_eq o.len b, o.hs]; simp
/-- A writer holds alone. -/
theorem writer_alone {R : LV} (hr : rightL R = true) (h : writeN R R.length < R.length) : R.length = 1 := by
  have h1 := first_at (p := fun k => decide (atI R k 2 = 5)) (n := R.length) h
  have h1 : atI R (writeN R R.length) 2 = 5 := of_decide_eq_true h1
  have a := writer_one hr (i := writeN R R.length) (k := 0) h (by omega) h1
  have c := writer_one hr (i := writeN R R.length) (k := R.length - 1) h (by omega) h1
  omega
theorem post_addG : PostOk Φ cAddG := by
  intro ρ hF hp
  have hp : Holds ρ preA := hp
  simp only [preA, h_nil, h_cons, d_le, d_fn, d_eq, IE.den, LE.den, AL.den, rightF, mayF, F2, ln, lenV, xv, hF, pb2, pb4, pb5, pi2, and_true] at hp
  obtain ⟨h1, h2, h3, h4, h5, h6, h7, h8⟩ := hp
  obtain ⟨c1, c2⟩ := over_cl (R := ρ.z.rl 0) (s := ρ.i .i64 1) (by omega)
  have b : findN (ρ.z.rl 0) (ρ.i .i64 1) (ρ.z.rl 0).length ≤ (ρ.z.rl 0).length := first_le _ _
  have cf : clampK .i64 ((findN (ρ.z.rl 0) (ρ.i .i64 1) (ρ.z.rl 0).length : Nat) : Int) = ((findN (ρ.z.rl 0) (ρ.i .i64 1) (ρ.z.rl 0).length : Nat) : Int) := clampS (by omega) (by omega)
  rw [cf] at h7
  have o := one_of h6
  have hf : findN (ρ.z.rl 0) (ρ.i .i64 1) (ρ.z.rl 0).length = (ρ.z.rl 0).length := by omega
  have g1 := right_ins o h3 hf h8
  have g2 := find_ins o hf
  have g3 := ins_len' o.len c2
  have g4 := cut_ins o.len c2
  have g5 := (ins_eq (j := 1) o.len c2).trans o.hu
  generalize hA : insL (ρ.z.rl 0) (overN (ρ.z.rl 0) (ρ.i .i64 1) (ρ.z.rl 0).length) (hL (ρ.i .i64 1) (ρ.i .i64 2) (ρ.i .i64 3)) = A at *
  have eA : LE.den ρ ADDg = A := by
    simp only [ADDg, ADDa, IE.den, LE.den, AL.den, xv, hF, pl6]
    exact hA
  show Holds ρ [_, _, _, _, _, _, _]
  generalize ADDg = E at eA ⊢
  simp only [h_nil, h_cons, d_le, d_eq, d_not, d_fn, d_leq, IE.den, LE.den, AL.den, rightF, F2a, cutG, F3i, ln, lenV, xv, hF, pb4, pi2, pi3, pl4, and_true, c1, eA]
  have cg : clampK .i64 ((findN A (ρ.i .i64 1) A.length : Nat) : Int) = ((findN A (ρ.i .i64 1) A.length : Nat) : Int) := clampS (by omega) (by omega)
  simp only [g2, c1]
  try rw [cg]
  try rw [c1]
  refine ⟨by omega, by omega, g1, by omega, ?_, g4, by omega⟩
  have g6 : clampK .i64 (intV (celV A ((overN (ρ.z.rl 0) (ρ.i .i64 1) (ρ.z.rl 0).length : Nat) : Int) 1)) = ρ.i .i64 2 := g5
  rw [g6]; exact Int.le_refl _
end Go.Proofs.YteblnjgghbclpaaDoor.hold
