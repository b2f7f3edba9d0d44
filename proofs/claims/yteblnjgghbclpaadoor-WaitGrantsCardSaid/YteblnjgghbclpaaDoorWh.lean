/- Layer wait: who is let go ahead. No condition. -/
import Derived.Test.YteblnjgghbclpaaDoorWd
set_option linter.unusedVariables false
set_option linter.unusedSimpArgs false
set_option linter.deprecated false
namespace Go.Proofs.YteblnjgghbclpaaDoor.wt
open Go Go.Proofs.YteblnjgghbclpaaDoor.Sx
noncomputable def cGrants1a : Ctr := ⟨6, [sl0 0, .int .i64 (.lit 0)], r5, [.eq (ln 0) (.lit 1)], .bool (.lit true), [], 0, []⟩
noncomputable def cGrants1b : Ctr := ⟨6, [sl0 0, iv 1], r5, [.eq (ln 0) (.lit 1), .le (.lit 1) (xv 1)], .bool (.lit true), [], 0, []⟩
noncomputable def cGrants1c : Ctr := ⟨6, [sl0 0, iv 1], r5, [.eq (ln 0) (.lit 1), .le (xv 1) (.lit (-1))], .bool (.lit true), [], 0, []⟩
theorem gr0 {l : LV} {f : Int} (hq : queueL l = true) (h0 : 0 ≤ f) (hl : f < (l.length : Int)) : grantE l f = 0 ∧ grantM l f = grantL l f.toNat := by
  have e : grantE l f = 0 := by rw [grantE, if_pos hq, if_pos ⟨h0, hl⟩]
  exact ⟨e, by rw [grantM, if_pos e]⟩
theorem gr4 {l : LV} {f : Int} (hq : queueL l = true) (h : ¬ (0 ≤ f ∧ f < (l.length : Int))) : grantE l f = 4 := by rw [grantE, if_pos hq, if_neg h]
theorem gr2 {l : LV} {f : Int} (hq : ¬ queueL l = true) : grantE l f = 2 := by rw [grantE, if_neg hq]
theorem grE_in (l : LV) (f : Int) : clampK .i64 (grantE l f) = grantE l f := by
  unfold grantE; split
  · split <;> rfl
  · rfl
theorem age_len (R : LV) (f : Nat) : ∀ k, (ageN R f k).length = k
  | 0 => rfl
  | k + 1 => by rw [ageN, List.length_append, age_len R f k]; rfl
theorem grant_len {R : LV} {f : Nat} (h : f < R.length) : (grantL R f).length = R.length - 1 := by
  rw [grantL, List.length_append, age_len, List.length_drop]; omega
/-- A row of a typed list, by its numbers. -/
theorem row5 {R : LV} (hT : Typed ks5 R) {i : Nat} (h : i < R.length) : R[i]? = some [.int .i64 (atI R i 0), .int .i64 (atI R i 1), .int .i64 (atI R i 2), .int .i64 (atI R i 3), .int .i64 (atI R i 4)] := by
  have hm : R[i]? = some R[i] := List.getElem?_eq_getElem h
  have hc := hT _ (List.getElem_mem h)
  have hg : ∀ j, atI R i j = clampK .i64 (intV ((R[i]).getD j (.bool false))) := by
    intro j
    have e : R.getD ((i : Nat) : Int).toNat [] = R[i] := by rw [List.getD_eq_getElem?_getD, Int.toNat_natCast, hm]; rfl
    show clampK .i64 (intV ((R.getD ((i : Nat) : Int).toNat []).getD j (.bool false))) = _
    rw [e]
  rw [hm]
  simp only [hg]
  generalize R[i] = c at *
  have one : ∀ {v : Value}, conf1 (.int .i64) v = true → v = .int .i64 (clampK .i64 (intV v)) := by
    intro v hv
    cases v with
    | int k n =>
      simp only [conf1] at hv
      split at hv
      · rename_i hk
        split at hv
        · rename_i h1
          have e : k = .i64 := ((keq_iff _ _).1 hk).symm
          subst e
          rw [ileb_iff] at h1 hv
          simp only [intV]
          rw [clamp_id ⟨h1, hv⟩]
        · cases hv
      · cases hv
    | _ => revert hv; simp [conf1]
  have two : ∀ {k : CK} {ks : List CK} {l : List Value}, conf (k :: ks) l = true → ∃ v l', l = v :: l' ∧ conf1 k v = true ∧ conf ks l' = true := by
    intro k ks l hl
    cases l with
    | nil => simp [conf] at hl
    | cons v l' =>
      simp only [conf] at hl
      split at hl
      · rename_i h1; exact ⟨v, l', rfl, h1, hl⟩
      · cases hl
  obtain ⟨v0, l0, rfl, a0, hc⟩ := two hc
  obtain ⟨v1, l1, rfl, a1, hc⟩ := two hc
  obtain ⟨v2, l2, rfl, a2, hc⟩ := two hc
  obtain ⟨v3, l3, rfl, a3, hc⟩ := two hc
  obtain ⟨v4, l4, rfl, a4, hc⟩ := two hc
  cases l4 with
  | cons v l => simp [conf] at hc
  | nil =>
    have e0 := one a0
    have e1 := one a1
    have e2 := one a2
    have e3 := one a3
    have e4 := one a4
    simp only [List.getD_cons_zero, List.getD_cons_succ]
    rw [← e0, ← e1, ← e2, ← e3, ← e4]
/-- The first k of those ahead of place f have let it go ahead; the others stand as they stood. -/
def GrSt (R : LV) (f : Nat) (k : Nat) (X : LV) : Prop := X = ageN R f k ++ (cutL R f).drop k
theorem gst0 {R X : LV} {f : Nat} (h : X = cutL R f) : GrSt R f 0 X := by rw [GrSt, h]; rfl
theorem gst_len {R X : LV} {f k : Nat} (h : GrSt R f k X) (hf : f < R.length) (hk : k ≤ f) : X.length = R.length - 1 := by
  rw [h, List.length_append, age_len, List.length_drop, cut_len hf]; omega
theorem cut_at {R : LV} {f i : Nat} (hi : i < f) (hf : f < R.length) : (cutL R f)[i]? = R[i]? := by
  rw [cutL, List.getElem?_append_left (by rw [List.length_take]; omega), List.getElem?_take_of_lt hi]
theorem gst_row {R X : LV} {f k : Nat} (h : GrSt R f k X) (hf : f < R.length) (hk : k < f) : X[k]? = R[k]? := by
  rw [h, List.getElem?_append_right (by rw [age_len]; omega), age_len, Nat.sub_self, List.getElem?_drop, Nat.add_zero, cut_at hk hf]
theorem cut_drop {R : LV} {f k : Nat} (hT : Typed ks5 R) (hk : k < f) (hf : f < R.length) : (cutL R f).drop k = [.int .i64 (atI R k 0), .int .i64 (atI R k 1), .int .i64 (atI R k 2), .int .i64 (atI R k 3), .int .i64 (atI R k 4)] :: (cutL R f).drop (k + 1) := by
  have hl := cut_len hf
  have hlt : k < (cutL R f).length := by omega
  rw [List.drop_eq_getElem_cons hlt]
  congr 1
  have := cut_at hk hf
  rw [List.getElem?_eq_getElem hlt, row5 hT (by omega)] at this
  exact Option.some.inj this
theorem gst_keep {R X : LV} {f k : Nat} (hT : Typed ks5 R) (h : GrSt R f k X) (hf : f < R.length) (hk : k < f) (hm : fitsN (atI R k 2) (atI R f 2) = true) : GrSt R f (k + 1) X := by
  rw [GrSt, ageN, h, cut_drop hT hk hf, ageR, if_pos hm, List.append_assoc]; rfl
theorem gst_set {R X : LV} {f k : Nat} {a : Int} (hT : Typed ks5 R) (h : GrSt R f k X) (hf : f < R.length) (hk : k < f) (hm : ¬ fitsN (atI R k 2) (atI R f 2) = true) (ha : a = min (atI R k 4 + 1) 64) :
    GrSt R f (k + 1) (X.set k [.int .i64 (atI R k 0), .int .i64 (atI R k 1), .int .i64 (atI R k 2), .int .i64 (atI R k 3), .int .i64 a]) := by
  rw [GrSt, ageN, h, cut_drop hT hk hf, ageR, if_neg hm, ha, List.set_append_right _ _ (by rw [age_len]; omega), age_len, Nat.sub_self, List.append_assoc]
  rfl
theorem gst_end {R X : LV} {f : Nat} (h : GrSt R f f X) (hf : f < R.length) : X = grantL R f := by
  rw [h, grantL, cutL, List.drop_append_of_le_length (by rw [List.length_take]; omega), List.drop_eq_nil_of_le (by rw [List.length_take]; omega), List.nil_append]
theorem q_at {R : LV} {i : Nat} (hq : queueL R = true) (h : i < R.length) : 1 ≤ atI R i 2 ∧ atI R i 2 ≤ 5 ∧ 0 ≤ atI R i 4 ∧ atI R i 4 ≤ 64 := by
  have := (pre_at (n := R.length) h hq).1
  rw [mayAt, may_iff] at this; omega
theorem at_of {X R : LV} {a b : Nat} (h : X[a]? = R[b]?) (j : Nat) : atI X a j = atI R b j := by
  have e : X.getD ((a : Nat) : Int).toNat [] = R.getD ((b : Nat) : Int).toNat [] := by
    rw [List.getD_eq_getElem?_getD, List.getD_eq_getElem?_getD, Int.toNat_natCast, Int.toNat_natCast, h]
  show clampK .i64 (intV ((X.getD ((a : Nat) : Int).toNat []).getD j (.bool false))) = clampK .i64 (intV ((R.getD ((b : Nat) : Int).toNat []).getD j (.bool false)))
  rw [e]
theorem at_none {X : LV} {a : Nat} (h : X[a]? = none) (j : Nat) : atI X a j = 0 := by
  have e : X.getD ((a : Nat) : Int).toNat [] = [] := by
    rw [List.getD_eq_getElem?_getD, Int.toNat_natCast, h]; rfl
  show clampK .i64 (intV ((X.getD ((a : Nat) : Int).toNat []).getD j (.bool false))) = 0
  rw [e]; rfl
theorem gst_any {R X : LV} {f k : Nat} (hq : queueL R = true) (h : GrSt R f k X) (hf : f < R.length) (hk : k ≤ f) : (0 ≤ atI X k 2 ∧ atI X k 2 ≤ 5) ∧ (0 ≤ atI X k 4 ∧ atI X k 4 ≤ 64) := by
  by_cases c : k < f
  · have e := gst_row h hf c
    have q := q_at (i := k) hq (by omega)
    rw [at_of e 2, at_of e 4]; omega
  · have e : X[k]? = R[k + 1]? := by
      rw [h, List.getElem?_append_right (by rw [age_len]; omega), age_len, Nat.sub_self, List.getElem?_drop, Nat.add_zero, cutL, List.getElem?_append_right (by rw [List.length_take]; omega), List.length_take, List.getElem?_drop]
      congr 1; omega
    by_cases d : k + 1 < R.length
    · have q := q_at (i := k + 1) hq d
      rw [at_of e 2, at_of e 4]; omega
    · have n : X[k]? = none := by rw [e, List.getElem?_eq_none (by omega)]
      rw [at_none n 2, at_none n 4]; omega
theorem post_gr {ρ : Rho} (hF : ρ.z.F = Φ) (hm : ((ρ.z.rl 0).length : Int) ≤ 1000) (h2 : (2 : Int) ≤ ((ρ.z.rl 0).length : Int)) (h : (IE.den ρ grEE) = 0) : Holds ρ (postW grLE) := by
  have h' : grantE (ρ.z.rl 0) (ρ.i .i64 1) = 0 := by
    have := h
    simp only [grEE, dropA, xv, IE.den, AL.den, LE.den, hF, pi7] at this
    rw [grE_in] at this; exact this
  have hq : queueL (ρ.z.rl 0) = true := by
    by_cases c : queueL (ρ.z.rl 0) = true
    · exact c
    · rw [gr2 c] at h'; exact absurd h' (by decide)
  have hr : 0 ≤ ρ.i .i64 1 ∧ ρ.i .i64 1 < ((ρ.z.rl 0).length : Int) := by
    by_cases c : 0 ≤ ρ.i .i64 1 ∧ ρ.i .i64 1 < ((ρ.z.rl 0).length : Int)
    · exact c
    · rw [gr4 hq c] at h'; exact absurd h' (by decide)
  have e := (gr0 hq hr.1 hr.2).2
  have hl := grant_len (R := ρ.z.rl 0) (f := (ρ.i .i64 1).toNat) (by omega)
  show Holds ρ [_, _]
  simp only [h_nil, h_cons, d_le, IE.den, LE.den, AL.den, grLE, dropA, xv, lenV, hF, pl4, and_true, e, hl]
  omega
theorem post_grOk : PostOk Φ cGrOk := fun ρ hF hp => post_gr hF (fm hp (by simp [cGrOk, preD])) (m2 hp (by simp [cGrOk, preD])) (by have := hp (.eq grEE (.lit 0)) (by simp [cGrOk]); rw [d_eq] at this; exact this)
theorem post_rgrOk : PostOk Φ cRGrOk := fun ρ hF hp => post_gr hF (fm hp (by simp [cRGrOk, preD])) (m2 hp (by simp [cRGrOk, preD])) (by have := hp (.eq grEE (.lit 0)) (by simp [cRGrOk]); rw [d_eq] at this; exact this)
end Go.Proofs.YteblnjgghbclpaaDoor.wt
