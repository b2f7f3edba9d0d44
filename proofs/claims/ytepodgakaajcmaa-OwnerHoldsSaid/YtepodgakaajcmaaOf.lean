/- Layer owner: the way of a status. No condition. -/
import Derived.Test.YtepodgakaajcmaaOb
import Derived.Test.YtepodgakaajcmaaOd
set_option linter.unusedVariables false
set_option linter.unusedSimpArgs false
set_option linter.deprecated false
namespace Go.Proofs.Ytepodgakaajcmaa.own
open Go Go.Proofs.Ytepodgakaajcmaa.Sx
noncomputable section
def cel (x : IE) (j : Nat) : IE := .cel .i64 (.rom 0) x j
def flatV : List BE := [.le (.lit 1) (xv 1), .le (xv 1) (.lit 64), lsE, .eq (ln 0) (xv 1), .le (.lit 0) (xv 6), .not (.le (xv 1) (xv 6)), hopE (xv 7)]
def validL : List BE := flatV ++ [guessE]
def aE : AL := .lst (.rom 0) (.int .i64 (xv 6) (.int .i64 (xv 7) .nil))
def lW : LE := .fn 2 aE
def rowW : SObj := .rowl lW (.len lW) ks2 25 1 2
def sll0 : SV := .sll 0 1 2 (.lit 0) (.len lW) none
def nilS : SV := .const (.slice none 0 0)
def cWayA : Ctr := ⟨23, [pS, sl0 0, pX], r2, validL ++ [.not (.eq (cel (xv 6) 0) (xv 6)), .not (.le (cel (xv 6) 1) (xv 7))], .tup [sll0, .bool (.lit true)], [(0, rowW)], 2, [.le (.lit 1) (.len lW), .le (.len lW) (.lit 64)]⟩
def cWayZ1 : Ctr := ⟨23, [pS, sl0 0, pX], r2, validL ++ [.eq (cel (xv 6) 0) (xv 6)], .tup [nilS, .bool (.lit true)], [], 0, []⟩
def cWayZ2 : Ctr := ⟨23, [pS, sl0 0, pX], r2, validL ++ [.not (.eq (cel (xv 6) 0) (xv 6)), .le (cel (xv 6) 1) (xv 7)], .tup [nilS, .bool (.lit true)], [], 0, []⟩
def cWayG : Ctr := ⟨23, [pS, sl0 0, pX], r2, flatV ++ [.not guessE], .tup [nilS, .bool (.lit false)], [], 0, []⟩
def cEnds : Ctr := ⟨24, [pS, sl0 0, pX], r2, validL, .tup [.int .i64 (.fn .i64 1 aE), .int .i64 (.lit 0)], [], 0, []⟩
def pAsk : SV := .agg [sl0 0, iv 8]
def cWays : Ctr := ⟨6, [pS, pAsk, pX], r2, [.le (.lit 1) (ln 0)], .bool (.lit true), [], 0, []⟩
def cWays0 : Ctr := ⟨6, [pS, .agg [sl00, iv 8], pX], r2, [], .bool (.lit true), [], 0, []⟩
end
theorem first_prev {p : Nat → Bool} {n : Nat} (h : firstP p (n + 1) = n + 1) : firstP p n = n ∧ p n = false := by
  have := first_le p n
  rw [firstP] at h
  split at h
  · omega
  · split at h
    · omega
    · rename_i h2; exact ⟨by omega, Bool.eq_false_iff.2 h2⟩
theorem first_ge {p : Nat → Bool} {n N : Nat} (h : firstP p n = n) (hN : n ≤ N) : n ≤ firstP p N := by
  refine Nat.not_lt.1 fun hh => ?_
  have h1 := first_at (p := p) (n := N) (by omega)
  have h2 := first_lt (p := p) (n := n) (i := firstP p N) (by omega)
  rw [h2] at h1; cases h1
theorem end_def (L : LV) (o h : Int) : endP L o h = firstP (stayP L o h) 65 := by with_unfolding_all exact Eq.refl (firstP (stayP L o h) 65)
theorem end_eq {L : LV} {o h : Int} {t : Nat} (hf : firstP (stayP L o h) t = t) (hs : stayP L o h t = true) (ht : t < 65) : endP L o h = t := by
  rw [end_def]; exact first_yes ht hf hs
theorem end_gt {L : LV} {o h : Int} {t : Nat} (hf : firstP (stayP L o h) t = t) (hs : stayP L o h t = false) (ht : t < 65) : t < endP L o h := by
  rw [end_def]; exact first_ge (first_no hf hs) (by omega)
theorem stay_t {L : LV} {o h me car : Int} {t : Nat} (h1 : me = (stP L o h t).1) (h2 : car = (stP L o h t).2) : stayP L o h t = stayI L o me car := by rw [h1, h2]; rfl
theorem stay_no {L : LV} {o me car : Int} (h1 : ¬ ndI L me = me) (h2 : ¬ ndI L me = o) (h3 : ¬ hpI L me ≤ car) : stayI L o me car = false := by simp [stayI, h1, h2, h3]
theorem stay_1 {L : LV} {o me car : Int} (h1 : ndI L me = me) : stayI L o me car = true := by simp [stayI, h1]
theorem stay_2 {L : LV} {o me car : Int} (h1 : ndI L me = o) : stayI L o me car = true := by simp [stayI, h1]
theorem stay_3 {L : LV} {o me car : Int} (h1 : hpI L me ≤ car) : stayI L o me car = true := by simp [stayI, h1]
theorem st_rng {L : LV} {n l s o h : Int} (hg : guessN n l s L L.length = true) (hn : (L.length : Int) = n) (h0 : 0 ≤ o) (hl : o < n) : ∀ t, 0 ≤ (stP L o h t).1 ∧ (stP L o h t).1 < (L.length : Int)
  | 0 => ⟨h0, by show o < (L.length : Int); omega⟩
  | t + 1 => by
    obtain ⟨a, b⟩ := st_rng hg hn h0 hl (h := h) t
    obtain ⟨c, d⟩ := guess_at hg a b
    exact ⟨c, by rw [hn]; exact d⟩
theorem run_low {L : LV} {n l s o h : Int} (hg : guessN n l s L L.length = true) (hn : (L.length : Int) = n) (h0 : 0 ≤ o) (hl : o < n) : ∀ {t : Nat}, firstP (stayP L o h) t = t → t ≤ lowC L (stP L o h t).2 L.length
  | 0, _ => Nat.zero_le _
  | t + 1, hf => by
    obtain ⟨f1, f2⟩ := first_prev hf
    have h1 := run_low hg hn h0 hl f1
    obtain ⟨a, b⟩ := st_rng hg hn h0 hl (h := h) t
    have h2 : ¬ hpI L (stP L o h t).1 ≤ (stP L o h t).2 := by
      simp only [stayP, stayI, Bool.or_eq_false_iff, decide_eq_false_iff_not] at f2
      exact f2.2
    have := low_lt a b h2
    show t + 1 ≤ lowC L (hpI L (stP L o h t).1) L.length
    omega
theorem run_le {L : LV} {n l s o h : Int} (hg : guessN n l s L L.length = true) (hn : (L.length : Int) = n) (h0 : 0 ≤ o) (hl : o < n) {t : Nat} (hf : firstP (stayP L o h) t = t) : (t : Int) ≤ n := by
  have := run_low hg hn h0 hl hf
  have := low_le L (stP L o h t).2 L.length
  omega
/-- Where it ends, nobody goes on. -/
theorem end_ok {L : LV} {n l s o h : Int} (hg : guessN n l s L L.length = true) (hn : (L.length : Int) = n) (hm : n ≤ 64) (h0 : 0 ≤ o) (hl : o < n) : (endP L o h : Int) ≤ n ∧ firstP (stayP L o h) (endP L o h) = endP L o h := by
  rw [end_def]
  have h2 : firstP (stayP L o h) (firstP (stayP L o h) 65) = firstP (stayP L o h) 65 := first_none fun i hi => first_lt hi
  exact ⟨run_le hg hn h0 hl h2, h2⟩
theorem rows_len (L : LV) (o h : Int) : ∀ n, (rowsP L o h n).length = n
  | 0 => rfl
  | n + 1 => by simp [rowsP, rows_len L o h n]
theorem rows_get (L : LV) (o h : Int) : ∀ {n i : Nat}, i < n → (rowsP L o h n)[i]? = some [.int .i64 (stP L o h (i + 1)).1, .int .i64 (stP L o h (i + 1)).2]
  | n + 1, i, hi => by
    rw [rowsP]
    by_cases e : i = n
    · subst e
      rw [List.getElem?_append_right (by rw [rows_len]; exact Nat.le_refl _), rows_len, Nat.sub_self]; rfl
    · rw [List.getElem?_append_left (by rw [rows_len]; omega)]
      exact rows_get L o h (by omega)
theorem rows_cel {L : LV} {o h : Int} {n : Nat} {i : Int} (h0 : 0 ≤ i) (hi : i < (n : Int)) : clampK .i64 (intV (celV (rowsP L o h n) i 0)) = (stP L o h (i.toNat + 1)).1 ∧ clampK .i64 (intV (celV (rowsP L o h n) i 1)) = (stP L o h (i.toNat + 1)).2 := by
  have g : (rowsP L o h n).getD i.toNat [] = [.int .i64 (stP L o h (i.toNat + 1)).1, .int .i64 (stP L o h (i.toNat + 1)).2] := by rw [List.getD_eq_getElem?_getD, rows_get L o h (by omega)]; rfl
  have c0 : celV (rowsP L o h n) i 0 = .int .i64 (stP L o h (i.toNat + 1)).1 := by unfold celV; rw [g]; rfl
  have c1 : celV (rowsP L o h n) i 1 = .int .i64 (stP L o h (i.toNat + 1)).2 := by unfold celV; rw [g]; rfl
  rw [c0, c1]
  exact ⟨clamp_clamp _ _, clamp_clamp _ _⟩
theorem cel_out {L : LV} {i : Int} {j : Nat} (h : (L.length : Int) ≤ i) : clampK .i64 (intV (celV L i j)) = 0 := by
  have e : celV L i j = .bool false := by
    unfold celV
    rw [List.getD_eq_getElem?_getD (l := L), List.getElem?_eq_none (by omega)]; rfl
  rw [e]; rfl
/-- What is known of any guess. -/
theorem el_ok {L : LV} {n l s : Int} (hg : guessN n l s L L.length = true) (h1 : 1 ≤ n) {i : Int} (h0 : 0 ≤ i) : 0 ≤ clampK .i64 (intV (celV L i 0)) ∧ ¬ n ≤ clampK .i64 (intV (celV L i 0)) ∧ hopN (clampK .i64 (intV (celV L i 1))) = true := by
  by_cases h : i < (L.length : Int)
  · have := all_at hg (i := i.toNat) (by omega)
    simp only [gN, Bool.and_eq_true, decide_eq_true_eq] at this
    rw [at_z h0, at_z h0]
    exact ⟨this.2.1.1, by omega, this.2.2⟩
  · rw [cel_out (by omega), cel_out (by omega)]
    exact ⟨by omega, by omega, by decide⟩
/- what is known of a list that may be -/
theorem valid_of {ρ : Rho} {l : List BE} (hF : ρ.z.F = Φ) (hp : Holds ρ l) (hs : ∀ b ∈ validL, b ∈ l) : guessN (ρ.i .i64 1) (ρ.i .i64 2) (ρ.i .i64 3) (ρ.z.rl 0) (ρ.z.rl 0).length = true ∧ ((ρ.z.rl 0).length : Int) = ρ.i .i64 1 ∧ ρ.i .i64 1 ≤ 64 ∧ 0 ≤ ρ.i .i64 6 ∧ ρ.i .i64 6 < ρ.i .i64 1 := by
  have g : ∀ b ∈ validL, b.den ρ = true := fun b hb => hp b (hs b hb)
  have a1 := g guessE (by simp [validL])
  have a2 := g (.eq (ln 0) (xv 1)) (by simp [validL, flatV])
  have a3 := g (.le (xv 1) (.lit 64)) (by simp [validL, flatV])
  have a4 := g (.le (.lit 0) (xv 6)) (by simp [validL, flatV])
  have a5 := g (.not (.le (xv 1) (xv 6))) (by simp [validL, flatV])
  simp only [guessE, d_fn, AL.den, LE.den, IE.den, xv, hF, pb3] at a1
  simp only [d_eq, ln, xv, IE.den, LE.den, lenV] at a2
  simp only [d_le, d_not, xv, IE.den] at a3 a4 a5
  exact ⟨a1, a2, a3, a4, by omega⟩
theorem post_wayA : PostOk Φ cWayA := by
  intro ρ hF hp
  obtain ⟨g1, g2, g3, g4, g5⟩ := valid_of hF hp (by intro b hb; simp only [cWayA, List.mem_append]; exact .inl hb)
  have a1 := hp (.not (.eq (cel (xv 6) 0) (xv 6))) (by simp [cWayA])
  have a2 := hp (.not (.le (cel (xv 6) 1) (xv 7))) (by simp [cWayA])
  simp only [d_not, d_eq, d_le, cel, xv, IE.den, LE.den] at a1 a2
  obtain ⟨e1, e2⟩ := end_ok (h := ρ.i .i64 7) g1 g2 g3 g4 g5
  have e3 := end_gt (L := ρ.z.rl 0) (o := ρ.i .i64 6) (h := ρ.i .i64 7) (t := 0) rfl (by rw [stay_t (me := ρ.i .i64 6) (car := ρ.i .i64 7) rfl rfl]; exact stay_no a1 a1 a2) (by omega)
  show Holds ρ [_, _]
  simp only [h_nil, h_cons, d_le, IE.den, LE.den, AL.den, lW, aE, lenV, xv, hF, pl2, rows_len, and_true]
  omega
end Go.Proofs.Ytepodgakaajcmaa.own
