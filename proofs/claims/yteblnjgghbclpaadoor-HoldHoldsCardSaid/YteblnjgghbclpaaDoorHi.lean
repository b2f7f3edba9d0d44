/- Layer hold: places, and what goes together with holds. No condition. -/
import Derived.Test.YteblnjgghbclpaaDoorHg
set_option linter.unusedVariables false
set_option linter.unusedSimpArgs false
set_option linter.deprecated false
namespace Go.Proofs.YteblnjgghbclpaaDoor.hold
open Go Go.Proofs.YteblnjgghbclpaaDoor.Sx
noncomputable section
def F2 : IE := .fn .i64 2 (.lst (.rom 0) (.int .i64 (xv 1) .nil))
def F3i : IE := .fn .i64 3 (.lst (.rom 0) (.int .i64 (xv 1) .nil))
def F4i : IE := .fn .i64 4 (.lst (.rom 0) .nil)
def million : BE := .le (ln 0) (.lit 1000000)
def cAt : Ctr := ⟨77, [.agg [sl0 0], iv 1], r3, [million], .tup [.int .i64 F2, .bool (.not (.le (ln 0) F2))], [], 0, [.le (.lit 0) F2, .le F2 (ln 0)]⟩
def cRFin : Ctr := ⟨52, [sl0 0, iv 1], r3, [million, .not (.le (ln 0) F2)], .int .i64 F2, [], 0, [.le (.lit 0) F2, .le F2 (ln 0)]⟩
def cRF0 : Ctr := ⟨52, [sl0 0, iv 1], r3, [.le (ln 0) (.lit 0)], .int .i64 (.lit (-1)), [], 0, []⟩
def cRFout : Ctr := ⟨52, [sl0 0, iv 1], r3, [million, .le (ln 0) F2], .int .i64 (.lit (-1)), [], 0, []⟩
def cWrites : Ctr := ⟨79, [sl0 0, .func (.func 85) [] []], r3, [million], .tup [.int .i64 F4i, .bool (.not (.le (ln 0) F4i))], [], 0, [.le (.lit 0) F4i, .le F4i (ln 0)]⟩
def F5 : BE := .fn 5 (.lst (.rom 0) (.int .i64 (xv 1) .nil))
def cFits : Ctr := ⟨78, [.agg [sl0 0], iv 1], r3, [rightF (.rom 0), .le (.lit 1) (xv 1), .le (xv 1) (.lit 5), .le (ln 0) (.lit 999999)], .bool F5, [], 0, []⟩
def cFits0 : Ctr := ⟨78, [.agg [sl0 0], iv 1], r3, [rightF (.rom 0), .eq (xv 1) (.lit 0), .le (ln 0) (.lit 999999)], .bool (.lit true), [], 0, []⟩
def mayM : BE := .and (.le (.lit 1) (xv 3)) (.and (.le (xv 3) (.lit 5)) (mayF (xv 1) (xv 2) (xv 3)))
def cMayM : Ctr := ⟨82, [pHold], [], [], .bool mayM, [], 0, []⟩
def cRightM : Ctr := ⟨76, [pHold], [], [], .bool mayM, [], 0, []⟩
def cRFits : Ctr := ⟨54, [sl0 0, iv 1], r3, [], .bool F5, [], 0, []⟩
end
theorem F_eq {ρ : Rho} {n : Nat} {p : Nat → Bool} {l : LV} (h : n = firstP p l.length) (hm : (l.length : Int) ≤ 1000000) : clampK .i64 (n : Int) = (n : Int) ∧ (0 : Int) ≤ (n : Int) ∧ (n : Int) ≤ (l.length : Int) := by
  have := first_le p l.length
  refine ⟨clampS (by omega) (by omega), by omega, by omega⟩
theorem pre_m {ρ : Rho} {l : List BE} (h : Holds ρ l) (hm : million ∈ l) : ((ρ.z.rl 0).length : Int) ≤ 1000000 := by
  have := h _ hm
  simp only [million, ln, d_le, IE.den, LE.den, lenV] at this
  exact this
theorem post_at : PostOk Φ cAt := by
  intro ρ hF hp
  have hm := pre_m hp (by simp [cAt])
  have h := first_le (fun i => decide (atI (ρ.z.rl 0) i 0 = ρ.i .i64 1)) (ρ.z.rl 0).length
  show Holds ρ [_, _]
  simp only [h_nil, h_cons, d_le, IE.den, LE.den, AL.den, F2, ln, lenV, xv, hF, pi2, and_true]
  rw [clampS (by omega) (by unfold findN; omega)]
  unfold findN; omega
theorem post_in : PostOk Φ cRFin := by
  intro ρ hF hp
  have hm := pre_m hp (by simp [cRFin])
  have h := first_le (fun i => decide (atI (ρ.z.rl 0) i 0 = ρ.i .i64 1)) (ρ.z.rl 0).length
  show Holds ρ [_, _]
  simp only [h_nil, h_cons, d_le, IE.den, LE.den, AL.den, F2, ln, lenV, xv, hF, pi2, and_true]
  rw [clampS (by omega) (by unfold findN; omega)]
  unfold findN; omega
theorem post_writes : PostOk Φ cWrites := by
  intro ρ hF hp
  have hm := pre_m hp (by simp [cWrites])
  have h := first_le (fun i => decide (atI (ρ.z.rl 0) i 2 = 5)) (ρ.z.rl 0).length
  show Holds ρ [_, _]
  simp only [h_nil, h_cons, d_le, IE.den, LE.den, AL.den, F4i, ln, lenV, hF, pi4, and_true]
  rw [clampS (by omega) (by unfold writeN; omega)]
  unfold writeN; omega
/- the loops' steps, by letters -/
theorem find_go {l : LV} {i s : Int} (h0 : 0 ≤ i) (hi : findN l s i.toNat = i.toNat) (hn : ¬ clampK .i64 (intV (celV l i 0)) = s) : findN l s (i + 1).toNat = (i + 1).toNat := by
  rw [at_s h0]; exact first_no hi (by rw [at_z h0] at hn; simpa using hn)
theorem find_hit {l : LV} {i s : Int} (h0 : 0 ≤ i) (hl : i < (l.length : Int)) (hi : findN l s i.toNat = i.toNat) (hn : clampK .i64 (intV (celV l i 0)) = s) : (findN l s l.length : Int) = i := by
  have := first_yes (p := fun k => decide (atI l k 0 = s)) (n := l.length) (by omega) hi (by rw [at_z h0] at hn; simpa using hn)
  unfold findN; omega
theorem find_miss {l : LV} {i s : Int} (h0 : 0 ≤ i) (hl : (l.length : Int) ≤ i) (hl2 : i ≤ (l.length : Int)) (hi : findN l s i.toNat = i.toNat) : (findN l s l.length : Int) = (l.length : Int) := by
  rw [show i.toNat = l.length by omega] at hi; omega
theorem over_go {l : LV} {i s : Int} (h0 : 0 ≤ i) (hi : overN l s i.toNat = i.toNat) (hn : ¬ s < clampK .i64 (intV (celV l i 0))) : overN l s (i + 1).toNat = (i + 1).toNat := by
  rw [at_s h0]; exact first_no hi (by rw [at_z h0] at hn; simpa using hn)
theorem over_hit {l : LV} {i s : Int} (h0 : 0 ≤ i) (hl : i < (l.length : Int)) (hi : overN l s i.toNat = i.toNat) (hn : s < clampK .i64 (intV (celV l i 0))) : (overN l s l.length : Int) = i := by
  have := first_yes (p := fun k => decide (s < atI l k 0)) (n := l.length) (by omega) hi (by rw [at_z h0] at hn; simpa using hn)
  unfold overN; omega
theorem over_miss {l : LV} {i s : Int} (h0 : 0 ≤ i) (hl : (l.length : Int) ≤ i) (hl2 : i ≤ (l.length : Int)) (hi : overN l s i.toNat = i.toNat) : (overN l s l.length : Int) = (l.length : Int) := by
  rw [show i.toNat = l.length by omega] at hi; omega
theorem write_go {l : LV} {i : Int} (h0 : 0 ≤ i) (hi : writeN l i.toNat = i.toNat) (hn : ¬ clampK .i64 (intV (celV l i 2)) = 5) : writeN l (i + 1).toNat = (i + 1).toNat := by
  rw [at_s h0]; exact first_no hi (by rw [at_z h0] at hn; simpa using hn)
theorem write_hit {l : LV} {i : Int} (h0 : 0 ≤ i) (hl : i < (l.length : Int)) (hi : writeN l i.toNat = i.toNat) (hn : clampK .i64 (intV (celV l i 2)) = 5) : (writeN l l.length : Int) = i := by
  have := first_yes (p := fun k => decide (atI l k 2 = 5)) (n := l.length) (by omega) hi (by rw [at_z h0] at hn; simpa using hn)
  unfold writeN; omega
theorem write_miss {l : LV} {i : Int} (h0 : 0 ≤ i) (hl : (l.length : Int) ≤ i) (hl2 : i ≤ (l.length : Int)) (hi : writeN l i.toNat = i.toNat) : (writeN l l.length : Int) = (l.length : Int) := by
  rw [show i.toNat = l.length by omega] at hi; omega
/- one mode more -/
theorem at_app {a b : LV} {i j : Nat} (h : i < a.length) : atI (a ++ b) i j = atI a i j := by
  have e : (a ++ b).getD (i : Int).toNat [] = a.getD (i : Int).toNat [] := by
    rw [List.getD_eq_getElem?_getD, List.getD_eq_getElem?_getD, List.getElem?_append_left (by rw [Int.toNat_natCast]; exact h)]
  unfold atI celV
  rw [e]
theorem at_last {a : LV} {m : Int} (h : 0 ≤ m ∧ m ≤ 5) : atI (a ++ [[Value.int .i64 m]]) a.length 0 = m := by
  have e : (a ++ [[Value.int .i64 m]]).getD (a.length : Int).toNat [] = [Value.int .i64 m] := by
    rw [List.getD_eq_getElem?_getD, Int.toNat_natCast, List.getElem?_append_right (Nat.le_refl _), Nat.sub_self]; rfl
  unfold atI celV
  rw [e]
  show clampK .i64 m = m
  exact clampS h.1 (by omega)
theorem fitsAll_app {a b : LV} {j : Nat} {m : Int} : ∀ {n : Nat}, n ≤ a.length → fitsAll (a ++ b) j m n = fitsAll a j m n
  | 0, _ => rfl
  | n + 1, h => by rw [fitsAll, fitsAll, fitsAll_app (by omega), at_app (by omega)]
theorem tog_app {a b : LV} {j : Nat} : ∀ {n : Nat}, n ≤ a.length → togN (a ++ b) j n = togN a j n
  | 0, _ => rfl
  | n + 1, h => by rw [togN, togN, tog_app (by omega), at_app (by omega), fitsAll_app (by omega)]
theorem modesN_app {a b : LV} : ∀ {n : Nat}, n ≤ a.length → modesN (a ++ b) n = modesN a n
  | 0, _ => rfl
  | n + 1, h => by rw [modesN, modesN, modesN_app (by omega), at_app (by omega)]
theorem more_gen1 {a : LV} {m : Int} (hm : 0 ≤ m ∧ m ≤ 5) : modesN (a ++ [[Value.int .i64 m]]) (a.length + 1) = modesN a a.length := by
  rw [modesN, modesN_app (Nat.le_refl _), at_last hm, decide_eq_true hm, Bool.and_true]
theorem more_gen2 {a : LV} {m : Int} (hm : 0 ≤ m ∧ m ≤ 5) : togN (a ++ [[Value.int .i64 m]]) 0 (a.length + 1) = (togN a 0 a.length && fitsAll a 0 m a.length) := by
  rw [togN, tog_app (Nat.le_refl _), at_last hm, fitsAll_app (Nat.le_refl _)]
/-- Whether one more goes together with holds. -/
theorem more_tog {R : LV} {m : Int} (h : rightL R = true) (hm : 0 ≤ m ∧ m ≤ 5) : modesN (modesL R R.length ++ [[Value.int .i64 m]]) (modesL R R.length ++ [[Value.int .i64 m]]).length = true ∧ togN (modesL R R.length ++ [[Value.int .i64 m]]) 0 (modesL R R.length ++ [[Value.int .i64 m]]).length = fitsAll R 2 m R.length := by
  have hl := modes_len R R.length
  have hr := h
  rw [rightL, Bool.and_eq_true] at hr
  have g1 := more_gen1 (a := modesL R R.length) hm
  have g2 := more_gen2 (a := modesL R R.length) hm
  have e : (modesL R R.length ++ [[Value.int .i64 m]]).length = (modesL R R.length).length + 1 := by simp
  rw [e, g1, g2, hl, modes_ok hr.1 (Nat.le_refl _), tog_modes R (Nat.le_refl _), hr.2, Bool.true_and, fitsAll_modes R m (Nat.le_refl _)]
  exact ⟨rfl, rfl⟩
theorem fits_zero {R : LV} : ∀ n, fitsAll R 2 0 n = true
  | 0 => rfl
  | n + 1 => by rw [fitsAll, fits_zero n]; simp [fitsN]
theorem rits_s {l : LV} {i m : Int} (h : 0 ≤ i) : fitsAll l 2 m (i + 1).toNat = (fitsAll l 2 m i.toNat && fitsN m (clampK .i64 (intV (celV l i 2)))) := by
  rw [at_s h, fitsAll, at_z h]
theorem fits_comm (a b : Int) : fitsN a b = fitsN b a := by
  apply beq_of
  simp only [fits_iff]
  omega
end Go.Proofs.YteblnjgghbclpaaDoor.hold
