/- Layer owner: words. No condition. -/
import Derived.Test.YtepodgakaajcmaaSw
set_option linter.unusedVariables false
set_option linter.unusedSimpArgs false
set_option linter.deprecated false
namespace Go.Proofs.Ytepodgakaajcmaa.own
open Go Go.Proofs.Ytepodgakaajcmaa.Sx
noncomputable section
def iv (n : Nat) : SV := .int .i64 (.var .i64 n)
def xv (n : Nat) : IE := .var .i64 n
/-- Locks and slots of a shape. -/
def lsN (l s : Int) : Bool := decide (1 ≤ l ∧ l ≤ 8 ∧ 1 ≤ s ∧ s ≤ 4)
def hopN (h : Int) : Bool := decide (0 ≤ h ∧ h ≤ 1099511627776)
/-- A guess of a shape of n nodes. -/
def gN (n : Int) (L : LV) (i : Nat) : Bool := decide (0 ≤ atI L i 0 ∧ atI L i 0 < n) && hopN (atI L i 1)
def guessN (n l s : Int) (L : LV) : Nat → Bool := allP fun i => (decide (1 ≤ n ∧ n ≤ 64) && lsN l s) && gN n L i
def ndI (L : LV) (me : Int) : Int := clampK .i64 (intV (celV L me 0))
def hpI (L : LV) (me : Int) : Int := clampK .i64 (intV (celV L me 1))
/-- Where a status is behind so many steps, and what it carries. -/
def stP (L : LV) (o h : Int) : Nat → Int × Int
  | 0 => (o, h)
  | n + 1 => (ndI L (stP L o h n).1, hpI L (stP L o h n).1)
def stayI (L : LV) (o me car : Int) : Bool := (decide (ndI L me = me) || decide (ndI L me = o)) || decide (hpI L me ≤ car)
def stayP (L : LV) (o h : Int) (n : Nat) : Bool := stayI L o (stP L o h n).1 (stP L o h n).2
def rowsP (L : LV) (o h : Int) : Nat → LV
  | 0 => []
  | n + 1 => rowsP L o h n ++ [[.int .i64 (stP L o h (n + 1)).1, .int .i64 (stP L o h (n + 1)).2]]
/-- How many steps there are. -/
@[irreducible] def endP (L : LV) (o h : Int) : Nat := Sx.firstP (stayP L o h) 65
def fi : Nat → List AV → Int
  | 1, [.lst L, .int _ o, .int _ h] => (stP L o h (endP L o h)).1
  | 2, [.lst L, .int _ o, .int _ h] => endP L o h
  | _, _ => 0
def fb : Nat → List AV → Bool
  | 1, [.int _ l, .int _ s] => lsN l s
  | 2, [.int _ h] => hopN h
  | 3, [.lst L, .int _ n, .int _ l, .int _ s] => guessN n l s L L.length
  | _, _ => false
/-- Numbers below n but m. -/
def butN (m : Int) : Nat → LV
  | 0 => []
  | n + 1 => if (n : Int) = m then butN m n else butN m n ++ [[.int .i64 n]]
def fl : Nat → List AV → LV
  | 2, [.lst L, .int _ o, .int _ h] => rowsP L o h (endP L o h)
  | _, _ => []
def Φ : Fns := ⟨fi, fb, fl, []⟩
def ks2 : List CK := [.int .i64, .int .i64]
def r2 : Roms := [(0, (2, ks2))]
def ln (r : Nat) : IE := .len (.rom r)
def sl0 (r : Nat) : SV := .rom r (.lit 0) (.len (.rom r)) none
def pS : SV := .agg [iv 1, iv 2, iv 3]
def ands : List BE → BE
  | [] => .lit true
  | [b] => b
  | b :: l => .and b (ands l)
def lsE : BE := .fn 1 (.int .i64 (xv 2) (.int .i64 (xv 3) .nil))
def shapeE : BE := .and (.le (.lit 1) (xv 1)) (.and (.le (xv 1) (.lit 64)) lsE)
def nodeE (x : IE) : BE := .and (.le (.lit 0) x) (.not (.le (xv 1) x))
def hopE (x : IE) : BE := .fn 2 (.int .i64 x .nil)
def rightE (a b : IE) : BE := .and shapeE (.and (nodeE a) (hopE b))
def guessE : BE := .fn 3 (.lst (.rom 0) (.int .i64 (xv 1) (.int .i64 (xv 2) (.int .i64 (xv 3) .nil))))
def cWorks : Ctr := ⟨18, [], [], [], .bool (.lit true), [], 0, []⟩
def cSi : Ctr := ⟨36, [pS], [], [], .bool shapeE, [], 0, []⟩
def cFrame : Ctr := ⟨101, [.agg [iv 1, iv 2, iv 3]], [], [], .bool shapeE, [], 0, []⟩
def cRight : Ctr := ⟨45, [pS, .agg [iv 4, iv 5]], [], [], .bool (rightE (xv 4) (xv 5)), [], 0, []⟩
def cRRight : Ctr := ⟨15, [pS, .agg [iv 4, iv 5]], [], [], .bool (rightE (xv 4) (xv 5)), [], 0, []⟩
def cHop : Ctr := ⟨53, [iv 1], [], [], .bool (hopE (xv 1)), [], 0, []⟩
def cRHop : Ctr := ⟨47, [iv 1], [], [], .bool (hopE (xv 1)), [], 0, []⟩
def cGuess : Ctr := ⟨85, [pS, sl0 0], r2, [], .bool (.and (.eq (ln 0) (xv 1)) guessE), [], 0, []⟩
def pSeek (a b c d : Nat) (h : Nat) : SV := .agg [.bool (.var h), iv a, iv b, iv c, iv d]
def cSeeks : Ctr := ⟨55, [pS, sl0 0, pSeek 4 5 6 7 1], r2, [], .bool (.and shapeE (.and (.and (.eq (ln 0) (xv 1)) guessE) (.and (nodeE (xv 6)) (hopE (xv 7))))), [], 0, []⟩
def pFirst : List SV := [pS, .agg [iv 4, .bool (.var 1)], .agg [iv 5, iv 6]]
def cFirst0 : Ctr := ⟨5, pFirst, [], [.le (xv 1) (.lit 1)], .bool (.lit true), [], 0, []⟩
def cFirst1 : Ctr := ⟨5, pFirst, [], [.le (.lit 2) (xv 1), .var 1], .bool (.lit true), [], 0, []⟩
def cFirst2 : Ctr := ⟨5, pFirst, [], [.le (.lit 2) (xv 1), .not (.var 1), .eq (xv 5) (xv 4)], .bool (.lit true), [], 0, []⟩
def cFirst3 : Ctr := ⟨5, pFirst, [], [.le (.lit 2) (xv 1), .not (.var 1), .not (.eq (xv 5) (xv 4))], .bool (.lit true), [], 0, []⟩
end
theorem pb1 (l s : Int) : Φ.b 1 [.int .i64 l, .int .i64 s] = lsN l s := rfl
theorem pb2 (h : Int) : Φ.b 2 [.int .i64 h] = hopN h := rfl
theorem pb3 (L : LV) (n l s : Int) : Φ.b 3 [.lst L, .int .i64 n, .int .i64 l, .int .i64 s] = guessN n l s L L.length := rfl
theorem ls_iff (l s : Int) : (lsN l s = true) = (1 ≤ l ∧ l ≤ 8 ∧ 1 ≤ s ∧ s ≤ 4) := by simp [lsN]
theorem hop_iff (h : Int) : (hopN h = true) = (0 ≤ h ∧ h ≤ 1099511627776) := by simp [hopN]
theorem pi1 (L : LV) (o h : Int) : Φ.i 1 [.lst L, .int .i64 o, .int .i64 h] = (stP L o h (endP L o h)).1 := rfl
theorem pi2 (L : LV) (o h : Int) : Φ.i 2 [.lst L, .int .i64 o, .int .i64 h] = (endP L o h : Int) := rfl
theorem pl2 (L : LV) (o h : Int) : Φ.l 2 [.lst L, .int .i64 o, .int .i64 h] = rowsP L o h (endP L o h) := rfl
theorem odd_ok : OddOk Φ := fun n a h => by
  show Typed byteK (fl n a)
  unfold fl; split
  · cases h
  · exact Typed.nil _
/- how many of the first n -/
def cntP (p : Nat → Bool) : Nat → Nat
  | 0 => 0
  | n + 1 => cntP p n + (if p n then 1 else 0)
theorem cnt_le (p : Nat → Bool) : ∀ n, cntP p n ≤ n
  | 0 => Nat.le_refl _
  | n + 1 => by have := cnt_le p n; unfold cntP; split <;> omega
theorem cnt_mono {p q : Nat → Bool} : ∀ {n : Nat}, (∀ x, x < n → p x = true → q x = true) → cntP p n ≤ cntP q n
  | 0, _ => Nat.le_refl _
  | n + 1, h => by
    have h1 := cnt_mono (p := p) (q := q) (n := n) fun x hx => h x (by omega)
    unfold cntP
    by_cases e : p n = true
    · rw [if_pos e, if_pos (h n (by omega) e)]; omega
    · rw [if_neg e]; omega
theorem cnt_lt {p q : Nat → Bool} {y : Nat} (hp : p y = false) (hq : q y = true) : ∀ {n : Nat}, y < n → (∀ x, x < n → p x = true → q x = true) → cntP p n < cntP q n
  | n + 1, hy, h => by
    unfold cntP
    by_cases e : y = n
    · subst e
      have h1 := cnt_mono (p := p) (q := q) (n := y) fun x hx => h x (by omega)
      rw [hp, hq]; simp; omega
    · have h1 := cnt_lt hp hq (n := n) (by omega) fun x hx => h x (by omega)
      by_cases e : p n = true
      · rw [if_pos e, if_pos (h n (by omega) e)]; omega
      · rw [if_neg e]; omega
/-- How many nodes' guesses have a hop that is no more. -/
def lowC (L : LV) (car : Int) (n : Nat) : Nat := cntP (fun x => decide (hpI L (x : Int) ≤ car)) n
theorem low_le (L : LV) (car : Int) (n : Nat) : lowC L car n ≤ n := cnt_le _ n
theorem low_lt {L : LV} {me car : Int} {n : Nat} (h0 : 0 ≤ me) (hn : me < (n : Int)) (h : ¬ hpI L me ≤ car) : lowC L car n < lowC L (hpI L me) n := by
  refine cnt_lt (y := me.toNat) ?_ ?_ (by omega) fun x _ hx => ?_
  · rw [Int.toNat_of_nonneg h0]; simpa using h
  · rw [Int.toNat_of_nonneg h0]; simp
  · simp only [decide_eq_true_eq] at hx ⊢; omega
theorem but_s {m i : Int} (h : 0 ≤ i) (hn : ¬ i = m) : butN m (i + 1).toNat = butN m i.toNat ++ [[.int .i64 i]] := by
  rw [at_s h, butN, if_neg (by omega), Int.toNat_of_nonneg h]
theorem but_e {m i : Int} (h : 0 ≤ i) (hn : i = m) : butN m (i + 1).toNat = butN m i.toNat := by
  rw [at_s h, butN, if_pos (by omega)]
theorem but_len {m : Int} : ∀ n : Nat, n ≤ (butN m n).length + (if 0 ≤ m ∧ m < n then 1 else 0)
  | 0 => by simp
  | n + 1 => by
    have := but_len (m := m) n
    unfold butN; split
    · rename_i h
      rw [if_neg (by omega)] at this
      rw [if_pos (by omega)]; omega
    · rename_i h
      rw [List.length_append]; simp only [List.length_cons, List.length_nil]
      split at this
      · rw [if_pos (by omega)]; omega
      · omega
theorem but_two {m i : Int} (h : 2 ≤ i) : 1 ≤ ((butN m i.toNat).length : Int) := by
  have := but_len (m := m) i.toNat
  split at this <;> omega
theorem guess_go {n l s : Int} {L : LV} {i : Int} (h : 0 ≤ i) : guessN n l s L (i + 1).toNat = (guessN n l s L i.toNat && ((decide (1 ≤ n ∧ n ≤ 64) && lsN l s) && (decide (0 ≤ clampK .i64 (intV (celV L i 0)) ∧ clampK .i64 (intV (celV L i 0)) < n) && hopN (clampK .i64 (intV (celV L i 1)))))) := by
  rw [at_s h, guessN, allP, at_z h, at_z h]; rfl
theorem guess_at {n l s : Int} {L : LV} (h : guessN n l s L L.length = true) {i : Int} (h0 : 0 ≤ i) (hl : i < (L.length : Int)) : 0 ≤ clampK .i64 (intV (celV L i 0)) ∧ clampK .i64 (intV (celV L i 0)) < n := by
  have := all_at h (i := i.toNat) (by omega)
  simp only [gN, Bool.and_eq_true, decide_eq_true_eq] at this
  rw [at_z h0]; exact this.2.1
end Go.Proofs.Ytepodgakaajcmaa.own
