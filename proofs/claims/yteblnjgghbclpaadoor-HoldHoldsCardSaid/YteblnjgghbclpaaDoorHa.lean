/- Layer hold: words. No condition. -/
import Derived.Test.YteblnjgghbclpaaDoorSw
set_option linter.unusedVariables false
set_option linter.unusedSimpArgs false
set_option linter.deprecated false
namespace Go.Proofs.YteblnjgghbclpaaDoor.hold
open Go Go.Proofs.YteblnjgghbclpaaDoor.Sx
noncomputable section
def iv (n : Nat) : SV := .int .i64 (.var .i64 n)
def xv (n : Nat) : IE := .var .i64 n
def atI (l : LV) (i : Nat) (j : Nat) : Int := clampK .i64 (intV (celV l (i : Int) j))
/-- Which modes go together. -/
def fitsN (a b : Int) : Bool := (decide (a = 0) || decide (b = 0)) || (!(decide (a = 5) || decide (b = 5)) && ((decide (a = 1) || decide (b = 1)) || (decide (a = b) && !decide (a = 4))))
def mayN (s u m : Int) : Bool := decide (0 ≤ s ∧ s ≤ 255 ∧ 1 ≤ u ∧ u ≤ 1099511627776 ∧ 1 ≤ m ∧ m ≤ 5)
/-- How often a mode is among the first. -/
def cntN (l : LV) (m : Int) : Nat → Nat
  | 0 => 0
  | n + 1 => cntN l m n + (if atI l n 0 = m then 1 else 0)
/-- Those ahead of place n go together with m. -/
def fitsAll (l : LV) (j : Nat) (m : Int) : Nat → Bool
  | 0 => true
  | n + 1 => fitsAll l j m n && fitsN m (atI l n j)
/-- The first n go together. -/
def togN (l : LV) (j : Nat) : Nat → Bool
  | 0 => true
  | n + 1 => togN l j n && fitsAll l j (atI l n j) n
/-- The first n are modes. -/
def modesN (l : LV) : Nat → Bool
  | 0 => true
  | n + 1 => modesN l n && decide (0 ≤ atI l n 0 ∧ atI l n 0 ≤ 5)
def mayAt (l : LV) (i : Nat) : Bool := mayN (atI l i 0) (atI l i 1) (atI l i 2)
/-- The first n may be, and rise. -/
def risN (l : LV) : Nat → Bool
  | 0 => true
  | n + 1 => risN l n && (mayAt l n && (decide (n = 0) || decide (atI l (n - 1) 0 < atI l n 0)))
/-- Holds. -/
def rightL (l : LV) : Bool := risN l l.length && togN l 2 l.length
/-- The modes of the first n. -/
def modesL (l : LV) : Nat → LV
  | 0 => []
  | n + 1 => modesL l n ++ [[.int .i64 (atI l n 2)]]
/-- The first place of a site: n, if it is not among the first n. -/
def findN (l : LV) (s : Int) : Nat → Nat := Sx.firstP fun i => decide (atI l i 0 = s)
/-- The first place of a greater site. -/
def overN (l : LV) (s : Int) : Nat → Nat := Sx.firstP fun i => decide (s < atI l i 0)
/-- The first place of one that writes. -/
def writeN (l : LV) : Nat → Nat := Sx.firstP fun i => decide (atI l i 2 = 5)
def fi : Nat → List AV → Int
  | 1, [.lst l, .int _ m] => cntN l m l.length
  | 2, [.lst l, .int _ s] => findN l s l.length
  | 3, [.lst l, .int _ s] => overN l s l.length
  | 4, [.lst l] => writeN l l.length
  | _, _ => 0
def fb : Nat → List AV → Bool
  | 1, [.int _ a, .int _ b] => fitsN a b
  | 2, [.int _ s, .int _ u, .int _ m] => mayN s u m
  | 3, [.lst l] => togN l 0 l.length
  | 4, [.lst l] => rightL l
  | 5, [.lst l, .int _ m] => fitsAll l 2 m l.length
  | 6, [.lst l] => modesN l l.length
  | _, _ => false
/-- One more at place k; the one at place f away. -/
def insL (R : LV) (k : Nat) (x : LV) : LV := (R.take k ++ x) ++ R.drop k
def cutL (R : LV) (f : Nat) : LV := R.take f ++ R.drop (f + 1)
def hL (s u m : Int) : LV := [[.int .i64 s, .int .i64 u, .int .i64 m]]
def fl : Nat → List AV → LV
  | 2, [.lst l] => modesL l l.length
  | 4, [.lst l, .int _ s] => cutL l (findN l s l.length)
  | 6, [.lst l, .int _ s, .int _ u, .int _ m] => insL l (overN l s l.length) (hL s u m)
  | _, _ => []
def tabF : List Value := [true, true, true, true, true, true, true, true, true, true, true, false, true, true, true, false, false, false, true, true, false, true, false, false, true, true, false, false, false, false, true, false, false, false, false, false].map Value.bool
def Φ : Fns := ⟨fi, fb, fl, [(0, tabF)]⟩
def ks1 : List CK := [.int .i64]
def ks3 : List CK := [.int .i64, .int .i64, .int .i64]
def r1 : Roms := [(0, (1, ks1))]
def r3 : Roms := [(0, (3, ks3))]
def r33 : Roms := [(0, (3, ks3)), (1, (3, ks3))]
def ln (r : Nat) : IE := .len (.rom r)
def sl0 (r : Nat) : SV := .rom r (.lit 0) (.len (.rom r)) none
/- mode -/
def fitF (a b : IE) : BE := .fn 1 (.int .i64 a (.int .i64 b .nil))
def mayF (s u m : IE) : BE := .fn 2 (.int .i64 s (.int .i64 u (.int .i64 m .nil)))
def isMode (x : IE) : BE := .and (.le (.lit 0) x) (.le x (.lit 5))
def cFits03 : Ctr := ⟨35, [iv 1, iv 2], [], [], .bool (fitF (xv 1) (xv 2)), [], 0, []⟩
def cRight03 : Ctr := ⟨53, [iv 1], [], [], .bool (isMode (xv 1)), [], 0, []⟩
def cTog03 : Ctr := ⟨83, [sl0 0], r1, [], .bool (.fn 3 (.lst (.rom 0) .nil)), [], 0, []⟩
def pHold : SV := .agg [iv 1, iv 2, iv 3]
def cMay : Ctr := ⟨82, [pHold], [], [], .bool (mayF (xv 1) (xv 2) (xv 3)), [], 0, []⟩
def cRight1 : Ctr := ⟨76, [pHold], [], [], .bool (mayF (xv 1) (xv 2) (xv 3)), [], 0, []⟩
/- mode, the program's -/
def cModesF : Ctr := ⟨108, [.bool (.var 1), .func (.func 109) [] [], sl0 0], r1, [], .bool (.and (.var 1) (.fn 6 (.lst (.rom 0) .nil))), [], 0, []⟩
def cModesR : Ctr := ⟨96, [sl0 0], r1, [], .bool (.fn 6 (.lst (.rom 0) .nil)), [], 0, []⟩
def cntE (m : Int) : IE := .fn .i64 1 (.lst (.rom 0) (.int .i64 (.lit m) .nil))
def cCnt : Ctr := ⟨114, [.agg [.int .i64 (.lit 0), .int .i64 (.lit 0), .int .i64 (.lit 0), .int .i64 (.lit 0), .int .i64 (.lit 0), .int .i64 (.lit 0)], .func (.func 115) [] [], sl0 0], r1, [.fn 6 (.lst (.rom 0) .nil), .le (ln 0) (.lit 1000000)], .agg [.int .i64 (cntE 0), .int .i64 (cntE 1), .int .i64 (cntE 2), .int .i64 (cntE 3), .int .i64 (cntE 4), .int .i64 (cntE 5)], [], 0, []⟩
def F6 (l : LE) : BE := .fn 6 (.lst l .nil)
def F3 (l : LE) : BE := .fn 3 (.lst l .nil)
def cTogF : Ctr := ⟨101, [sl0 0], r1, [.le (ln 0) (.lit 1000000)], .tup [.bool (.and (F6 (.rom 0)) (F3 (.rom 0))), .int .i64 (.ite (F6 (.rom 0)) (.lit 0) (.lit 130))], [], 0, []⟩
/- holds -/
def lm : LE := .fn 2 (.lst (.rom 0) .nil)
def rowM : SObj := .rowl lm (.len lm) ks1 23 1 1
def cModesA (f : Nat) : Ctr := ⟨f, [sl0 0], r3, [.le (.lit 1) (ln 0), .le (ln 0) (.lit 1000000)], .sll 0 1 1 (.lit 0) (.len lm) none, [(0, rowM)], 2, [.eq (.len lm) (ln 0)]⟩
def cModesB (f : Nat) : Ctr := ⟨f, [sl0 0], r3, [.le (ln 0) (.lit 0)], .const (.slice none 0 0), [], 0, []⟩
def cM86 : Ctr := cModesA 86
def cM86z : Ctr := cModesB 86
def cM51 : Ctr := cModesA 51
def cM51z : Ctr := cModesB 51
def rightF (l : LE) : BE := .fn 4 (.lst l .nil)
def cRightP : Ctr := ⟨75, [sl0 0], r3, [.le (ln 0) (.lit 1000000)], .bool (rightF (.rom 0)), [], 0, []⟩
def cRightR : Ctr := ⟨44, [sl0 0], r3, [.le (ln 0) (.lit 1000000)], .bool (rightF (.rom 0)), [], 0, []⟩
def cSame : Ctr := ⟨41, [sl0 0, sl0 1], r33, [], .bool (.leq (.rom 0) (.rom 1)), [], 0, []⟩
def cWorks : Ctr := ⟨37, [], [], [], .bool (.lit true), [], 0, []⟩
def cEach : Ctr := ⟨12, [sl0 0, iv 1], r3, [.le (.lit 1) (ln 0)], .bool (.lit true), [], 0, []⟩
def cEach0 : Ctr := ⟨12, [.rom 0 (.lit 0) (.lit 0) none, iv 1], r3, [], .bool (.lit true), [], 0, []⟩
end
theorem pi1 (l : LV) (m : Int) : Φ.i 1 [.lst l, .int .i64 m] = (cntN l m l.length : Int) := rfl
theorem pi2 (l : LV) (s : Int) : Φ.i 2 [.lst l, .int .i64 s] = (findN l s l.length : Int) := rfl
theorem pi3 (l : LV) (s : Int) : Φ.i 3 [.lst l, .int .i64 s] = (overN l s l.length : Int) := rfl
theorem pi4 (l : LV) : Φ.i 4 [.lst l] = (writeN l l.length : Int) := rfl
theorem pl2 (l : LV) : Φ.l 2 [.lst l] = modesL l l.length := rfl
theorem pl4 (l : LV) (s : Int) : Φ.l 4 [.lst l, .int .i64 s] = cutL l (findN l s l.length) := rfl
theorem pl6 (l : LV) (s u m : Int) : Φ.l 6 [.lst l, .int .i64 s, .int .i64 u, .int .i64 m] = insL l (overN l s l.length) (hL s u m) := rfl
theorem pb1 (a b : Int) : Φ.b 1 [.int .i64 a, .int .i64 b] = fitsN a b := rfl
theorem pb2 (s u m : Int) : Φ.b 2 [.int .i64 s, .int .i64 u, .int .i64 m] = mayN s u m := rfl
theorem pb3 (l : LV) : Φ.b 3 [.lst l] = togN l 0 l.length := rfl
theorem pb4 (l : LV) : Φ.b 4 [.lst l] = rightL l := rfl
theorem pb5 (l : LV) (m : Int) : Φ.b 5 [.lst l, .int .i64 m] = fitsAll l 2 m l.length := rfl
theorem pb6 (l : LV) : Φ.b 6 [.lst l] = modesN l l.length := rfl
theorem fits_iff (a b : Int) : (fitsN a b = true) = ((a = 0 ∨ b = 0) ∨ (¬ (a = 5 ∨ b = 5) ∧ ((a = 1 ∨ b = 1) ∨ (a = b ∧ ¬ a = 4)))) := by simp [fitsN]
theorem may_iff (s u m : Int) : (mayN s u m = true) = (0 ≤ s ∧ s ≤ 255 ∧ 1 ≤ u ∧ u ≤ 1099511627776 ∧ 1 ≤ m ∧ m ≤ 5) := by simp [mayN]
theorem beq_of {a b : Bool} (h : (a = true) ↔ (b = true)) : a = b := Bool.eq_iff_iff.2 h
end Go.Proofs.YteblnjgghbclpaaDoor.hold
