/- Layer link: words, and what is told of sending, taking, beginning anew. No condition. -/
import Derived.Test.YtjgkaimgocnkmaaSw
set_option linter.unusedVariables false
set_option linter.unusedSimpArgs false
set_option linter.deprecated false
namespace Go.Proofs.Ytjgkaimgocnkmaa.lnk
open Go Go.Proofs.Ytjgkaimgocnkmaa.Sx
noncomputable section
def iv (n : Nat) : SV := .int .i64 (.var .i64 n)
def xv (n : Nat) : IE := .var .i64 n
def sl0 (r : Nat) : SV := .rom r (.lit 0) (.len (.rom r)) none
def within (a : Int) (x : IE) (b : Int) : BE := .and (.le (.lit a) x) (.le x (.lit b))
def kO : List CK := [.int .i64]
def kI : List CK := [.int .i64, .int .i64]
def outN (n : Int) : Bool := decide (0 ≤ n ∧ n ≤ 1099511627776)
def stampN (a b : Int) : Bool := decide (1 ≤ a ∧ a ≤ 1099511627776 ∧ 1 ≤ b ∧ b ≤ 1099511627776)
def inN (a b : Int) : Bool := decide (a = 0 ∧ b = 0) || stampN a b
def pO (l : LV) (n : Nat) : Bool := outN (Sx.atI l n 0)
def pI (l : LV) (n : Nat) : Bool := inN (Sx.atI l n 0) (Sx.atI l n 1)
def fb : Nat → List AV → Bool
  | 1, [.lst l] => Sx.allP (pO l) l.length
  | 2, [.lst l] => Sx.allP (pI l) l.length
  | 4, [.int _ a, .int _ b] => stampN a b
  | 5, [.int _ a, .int _ b] => inN a b
  | 6, [.int _ a] => outN a
  | _, _ => false
def Φ : Fns := ⟨fun _ _ => 0, fb, fun _ _ => [], []⟩
def fO (r : Nat) : BE := .fn 1 (.lst (.rom r) .nil)
def fI (r : Nat) : BE := .fn 2 (.lst (.rom r) .nil)
def fStamp (a b : IE) : BE := .fn 4 (.int .i64 a (.int .i64 b .nil))
def fIn (a b : IE) : BE := .fn 5 (.int .i64 a (.int .i64 b .nil))
def fOut (a : IE) : BE := .fn 6 (.int .i64 a .nil)
def cWorks : Ctr := ⟨39, [], [], [], .bool (.lit true), [], 0, []⟩
def cStamp : Ctr := ⟨74, [.agg [iv 1, iv 2]], [], [], .bool (fStamp (xv 1) (xv 2)), [], 0, []⟩
def cIn : Ctr := ⟨92, [.agg [iv 1, iv 2]], [], [], .bool (fIn (xv 1) (xv 2)), [], 0, []⟩
def cOut : Ctr := ⟨89, [iv 1], [], [], .bool (fOut (xv 1)), [], 0, []⟩
def rO : Roms := [(0, (1, kO))]
def rI : Roms := [(0, (2, kI))]
def r2 : Roms := [(0, (1, kO)), (1, (2, kI))]
def cAllO : Ctr := ⟨88, [sl0 0, .func (.func 89) [] []], rO, [], .bool (fO 0), [], 0, []⟩
def cAllI : Ctr := ⟨91, [sl0 0, .func (.func 92) [] []], rI, [], .bool (fI 0), [], 0, []⟩
def pLink (n r : Nat) : SV := .agg [iv n, sl0 r, sl0 (r + 1)]
def rightC (n r : Nat) : BE := .and (within 1 (xv n) 1099511627776) (.and (within 1 (.len (.rom r)) 64) (.and (.eq (.len (.rom (r + 1))) (.len (.rom r))) (.and (fO r) (fI (r + 1)))))
def cRight : Ctr := ⟨69, [pLink 1 0], r2, [], .bool (rightC 1 0), [], 0, []⟩
def rom0 : LE := .rom 0
def rom1 : LE := .rom 1
def lnR (r : Nat) : IE := .len (.rom r)
def top : Int := 1099511627776
def zS : SV := .int .i64 (.lit 0)
def rO' (c : LE) (n : Nat) : Nat × SObj := (n, .rowl c (.len c) kO 2 (n + 1) 1)
def rI' (c : LE) (n : Nat) : Nat × SObj := (n, .rowl c (.len c) kI 70 (n + 1) 2)
def sO (c : LE) (n : Nat) : SV := .sll n (n + 1) 1 (.lit 0) (.len c) none
def sI (c : LE) (n : Nat) : SV := .sll n (n + 1) 2 (.lit 0) (.len c) none
def z3O : LE := .rep (.int .i64 (.lit 0) .nil) (.lit 3)
def z3I : LE := .rep (.int .i64 (.lit 0) (.int .i64 (.lit 0) .nil)) (.lit 3)
def cNew3 : Ctr := ⟨40, [.int .i64 (.lit 3)], [], [], .tup [.agg [.int .i64 (.lit 1), .sll 0 1 1 (.lit 0) (.lit 3) none, .sll 2 3 2 (.lit 0) (.lit 3) none], zS], [(0, .rowl z3O (.lit 3) kO 2 1 1), (2, .rowl z3I (.lit 3) kI 70 3 2)], 4, []⟩
def cO (i : IE) : IE := .cel .i64 rom0 i 0
def cI (i : IE) (j : Nat) : IE := .cel .i64 rom1 i j
def inR (x : IE) : List BE := [.le (.lit 0) x, .not (.le (lnR 0) x)]
def nxt : IE := .wrap .i64 (.add (cO (xv 2)) (.lit 1))
def setO : LE := .set rom0 (xv 2) (.int .i64 nxt .nil)
def nilS : SV := .const (.slice none 0 0)
def zL : SV := .agg [zS, nilS, nilS]
def mxE : IE := .lit 1099511627776
def rightL : List BE := [.le (.lit 1) (xv 1), .le (xv 1) (.lit 1099511627776), .le (.lit 1) (lnR 0), .le (lnR 0) (.lit 64), .eq (lnR 1) (lnR 0), fO 0, fI 1]
def cSendS : Ctr := ⟨50, [pLink 1 0, iv 2], r2, rightL ++ inR (xv 2) ++ [.not (.eq (cO (xv 2)) mxE)], .tup [.agg [iv 1, sO setO 0, sI rom1 2], .agg [iv 1, .int .i64 nxt], zS], [rO' setO 0, rI' rom1 2], 4, []⟩
def cSendM : Ctr := ⟨50, [pLink 1 0, iv 2], r2, rightL ++ inR (xv 2) ++ [.eq (cO (xv 2)) mxE], .tup [zL, .agg [zS, zS], .int .i64 (.lit 210)], [], 0, []⟩
def clrO : LE := .rep (.int .i64 (.lit 0) .nil) (lnR 0)
def cRest : Ctr := ⟨52, [pLink 1 0], r2, rightL ++ [.not (.eq (xv 1) mxE)], .tup [.agg [.int .i64 (.add (xv 1) (.lit 1)), sO clrO 0, sI rom1 2], zS], [rO' clrO 0, rI' rom1 2], 4, []⟩
def cRestM : Ctr := ⟨52, [pLink 1 0], r2, rightL ++ [.eq (xv 1) mxE], .tup [zL, .int .i64 (.lit 210)], [], 0, []⟩
def pT : List SV := [pLink 1 0, iv 2, .agg [iv 3, iv 4]]
def preT : List BE := rightL ++ fStamp (xv 3) (xv 4) :: inR (xv 2)
def setI : LE := .set rom1 (xv 2) (.int .i64 (xv 3) (.int .i64 (xv 4) .nil))
def resT (c : LE) (b : Bool) : SV := .tup [.agg [iv 1, sO rom0 0, sI c 2], .bool (.lit b), zS]
def cTakeA : Ctr := ⟨54, pT, r2, preT ++ [.not (.le (xv 3) (cI (xv 2) 0))], resT setI true, [rO' rom0 0, rI' setI 2], 4, []⟩
def cTakeB : Ctr := ⟨54, pT, r2, preT ++ [.eq (xv 3) (cI (xv 2) 0), .not (.le (xv 4) (cI (xv 2) 1))], resT setI true, [rO' rom0 0, rI' setI 2], 4, []⟩
def cTakeC : Ctr := ⟨54, pT, r2, preT ++ [.eq (xv 3) (cI (xv 2) 0), .le (xv 4) (cI (xv 2) 1)], resT rom1 false, [rO' rom0 0, rI' rom1 2], 4, []⟩
def cTakeD : Ctr := ⟨54, pT, r2, preT ++ [.not (.le (cI (xv 2) 0) (xv 3))], resT rom1 false, [rO' rom0 0, rI' rom1 2], 4, []⟩
def rB : Roms := [(0, (1, [.bool])), (1, (1, kO))]
def cHolds : Ctr := ⟨14, [sl0 0, sl0 1], rB, [], .bool (.lit true), [], 0, []⟩
end
theorem pb1 (l : LV) : Φ.b 1 [.lst l] = Sx.allP (pO l) l.length := rfl
theorem pb2 (l : LV) : Φ.b 2 [.lst l] = Sx.allP (pI l) l.length := rfl
theorem pb4 (a b : Int) : Φ.b 4 [.int .i64 a, .int .i64 b] = stampN a b := rfl
theorem pb5 (a b : Int) : Φ.b 5 [.int .i64 a, .int .i64 b] = inN a b := rfl
theorem pb6 (a : Int) : Φ.b 6 [.int .i64 a] = outN a := rfl
theorem out_iff {n : Int} : (outN n = true) = (0 ≤ n ∧ n ≤ 1099511627776) := by simp [outN]
theorem stamp_iff {a b : Int} : (stampN a b = true) = (1 ≤ a ∧ a ≤ 1099511627776 ∧ 1 ≤ b ∧ b ≤ 1099511627776) := by simp [stampN]
theorem in_iff {a b : Int} : (inN a b = true) = ((a = 0 ∧ b = 0) ∨ (1 ≤ a ∧ a ≤ 1099511627776 ∧ 1 ≤ b ∧ b ≤ 1099511627776)) := by simp [inN, stampN]
theorem odd_ok : OddOk Φ := fun n a h => Typed.nil _
theorem all_s {p : Nat → Bool} {i : Int} (h0 : 0 ≤ i) (h : Sx.allP p i.toNat = true) (hp : p i.toNat = true) : Sx.allP p (i + 1).toNat = true := by
  rw [show (i + 1).toNat = i.toNat + 1 by omega, Sx.allP, h, hp]; rfl
theorem all_no {p : Nat → Bool} {i : Int} {n : Nat} (h0 : 0 ≤ i) (hl : i < (n : Int)) (hp : ¬ p i.toNat = true) : Sx.allP p n = false := all_f (i := i.toNat) (by omega) (Bool.eq_false_iff.2 hp)
end Go.Proofs.Ytjgkaimgocnkmaa.lnk
