/- Layer link: words, and what is told ahead. No condition. -/
import Derived.Test.YtjgkaimgocnkmaaSv
set_option linter.unusedVariables false
set_option linter.unusedSimpArgs false
set_option linter.deprecated false
namespace Go.Proofs.Ytjgkaimgocnkmaa.link
open Go Go.Proofs.Ytjgkaimgocnkmaa.Sx
noncomputable section
def iv (n : Nat) : SV := .int .i64 (.var .i64 n)
def xv (n : Nat) : IE := .var .i64 n
def sl0 (r : Nat) : SV := .rom r (.lit 0) (.len (.rom r)) none
def within (a : Int) (x : IE) (b : Int) : BE := .and (.le (.lit a) x) (.le x (.lit b))
def kO : List CK := [.int .i64]
def kI : List CK := [.int .i64, .int .i64]
/- the document's words -/
def outN (n : Int) : Bool := decide (0 ≤ n ∧ n ≤ 1099511627776)
def stampN (a b : Int) : Bool := decide (1 ≤ a ∧ a ≤ 1099511627776 ∧ 1 ≤ b ∧ b ≤ 1099511627776)
def inN (a b : Int) : Bool := decide (a = 0 ∧ b = 0) || stampN a b
def atI (l : LV) (i : Int) (j : Nat) : Int := clampK .i64 (intV (celV l i j))
def allP (p : Nat → Bool) : Nat → Bool
  | 0 => true
  | n + 1 => allP p n && p n
def pO (l : LV) (n : Nat) : Bool := outN (atI l n 0)
def pI (l : LV) (n : Nat) : Bool := inN (atI l n 0) (atI l n 1)
def allO (l : LV) (n : Nat) : Bool := allP (pO l) n
def allI (l : LV) (n : Nat) : Bool := allP (pI l) n
def fb : Nat → List AV → Bool
  | 1, [.lst l] => allO l l.length
  | 2, [.lst l] => allI l l.length
  | 4, [.int _ a, .int _ b] => stampN a b
  | 5, [.int _ a, .int _ b] => inN a b
  | 6, [.int _ a] => outN a
  | _, _ => false
def Φ : Fns := ⟨fun _ _ => 0, fb, fun _ _ => []⟩
def fO (r : Nat) : BE := .fn 1 (.lst (.rom r) .nil)
def fI (r : Nat) : BE := .fn 2 (.lst (.rom r) .nil)
def fStamp (a b : IE) : BE := .fn 4 (.int .i64 a (.int .i64 b .nil))
def fIn (a b : IE) : BE := .fn 5 (.int .i64 a (.int .i64 b .nil))
def fOut (a : IE) : BE := .fn 6 (.int .i64 a .nil)
/- contracts -/
def cWorks : Ctr := ⟨39, [], [], [], .bool (.lit true), [], 0, []⟩
def cStamp : Ctr := ⟨74, [.agg [iv 1, iv 2]], [], [], .bool (fStamp (xv 1) (xv 2)), [], 0, []⟩
def cRefStamp : Ctr := ⟨70, [.agg [iv 1, iv 2]], [], [], .bool (fStamp (xv 1) (xv 2)), [], 0, []⟩
def cIn : Ctr := ⟨92, [.agg [iv 1, iv 2]], [], [], .bool (fIn (xv 1) (xv 2)), [], 0, []⟩
def cOut : Ctr := ⟨89, [iv 1], [], [], .bool (fOut (xv 1)), [], 0, []⟩
def rO : Roms := [(0, (1, kO))]
def rI : Roms := [(0, (2, kI))]
def r2 : Roms := [(0, (1, kO)), (1, (2, kI))]
def r4 : Roms := [(0, (1, kO)), (1, (2, kI)), (2, (1, kO)), (3, (2, kI))]
def cAllO : Ctr := ⟨88, [sl0 0, .func (.func 89) [] []], rO, [], .bool (fO 0), [], 0, []⟩
def cAllI : Ctr := ⟨91, [sl0 0, .func (.func 92) [] []], rI, [], .bool (fI 0), [], 0, []⟩
def pLink (n r : Nat) : SV := .agg [iv n, sl0 r, sl0 (r + 1)]
def rightC (n r : Nat) : BE := .and (within 1 (xv n) 1099511627776) (.and (within 1 (.len (.rom r)) 64) (.and (.eq (.len (.rom (r + 1))) (.len (.rom r))) (.and (fO r) (fI (r + 1)))))
def cRight : Ctr := ⟨69, [pLink 1 0], r2, [], .bool (rightC 1 0), [], 0, []⟩
def cRefRight : Ctr := ⟨43, [pLink 1 0], r2, [], .bool (rightC 1 0), [], 0, []⟩
def sameC : BE := .and (.eq (xv 1) (xv 2)) (.and (.leq (.rom 0) (.rom 2)) (.leq (.rom 1) (.rom 3)))
def cSame : Ctr := ⟨47, [pLink 1 0, pLink 2 2], r4, [], .bool sameC, [], 0, []⟩
end
end Go.Proofs.Ytjgkaimgocnkmaa.link
