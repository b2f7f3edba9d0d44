/- Layer stat: words, and calls without loops. No condition. -/
import Derived.Test.YtjgkaimgocnkmabSw
set_option linter.unusedVariables false
set_option linter.unusedSimpArgs false
set_option linter.deprecated false
namespace Go.Proofs.Ytjgkaimgocnkmab.stat
open Go Go.Proofs.Ytjgkaimgocnkmab.Sx
noncomputable section
def iv (n : Nat) : SV := .int .i64 (.var .i64 n)
def xv (n : Nat) : IE := .var .i64 n
def within (a : Int) (x : IE) (b : Int) : BE := .and (.le (.lit a) x) (.le x (.lit b))
def orE (a b : BE) : BE := .not (.and (.not a) (.not b))
def rightN (o : Int) (p : Bool) (m q : Int) : Bool := !(!(p && ((decide (0 ≤ o) && decide (o ≤ 1099511627775)) && ((decide (1 ≤ m) && decide (m ≤ 5)) && (decide (0 ≤ q) && decide (q ≤ 3))))) && !(!p && ((decide (0 ≤ o) && decide (o ≤ 1099511627776)) && (decide (m = 0) && decide (q = 0)))))
def shapeN (n l s : Int) : Bool := decide (1 ≤ n ∧ n ≤ 64 ∧ 1 ≤ l ∧ l ≤ 8 ∧ 1 ≤ s ∧ s ≤ 4)
def shapeF (n l s : Nat) : BE := .fn 2 (.int .i64 (xv n) (.int .i64 (xv l) (.int .i64 (xv s) .nil)))
def rightF (o : IE) (p : BE) (m q : IE) : BE := .fn 3 (.int .i64 o (.bool p (.int .i64 m (.int .i64 q .nil))))
def atI (l : LV) (i : Int) (j : Nat) : Int := clampK .i64 (intV (celV l i j))
def atB (l : LV) (i : Int) (j : Nat) : Bool := boolV (celV l i j)
def rightE (l : LV) (i : Int) : Bool := rightN (atI l i 0) (atB l i 1) (atI l i 2) (atI l i 3)
/-- The first of a list are right. -/
def allR (l : LV) : Nat → Bool
  | 0 => true
  | n + 1 => allR l n && rightE l n
/-- One says more than another one. -/
def moreN (o : Int) (p : Bool) (a : Int) (b : Bool) : Bool := decide (a < o) || (decide (o = a) && (p && !b))
/-- A list behind a status that is learned. -/
def learnL (L : LV) (k o : Int) (p : Bool) (m q : Int) : LV := if moreN o p (atI L k 0) (atB L k 1) then L.set k.toNat [.int .i64 o, .bool p, .int .i64 m, .int .i64 q] else L
def zeroL (n : Int) : LV := List.replicate n.toNat [.int .i64 0, .bool false, .int .i64 0, .int .i64 0]
def fl : Nat → List AV → LV
  | 4, [.int _ n] => zeroL n
  | 2, [.lst L, .int _ k, .int _ o, .bool p, .int _ m, .int _ q] => learnL L k o p m q
  | _, _ => []
def fb : Nat → List AV → Bool
  | 4, [.lst L, .int _ k, .int _ o, .bool p] => moreN o p (atI L k 0) (atB L k 1)
  | 1, [.lst l] => allR l l.length
  | 2, [.int _ n, .int _ l, .int _ s] => shapeN n l s
  | 3, [.int _ o, .bool p, .int _ m, .int _ q] => rightN o p m q
  | _, _ => false
def Φ : Fns := ⟨fun _ _ => 0, fb, fl, []⟩
def cWorks : Ctr := ⟨19, [], [], [], .bool (.lit true), [], 0, []⟩
def pStat : SV := .agg [iv 1, .bool (.var 2), iv 3, iv 4]
def cRight : Ctr := ⟨44, [pStat], [], [], .bool (rightF (xv 1) (.var 2) (xv 3) (xv 4)), [], 0, []⟩
def rS : Roms := [(0, (4, [.int .i64, .bool, .int .i64, .int .i64]))]
def rS2 : Roms := [(0, (4, [.int .i64, .bool, .int .i64, .int .i64])), (1, (4, [.int .i64, .bool, .int .i64, .int .i64]))]
def sl0 (r : Nat) : SV := .rom r (.lit 0) (.len (.rom r)) none
/-- All statuses of a list are right. -/
def cFold : Ctr := ⟨72, [.bool (.var 1), .func (.func 73) [] [], sl0 0], rS, [], .bool (.and (.var 1) (.fn 1 (.lst (.rom 0) .nil))), [], 0, []⟩
def tFold : Cfg := { top := ⟨72, over (opqS 10000 21) [(0, .bool (.var 1000)), (1, .func (.func 73) [] []), (9, sl0 0), (10, .int .i64 (.len (.rom 0))), (11, iv 1001)], ogt (loopTodo (bodyOf (T Φ [] []) 72) 0), [], false, none⟩, rest := [], heap := [], next := 0, pc := [.lit true, .le (.lit 0) (xv 1001), .le (xv 1001) (.len (.rom 0))] }
def tmFold : List (Nat × Cfg) := [(0, startF 72 cFold.pat [.lit true]), (1, tFold)]
def selFold : Sel := [(72, 1, 0, 1)]
end
end Go.Proofs.Ytjgkaimgocnkmab.stat
