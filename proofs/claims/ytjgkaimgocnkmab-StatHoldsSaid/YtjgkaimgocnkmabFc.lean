/- Layer stat: contracts. No condition. -/
import Derived.Test.YtjgkaimgocnkmabFa
set_option linter.unusedVariables false
set_option linter.unusedSimpArgs false
set_option linter.deprecated false
namespace Go.Proofs.Ytjgkaimgocnkmab.stat
open Go Go.Proofs.Ytjgkaimgocnkmab.Sx
noncomputable section
def pShape : SV := .agg [iv 1, iv 2, iv 3]
def cFrame : Ctr := ⟨80, [pShape], [], [], .bool (shapeF 1 2 3), [], 0, []⟩
def cSi : Ctr := ⟨18, [pShape], [], [], .bool (shapeF 1 2 3), [], 0, []⟩
def cRefRight : Ctr := ⟨15, [pStat], [], [], .bool (rightF (xv 1) (.var 2) (xv 3) (xv 4)), [], 0, []⟩
/-- How many sites a lock has. -/
def manyC : IE := .wrap .i64 (.mul (xv 1) (xv 3))
def cSites1 : Ctr := ⟨43, [pShape], [], [shapeF 1 2 3], .tup [.int .i64 manyC, .int .i64 (.lit 0)], [], 0, [.le (.lit 1) manyC, .le manyC (.lit 256)]⟩
def cSites2 : Ctr := ⟨43, [pShape], [], [.not (shapeF 1 2 3)], .tup [.int .i64 (.lit 0), .int .i64 (.lit 2)], [], 0, []⟩
def cRightL : Ctr := ⟨46, [iv 1, sl0 0], rS, [], .bool (.and (.eq (.len (.rom 0)) (xv 1)) (.fn 1 (.lst (.rom 0) .nil))), [], 0, []⟩
def cListR : Ctr := ⟨48, [pShape, sl0 0], rS, [], .bool (.and (shapeF 1 2 3) (.and (.eq (.len (.rom 0)) manyC) (.fn 1 (.lst (.rom 0) .nil)))), [], 0, []⟩
def cSame : Ctr := ⟨20, [sl0 0, sl0 1], rS2, [], .bool (.leq (.rom 0) (.rom 1)), [], 0, []⟩
/- templates -/
def inRow (n : Nat) (len : IE) : List BE := [.le (.lit 0) (xv n), .le (xv n) len]
def tList : Cfg := { top := ⟨48, over (opqS 10000 31) [(1, sl0 0), (5, iv 1001)], ogt (loopTodo (bodyOf (T Φ [] []) 48) 0), [], false, none⟩, rest := [], heap := [(0, .cells [iv 1, iv 2, iv 3] 23)], next := 1, pc := .lit true :: .eq (.len (.rom 0)) manyC :: shapeF 1 2 3 :: inRow 1001 (.len (.rom 0)) }
def tmList : List (Nat × Cfg) := [(0, startF 48 cListR.pat [.lit true]), (1, tList)]
def selList : Sel := [(48, 1, 0, 1)]
def tSame : Cfg := { top := ⟨20, over (opqS 10000 26) [(0, sl0 0), (1, sl0 1), (5, iv 1001)], ogt (loopTodo (bodyOf (T Φ [] []) 20) 0), [], false, none⟩, rest := [], heap := [], next := 0, pc := .lit true :: .eq (.len (.rom 0)) (.len (.rom 1)) :: inRow 1001 (.len (.rom 0)) }
def tmSame : List (Nat × Cfg) := [(0, startF 20 cSame.pat [.lit true]), (1, tSame)]
def selSame : Sel := [(20, 1, 0, 1)]
end
end Go.Proofs.Ytjgkaimgocnkmab.stat
