/- Layer hold: one hold more, one less. No condition. -/
import Derived.Test.YteblnjgghbclpaaDoorHj
set_option linter.unusedVariables false
set_option linter.unusedSimpArgs false
set_option linter.deprecated false
namespace Go.Proofs.YteblnjgghbclpaaDoor.hold
open Go Go.Proofs.YteblnjgghbclpaaDoor.Sx
noncomputable section
def ADDa : AL := .lst (.rom 0) (.int .i64 (xv 1) (.int .i64 (xv 2) (.int .i64 (xv 3) .nil)))
def ADD : LE := .cat (.cat (.take (.rom 0) F3i) (.one (.int .i64 (xv 1) (.int .i64 (xv 2) (.int .i64 (xv 3) .nil))))) (.drop (.rom 0) F3i)
def rowA : SObj := .rowl ADD (.len ADD) ks3 68 1 3
def preA : List BE := [.le (.lit 1) (ln 0), .le (ln 0) (.lit 1000), rightF (.rom 0), .le (.lit 1) (xv 3), .le (xv 3) (.lit 5), mayF (xv 1) (xv 2) (xv 3), .le (ln 0) F2, (.fn 5 (.lst (.rom 0) (.int .i64 (xv 3) .nil)))]
def postA : List BE := [.eq (.len ADD) (.add (ln 0) (.lit 1)), .le (.lit 0) F3i, .le F3i (ln 0)]
def cAddF : Ctr := ⟨39, [sl0 0, pHold], r3, preA, .tup [.sll 0 1 3 (.lit 0) (.len ADD) none, .int .i64 (.lit 0)], [(0, rowA)], 2, postA⟩
def cAddR : Ctr := ⟨40, [sl0 0, pHold], r3, preA, .tup [.sll 0 1 3 (.lit 0) (.len ADD) none, .int .i64 (.lit 0)], [(0, rowA)], 2, postA⟩
def ADDg : LE := .fn 6 ADDa
def rowG : SObj := .rowl ADDg (.len ADDg) ks3 68 1 3
def F2a (l : LE) : IE := .fn .i64 2 (.lst l (.int .i64 (xv 1) .nil))
def cutG (l : LE) : LE := .fn 4 (.lst l (.int .i64 (xv 1) .nil))
def postG : List BE := [.eq (.len ADDg) (.add (ln 0) (.lit 1)), .le (.len ADDg) (.lit 1001), rightF ADDg, .not (.le (.len ADDg) (F2a ADDg)), .le (.cel .i64 ADDg (F2a ADDg) 1) (xv 2), .leq (cutG ADDg) (.rom 0), .le (.lit 0) (F2a ADDg)]
def cAddG : Ctr := ⟨39, [sl0 0, pHold], r3, preA, .tup [.sll 0 1 3 (.lit 0) (.len ADDg) none, .int .i64 (.lit 0)], [(0, rowG)], 2, postG⟩
def preZ : List BE := [.le (ln 0) (.lit 0), rightF (.rom 0), .le (.lit 1) (xv 3), .le (xv 3) (.lit 5), mayF (xv 1) (xv 2) (xv 3), .le (ln 0) F2, (.fn 5 (.lst (.rom 0) (.int .i64 (xv 3) .nil)))]
def cAddF0 : Ctr := ⟨39, [sl0 0, pHold], r3, preZ, .tup [.sll 0 1 3 (.lit 0) (.len ADD) none, .int .i64 (.lit 0)], [(0, rowA)], 2, postA⟩
def cAddR0 : Ctr := ⟨40, [sl0 0, pHold], r3, preZ, .tup [.sll 0 1 3 (.lit 0) (.len ADD) none, .int .i64 (.lit 0)], [(0, rowA)], 2, postA⟩
end
end Go.Proofs.YteblnjgghbclpaaDoor.hold
