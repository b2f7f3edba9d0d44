/- Layer hold: one hold more, one less. No condition. -/
import Derived.Test.YteblnjgghbclpaaDoorHj
set_option linter.unusedVariables false
set_option linter.unusedSimpArgs false
set_option linter.deprecated false
namespace Go.Proofs.YteblnjgghbclpaaDoor.hold
open Go Go.Proofs.YteblnjgghbclpaaDoor.Sx
noncomputable section
def hL (s u m : Int) : LV := [[.int .i64 s, .int .i64 u, .int .i64 m]]
def ADDa : AL := .lst (.rom 0) (.int .i64 (xv 1) (.int .i64 (xv 2) (.int .i64 (xv 3) .nil)))
def ADD : LE := .cat (.cat (.take (.rom 0) F3i) (.one (.int .i64 (xv 1) (.int .i64 (xv 2) (.int .i64 (xv 3) .nil))))) (.drop (.rom 0) F3i)
def rowA : SObj := .rowl ADD (.len ADD) ks3 68 1 3
def preA : List BE := [.le (.lit 1) (ln 0), .le (ln 0) (.lit 1000), rightF (.rom 0), .le (.lit 1) (xv 3), .le (xv 3) (.lit 5), mayF (xv 1) (xv 2) (xv 3), .le (ln 0) F2, (.fn 5 (.lst (.rom 0) (.int .i64 (xv 3) .nil)))]
def postA : List BE := [.eq (.len ADD) (.add (ln 0) (.lit 1)), .le (.lit 0) F3i, .le F3i (ln 0)]
def cAddF : Ctr := ⟨39, [sl0 0, pHold], r3, preA, .tup [.sll 0 1 3 (.lit 0) (.len ADD) none, .int .i64 (.lit 0)], [(0, rowA)], 2, postA⟩
def cAddR : Ctr := ⟨40, [sl0 0, pHold], r3, preA, .tup [.sll 0 1 3 (.lit 0) (.len ADD) none, .int .i64 (.lit 0)], [(0, rowA)], 2, postA⟩
def preZ : List BE := [.le (ln 0) (.lit 0), rightF (.rom 0), .le (.lit 1) (xv 3), .le (xv 3) (.lit 5), mayF (xv 1) (xv 2) (xv 3), .le (ln 0) F2, (.fn 5 (.lst (.rom 0) (.int .i64 (xv 3) .nil)))]
def cAddF0 : Ctr := ⟨39, [sl0 0, pHold], r3, preZ, .tup [.sll 0 1 3 (.lit 0) (.len ADD) none, .int .i64 (.lit 0)], [(0, rowA)], 2, postA⟩
def cAddR0 : Ctr := ⟨40, [sl0 0, pHold], r3, preZ, .tup [.sll 0 1 3 (.lit 0) (.len ADD) none, .int .i64 (.lit 0)], [(0, rowA)], 2, postA⟩
end
end Go.Proofs.YteblnjgghbclpaaDoor.hold
