/- Layer hold: one hold more, told. No condition. -/
import Derived.Test.YteblnjgghbclpaaDoorHu0
set_option linter.unusedVariables false
set_option linter.unusedSimpArgs false
set_option linter.deprecated false
namespace Go.Proofs.YteblnjgghbclpaaDoor.hold
open Go Go.Proofs.YteblnjgghbclpaaDoor.Sx
noncomputable section
abbrev TTaddF : Tab := T hold.Φ cAddF.roms [cRightP, cRightR, cAt, cRF0, cRFin, cRFout, cFits, cRFits, cSame, cMayM, cRightM]
def taddF1 : Cfg := { top := ⟨79, over (opqS 10000 22) [(0, (SV.rom 0 (IE.lit 0) (IE.len (LE.rom 0)) none)), (1, (SV.func (Go.Fn.func 80) [] [(SV.ptr 0 0)])), (8, (SV.rom 0 (IE.lit 0) (IE.len (LE.rom 0)) none)), (9, (SV.int .i64 (IE.len (LE.rom 0)))), (10, (SV.int .i64 (IE.var .i64 1000)))], ogt (loopTodo (bodyOf (T hold.Φ [] []) 79) 0), [], false, none⟩, rest := [⟨39, over (opqS 30000 52) [(0, (SV.rom 0 (IE.lit 0) (IE.len (LE.rom 0)) none)), (3, (SV.ptr 0 0))], ogt (callTodo (bodyOf (T hold.Φ [] []) 39) 10 [2, 3, 4, 5, 6]), [], false, none⟩], heap := [(0, .cells [(SV.int .i64 (IE.var .i64 1)), (SV.int .i64 (IE.var .i64 2)), (SV.int .i64 (IE.var .i64 3))] 68)], next := 1, pc := .lit true :: ([] ++ [(BE.fn 5 (AL.lst (LE.rom 0) (AL.int .i64 (IE.var .i64 3) AL.nil))), (BE.le (IE.len (LE.rom 0)) (IE.fn .i64 2 (AL.lst (LE.rom 0) (AL.int .i64 (IE.var .i64 1) AL.nil)))), (BE.fn 2 (AL.int .i64 (IE.var .i64 1) (AL.int .i64 (IE.var .i64 2) (AL.int .i64 (IE.var .i64 3) AL.nil)))), (BE.le (IE.var .i64 3) (IE.lit 5)), (BE.le (IE.lit 1) (IE.var .i64 3)), (BE.fn 4 (AL.lst (LE.rom 0) AL.nil)), (BE.le (IE.len (LE.rom 0)) (IE.lit 1000)), (BE.le (IE.lit 1) (IE.len (LE.rom 0))), (BE.le (IE.fn .i64 2 (AL.lst (LE.rom 0) (AL.int .i64 (IE.var .i64 1) AL.nil))) (IE.len (LE.rom 0))), (BE.le (IE.lit 0) (IE.fn .i64 2 (AL.lst (LE.rom 0) (AL.int .i64 (IE.var .i64 1) AL.nil)))), (BE.le (IE.lit 0) (IE.var .i64 1000)), (BE.le (IE.var .i64 1000) (IE.len (LE.rom 0)))]) }
def tmaddF : List (Nat × Cfg) := [(0, startF 39 cAddF.pat (.lit true :: cAddF.pre)), (1, taddF1)]
def seladdF : Sel := [(79, 1, 1, 1)]
def waddF0_0 : VW := (VW.cut 1 [(BE.le (IE.lit 0) (IE.fn .i64 2 (AL.lst (LE.rom 0) (AL.int .i64 (IE.var .i64 1) AL.nil)))), (BE.le (IE.fn .i64 2 (AL.lst (LE.rom 0) (AL.int .i64 (IE.var .i64 1) AL.nil))) (IE.len (LE.rom 0))), (BE.lit true), (BE.le (IE.lit 1) (IE.len (LE.rom 0))), (BE.le (IE.len (LE.rom 0)) (IE.lit 1000)), (BE.fn 4 (AL.lst (LE.rom 0) AL.nil)), (BE.le (IE.lit 1) (IE.var .i64 3)), (BE.le (IE.var .i64 3) (IE.lit 5)), (BE.fn 2 (AL.int .i64 (IE.var .i64 1) (AL.int .i64 (IE.var .i64 2) (AL.int .i64 (IE.var .i64 3) AL.nil)))), (BE.le (IE.len (LE.rom 0)) (IE.fn .i64 2 (AL.lst (LE.rom 0) (AL.int .i64 (IE.var .i64 1) AL.nil)))), (BE.fn 5 (AL.lst (LE.rom 0) (AL.int .i64 (IE.var .i64 3) AL.nil)))] (Sx.Sub.mk [(.i64, (1000, (IE.lit 0)))] [] [] [] [] []))
def vwaddF0 : List VW := [waddF0_0]
def pcaddF1_0 : List BE := [(BE.lit true), (BE.fn 5 (AL.lst (LE.rom 0) (AL.int .i64 (IE.var .i64 3) AL.nil))), (BE.le (IE.len (LE.rom 0)) (IE.fn .i64 2 (AL.lst (LE.rom 0) (AL.int .i64 (IE.var .i64 1) AL.nil)))), (BE.fn 2 (AL.int .i64 (IE.var .i64 1) (AL.int .i64 (IE.var .i64 2) (AL.int .i64 (IE.var .i64 3) AL.nil)))), (BE.le (IE.var .i64 3) (IE.lit 5)), (BE.le (IE.lit 1) (IE.var .i64 3)), (BE.fn 4 (AL.lst (LE.rom 0) AL.nil)), (BE.le (IE.len (LE.rom 0)) (IE.lit 1000)), (BE.le (IE.lit 1) (IE.len (LE.rom 0))), (BE.le (IE.fn .i64 2 (AL.lst (LE.rom 0) (AL.int .i64 (IE.var .i64 1) AL.nil))) (IE.len (LE.rom 0))), (BE.le (IE.lit 0) (IE.fn .i64 2 (AL.lst (LE.rom 0) (AL.int .i64 (IE.var .i64 1) AL.nil)))), (BE.le (IE.lit 0) (IE.var .i64 1000)), (BE.le (IE.var .i64 1000) (IE.len (LE.rom 0)))]
def pcaddF1_1 : List BE := ((BE.le (IE.len (LE.rom 0)) (IE.var .i64 1000)) :: pcaddF1_0)
def pcaddF1_2 : List BE := ((BE.not (BE.le (IE.len (LE.rom 0)) (IE.var .i64 1000))) :: pcaddF1_0)
def waddF1_0 : VW := (VW.done ((BE.eq (IE.rcap 0) (IE.len (LE.rom 0))) :: pcaddF1_1) (some [(G.i (IE.len (LE.cat (LE.cat (LE.take (LE.rom 0) (IE.fn .i64 3 (AL.lst (LE.rom 0) (AL.int .i64 (IE.var .i64 1) AL.nil)))) (LE.one (AL.int .i64 (IE.var .i64 1) (AL.int .i64 (IE.var .i64 2) (AL.int .i64 (IE.var .i64 3) AL.nil))))) (LE.drop (LE.rom 0) (IE.fn .i64 3 (AL.lst (LE.rom 0) (AL.int .i64 (IE.var .i64 1) AL.nil)))))) (IE.add (IE.len (LE.rom 0)) (IE.lit 1))), (G.l (LE.cat (LE.cat (LE.take (LE.rom 0) (IE.fn .i64 3 (AL.lst (LE.rom 0) (AL.int .i64 (IE.var .i64 1) AL.nil)))) (LE.one (AL.int .i64 (IE.var .i64 1) (AL.int .i64 (IE.var .i64 2) (AL.int .i64 (IE.var .i64 3) AL.nil))))) (LE.drop (LE.rom 0) (IE.fn .i64 3 (AL.lst (LE.rom 0) (AL.int .i64 (IE.var .i64 1) AL.nil))))) (LE.cat (LE.cat (LE.take (LE.cat (LE.cat (LE.take (LE.cat (LE.cat (LE.take (LE.rep (AL.int .i64 (IE.lit 0) (AL.int .i64 (IE.lit 0) (AL.int .i64 (IE.lit 0) AL.nil))) (IE.sub (IE.add (IE.add (IE.add (IE.lit 0) (IE.len (LE.rom 0))) (IE.lit 1)) (IE.lit 0)) (IE.lit 0))) (IE.lit 0)) (LE.rom 0)) (LE.drop (LE.rep (AL.int .i64 (IE.lit 0) (AL.int .i64 (IE.lit 0) (AL.int .i64 (IE.lit 0) AL.nil))) (IE.sub (IE.add (IE.add (IE.add (IE.lit 0) (IE.len (LE.rom 0))) (IE.lit 1)) (IE.lit 0)) (IE.lit 0))) (IE.len (LE.rom 0)))) (IE.len (LE.rom 0))) (LE.one (AL.int .i64 (IE.var .i64 1) (AL.int .i64 (IE.var .i64 2) (AL.int .i64 (IE.var .i64 3) AL.nil))))) (LE.drop (LE.cat (LE.cat (LE.take (LE.rep (AL.int .i64 (IE.lit 0) (AL.int .i64 (IE.lit 0) (AL.int .i64 (IE.lit 0) AL.nil))) (IE.sub (IE.add (IE.add (IE.add (IE.lit 0) (IE.len (LE.rom 0))) (IE.lit 1)) (IE.lit 0)) (IE.lit 0))) (IE.lit 0)) (LE.rom 0)) (LE.drop (LE.rep (AL.int .i64 (IE.lit 0) (AL.int .i64 (IE.lit 0) (AL.int .i64 (IE.lit 0) AL.nil))) (IE.sub (IE.add (IE.add (IE.add (IE.lit 0) (IE.len (LE.rom 0))) (IE.lit 1)) (IE.lit 0)) (IE.lit 0))) (IE.len (LE.rom 0)))) (IE.add (IE.len (LE.rom 0)) (IE.lit 1)))) (IE.add (IE.len (LE.rom 0)) (IE.lit 1))) (LE.take (LE.rom 0) (IE.lit 0))) (LE.drop (LE.cat (LE.cat (LE.take (LE.cat (LE.cat (LE.take (LE.rep (AL.int .i64 (IE.lit 0) (AL.int .i64 (IE.lit 0) (AL.int .i64 (IE.lit 0) AL.nil))) (IE.sub (IE.add (IE.add (IE.add (IE.lit 0) (IE.len (LE.rom 0))) (IE.lit 1)) (IE.lit 0)) (IE.lit 0))) (IE.lit 0)) (LE.rom 0)) (LE.drop (LE.rep (AL.int .i64 (IE.lit 0) (AL.int .i64 (IE.lit 0) (AL.int .i64 (IE.lit 0) AL.nil))) (IE.sub (IE.add (IE.add (IE.add (IE.lit 0) (IE.len (LE.rom 0))) (IE.lit 1)) (IE.lit 0)) (IE.lit 0))) (IE.len (LE.rom 0)))) (IE.len (LE.rom 0))) (LE.one (AL.int .i64 (IE.var .i64 1) (AL.int .i64 (IE.var .i64 2) (AL.int .i64 (IE.var .i64 3) AL.nil))))) (LE.drop (LE.cat (LE.cat (LE.take (LE.rep (AL.int .i64 (IE.lit 0) (AL.int .i64 (IE.lit 0) (AL.int .i64 (IE.lit 0) AL.nil))) (IE.sub (IE.add (IE.add (IE.add (IE.lit 0) (IE.len (LE.rom 0))) (IE.lit 1)) (IE.lit 0)) (IE.lit 0))) (IE.lit 0)) (LE.rom 0)) (LE.drop (LE.rep (AL.int .i64 (IE.lit 0) (AL.int .i64 (IE.lit 0) (AL.int .i64 (IE.lit 0) AL.nil))) (IE.sub (IE.add (IE.add (IE.add (IE.lit 0) (IE.len (LE.rom 0))) (IE.lit 1)) (IE.lit 0)) (IE.lit 0))) (IE.len (LE.rom 0)))) (IE.add (IE.len (LE.rom 0)) (IE.lit 1)))) (IE.add (IE.len (LE.rom 0)) (IE.lit 1))))), (G.i (IE.len (LE.cat (LE.cat (LE.take (LE.rom 0) (IE.fn .i64 3 (AL.lst (LE.rom 0) (AL.int .i64 (IE.var .i64 1) AL.nil)))) (LE.one (AL.int .i64 (IE.var .i64 1) (AL.int .i64 (IE.var .i64 2) (AL.int .i64 (IE.var .i64 3) AL.nil))))) (LE.drop (LE.rom 0) (IE.fn .i64 3 (AL.lst (LE.rom 0) (AL.int .i64 (IE.var .i64 1) AL.nil)))))) (IE.sub (IE.add (IE.add (IE.add (IE.lit 0) (IE.len (LE.rom 0))) (IE.lit 1)) (IE.lit 0)) (IE.lit 0)))]))
def waddF1_1 : VW := (VW.done ((BE.not (BE.eq (IE.rcap 0) (IE.len (LE.rom 0)))) :: pcaddF1_1) (some [(G.i (IE.len (LE.cat (LE.cat (LE.take (LE.rom 0) (IE.fn .i64 3 (AL.lst (LE.rom 0) (AL.int .i64 (IE.var .i64 1) AL.nil)))) (LE.one (AL.int .i64 (IE.var .i64 1) (AL.int .i64 (IE.var .i64 2) (AL.int .i64 (IE.var .i64 3) AL.nil))))) (LE.drop (LE.rom 0) (IE.fn .i64 3 (AL.lst (LE.rom 0) (AL.int .i64 (IE.var .i64 1) AL.nil)))))) (IE.add (IE.len (LE.rom 0)) (IE.lit 1))), (G.l (LE.cat (LE.cat (LE.take (LE.rom 0) (IE.fn .i64 3 (AL.lst (LE.rom 0) (AL.int .i64 (IE.var .i64 1) AL.nil)))) (LE.one (AL.int .i64 (IE.var .i64 1) (AL.int .i64 (IE.var .i64 2) (AL.int .i64 (IE.var .i64 3) AL.nil))))) (LE.drop (LE.rom 0) (IE.fn .i64 3 (AL.lst (LE.rom 0) (AL.int .i64 (IE.var .i64 1) AL.nil))))) (LE.cat (LE.cat (LE.take (LE.cat (LE.cat (LE.take (LE.cat (LE.cat (LE.take (LE.rep (AL.int .i64 (IE.lit 0) (AL.int .i64 (IE.lit 0) (AL.int .i64 (IE.lit 0) AL.nil))) (IE.sub (IE.add (IE.add (IE.add (IE.lit 0) (IE.len (LE.rom 0))) (IE.lit 1)) (IE.lit 0)) (IE.lit 0))) (IE.lit 0)) (LE.rom 0)) (LE.drop (LE.rep (AL.int .i64 (IE.lit 0) (AL.int .i64 (IE.lit 0) (AL.int .i64 (IE.lit 0) AL.nil))) (IE.sub (IE.add (IE.add (IE.add (IE.lit 0) (IE.len (LE.rom 0))) (IE.lit 1)) (IE.lit 0)) (IE.lit 0))) (IE.len (LE.rom 0)))) (IE.len (LE.rom 0))) (LE.one (AL.int .i64 (IE.var .i64 1) (AL.int .i64 (IE.var .i64 2) (AL.int .i64 (IE.var .i64 3) AL.nil))))) (LE.drop (LE.cat (LE.cat (LE.take (LE.rep (AL.int .i64 (IE.lit 0) (AL.int .i64 (IE.lit 0) (AL.int .i64 (IE.lit 0) AL.nil))) (IE.sub (IE.add (IE.add (IE.add (IE.lit 0) (IE.len (LE.rom 0))) (IE.lit 1)) (IE.lit 0)) (IE.lit 0))) (IE.lit 0)) (LE.rom 0)) (LE.drop (LE.rep (AL.int .i64 (IE.lit 0) (AL.int .i64 (IE.lit 0) (AL.int .i64 (IE.lit 0) AL.nil))) (IE.sub (IE.add (IE.add (IE.add (IE.lit 0) (IE.len (LE.rom 0))) (IE.lit 1)) (IE.lit 0)) (IE.lit 0))) (IE.len (LE.rom 0)))) (IE.add (IE.len (LE.rom 0)) (IE.lit 1)))) (IE.add (IE.len (LE.rom 0)) (IE.lit 1))) (LE.drop (LE.rom 0) (IE.len (LE.rom 0)))) (LE.drop (LE.cat (LE.cat (LE.take (LE.cat (LE.cat (LE.take (LE.rep (AL.int .i64 (IE.lit 0) (AL.int .i64 (IE.lit 0) (AL.int .i64 (IE.lit 0) AL.nil))) (IE.sub (IE.add (IE.add (IE.add (IE.lit 0) (IE.len (LE.rom 0))) (IE.lit 1)) (IE.lit 0)) (IE.lit 0))) (IE.lit 0)) (LE.rom 0)) (LE.drop (LE.rep (AL.int .i64 (IE.lit 0) (AL.int .i64 (IE.lit 0) (AL.int .i64 (IE.lit 0) AL.nil))) (IE.sub (IE.add (IE.add (IE.add (IE.lit 0) (IE.len (LE.rom 0))) (IE.lit 1)) (IE.lit 0)) (IE.lit 0))) (IE.len (LE.rom 0)))) (IE.len (LE.rom 0))) (LE.one (AL.int .i64 (IE.var .i64 1) (AL.int .i64 (IE.var .i64 2) (AL.int .i64 (IE.var .i64 3) AL.nil))))) (LE.drop (LE.cat (LE.cat (LE.take (LE.rep (AL.int .i64 (IE.lit 0) (AL.int .i64 (IE.lit 0) (AL.int .i64 (IE.lit 0) AL.nil))) (IE.sub (IE.add (IE.add (IE.add (IE.lit 0) (IE.len (LE.rom 0))) (IE.lit 1)) (IE.lit 0)) (IE.lit 0))) (IE.lit 0)) (LE.rom 0)) (LE.drop (LE.rep (AL.int .i64 (IE.lit 0) (AL.int .i64 (IE.lit 0) (AL.int .i64 (IE.lit 0) AL.nil))) (IE.sub (IE.add (IE.add (IE.add (IE.lit 0) (IE.len (LE.rom 0))) (IE.lit 1)) (IE.lit 0)) (IE.lit 0))) (IE.len (LE.rom 0)))) (IE.add (IE.len (LE.rom 0)) (IE.lit 1)))) (IE.add (IE.len (LE.rom 0)) (IE.lit 1))))), (G.i (IE.len (LE.cat (LE.cat (LE.take (LE.rom 0) (IE.fn .i64 3 (AL.lst (LE.rom 0) (AL.int .i64 (IE.var .i64 1) AL.nil)))) (LE.one (AL.int .i64 (IE.var .i64 1) (AL.int .i64 (IE.var .i64 2) (AL.int .i64 (IE.var .i64 3) AL.nil))))) (LE.drop (LE.rom 0) (IE.fn .i64 3 (AL.lst (LE.rom 0) (AL.int .i64 (IE.var .i64 1) AL.nil)))))) (IE.sub (IE.add (IE.add (IE.add (IE.lit 0) (IE.len (LE.rom 0))) (IE.lit 1)) (IE.lit 0)) (IE.lit 0)))]))
def waddF1_2 : VW := (VW.cut 1 ((BE.le (IE.cel .i64 (LE.rom 0) (IE.var .i64 1000) 0) (IE.var .i64 1)) :: pcaddF1_2) (Sx.Sub.mk [(.i64, (1000, (IE.add (IE.var .i64 1000) (IE.lit 1))))] [] [] [] [] []))
def waddF1_3 : VW := (VW.done ((BE.not (BE.le (IE.cel .i64 (LE.rom 0) (IE.var .i64 1000) 0) (IE.var .i64 1))) :: pcaddF1_2) (some [(G.i (IE.len (LE.cat (LE.cat (LE.take (LE.rom 0) (IE.fn .i64 3 (AL.lst (LE.rom 0) (AL.int .i64 (IE.var .i64 1) AL.nil)))) (LE.one (AL.int .i64 (IE.var .i64 1) (AL.int .i64 (IE.var .i64 2) (AL.int .i64 (IE.var .i64 3) AL.nil))))) (LE.drop (LE.rom 0) (IE.fn .i64 3 (AL.lst (LE.rom 0) (AL.int .i64 (IE.var .i64 1) AL.nil)))))) (IE.add (IE.add (IE.var .i64 1000) (IE.lit 1)) (IE.sub (IE.len (LE.rom 0)) (IE.var .i64 1000)))), (G.l (LE.cat (LE.cat (LE.take (LE.rom 0) (IE.fn .i64 3 (AL.lst (LE.rom 0) (AL.int .i64 (IE.var .i64 1) AL.nil)))) (LE.one (AL.int .i64 (IE.var .i64 1) (AL.int .i64 (IE.var .i64 2) (AL.int .i64 (IE.var .i64 3) AL.nil))))) (LE.drop (LE.rom 0) (IE.fn .i64 3 (AL.lst (LE.rom 0) (AL.int .i64 (IE.var .i64 1) AL.nil))))) (LE.cat (LE.cat (LE.take (LE.cat (LE.cat (LE.take (LE.cat (LE.cat (LE.take (LE.rep (AL.int .i64 (IE.lit 0) (AL.int .i64 (IE.lit 0) (AL.int .i64 (IE.lit 0) AL.nil))) (IE.sub (IE.add (IE.add (IE.add (IE.lit 0) (IE.var .i64 1000)) (IE.lit 1)) (IE.sub (IE.len (LE.rom 0)) (IE.var .i64 1000))) (IE.lit 0))) (IE.lit 0)) (LE.take (LE.rom 0) (IE.var .i64 1000))) (LE.drop (LE.rep (AL.int .i64 (IE.lit 0) (AL.int .i64 (IE.lit 0) (AL.int .i64 (IE.lit 0) AL.nil))) (IE.sub (IE.add (IE.add (IE.add (IE.lit 0) (IE.var .i64 1000)) (IE.lit 1)) (IE.sub (IE.len (LE.rom 0)) (IE.var .i64 1000))) (IE.lit 0))) (IE.var .i64 1000))) (IE.var .i64 1000)) (LE.one (AL.int .i64 (IE.var .i64 1) (AL.int .i64 (IE.var .i64 2) (AL.int .i64 (IE.var .i64 3) AL.nil))))) (LE.drop (LE.cat (LE.cat (LE.take (LE.rep (AL.int .i64 (IE.lit 0) (AL.int .i64 (IE.lit 0) (AL.int .i64 (IE.lit 0) AL.nil))) (IE.sub (IE.add (IE.add (IE.add (IE.lit 0) (IE.var .i64 1000)) (IE.lit 1)) (IE.sub (IE.len (LE.rom 0)) (IE.var .i64 1000))) (IE.lit 0))) (IE.lit 0)) (LE.take (LE.rom 0) (IE.var .i64 1000))) (LE.drop (LE.rep (AL.int .i64 (IE.lit 0) (AL.int .i64 (IE.lit 0) (AL.int .i64 (IE.lit 0) AL.nil))) (IE.sub (IE.add (IE.add (IE.add (IE.lit 0) (IE.var .i64 1000)) (IE.lit 1)) (IE.sub (IE.len (LE.rom 0)) (IE.var .i64 1000))) (IE.lit 0))) (IE.var .i64 1000))) (IE.add (IE.var .i64 1000) (IE.lit 1)))) (IE.add (IE.var .i64 1000) (IE.lit 1))) (LE.drop (LE.rom 0) (IE.var .i64 1000))) (LE.drop (LE.cat (LE.cat (LE.take (LE.cat (LE.cat (LE.take (LE.rep (AL.int .i64 (IE.lit 0) (AL.int .i64 (IE.lit 0) (AL.int .i64 (IE.lit 0) AL.nil))) (IE.sub (IE.add (IE.add (IE.add (IE.lit 0) (IE.var .i64 1000)) (IE.lit 1)) (IE.sub (IE.len (LE.rom 0)) (IE.var .i64 1000))) (IE.lit 0))) (IE.lit 0)) (LE.take (LE.rom 0) (IE.var .i64 1000))) (LE.drop (LE.rep (AL.int .i64 (IE.lit 0) (AL.int .i64 (IE.lit 0) (AL.int .i64 (IE.lit 0) AL.nil))) (IE.sub (IE.add (IE.add (IE.add (IE.lit 0) (IE.var .i64 1000)) (IE.lit 1)) (IE.sub (IE.len (LE.rom 0)) (IE.var .i64 1000))) (IE.lit 0))) (IE.var .i64 1000))) (IE.var .i64 1000)) (LE.one (AL.int .i64 (IE.var .i64 1) (AL.int .i64 (IE.var .i64 2) (AL.int .i64 (IE.var .i64 3) AL.nil))))) (LE.drop (LE.cat (LE.cat (LE.take (LE.rep (AL.int .i64 (IE.lit 0) (AL.int .i64 (IE.lit 0) (AL.int .i64 (IE.lit 0) AL.nil))) (IE.sub (IE.add (IE.add (IE.add (IE.lit 0) (IE.var .i64 1000)) (IE.lit 1)) (IE.sub (IE.len (LE.rom 0)) (IE.var .i64 1000))) (IE.lit 0))) (IE.lit 0)) (LE.take (LE.rom 0) (IE.var .i64 1000))) (LE.drop (LE.rep (AL.int .i64 (IE.lit 0) (AL.int .i64 (IE.lit 0) (AL.int .i64 (IE.lit 0) AL.nil))) (IE.sub (IE.add (IE.add (IE.add (IE.lit 0) (IE.var .i64 1000)) (IE.lit 1)) (IE.sub (IE.len (LE.rom 0)) (IE.var .i64 1000))) (IE.lit 0))) (IE.var .i64 1000))) (IE.add (IE.var .i64 1000) (IE.lit 1)))) (IE.add (IE.add (IE.var .i64 1000) (IE.lit 1)) (IE.sub (IE.len (LE.rom 0)) (IE.var .i64 1000)))))), (G.i (IE.len (LE.cat (LE.cat (LE.take (LE.rom 0) (IE.fn .i64 3 (AL.lst (LE.rom 0) (AL.int .i64 (IE.var .i64 1) AL.nil)))) (LE.one (AL.int .i64 (IE.var .i64 1) (AL.int .i64 (IE.var .i64 2) (AL.int .i64 (IE.var .i64 3) AL.nil))))) (LE.drop (LE.rom 0) (IE.fn .i64 3 (AL.lst (LE.rom 0) (AL.int .i64 (IE.var .i64 1) AL.nil)))))) (IE.sub (IE.add (IE.add (IE.add (IE.lit 0) (IE.var .i64 1000)) (IE.lit 1)) (IE.sub (IE.len (LE.rom 0)) (IE.var .i64 1000))) (IE.lit 0)))]))
def vwaddF1 : List VW := [waddF1_0, waddF1_1, waddF1_2, waddF1_3]
def vwaddF : Nat → List VW
  | 0 => vwaddF0
  | 1 => vwaddF1
  | _ => []
end
def invaddF : Nat → Lt → Prop
  | 1, l => overN (l.z.rl 0) (l.i .i64 1) (l.i .i64 1000).toNat = (l.i .i64 1000).toNat
  | _, _ => True
def msaddF : Nat → Lt → Nat
  | 0, l => (l.z.rl 0).length + 1
  | 1, l => (l.z.rl 0).length - (l.i .i64 1000).toNat
  | _, _ => 0
theorem vcaddF0_0 : VC TTaddF invaddF msaddF 0 (startF 39 cAddF.pat (.lit true :: cAddF.pre)) waddF0_0 := by
  intro ρ kn hi hp
  have hF : ρ.z.F = hold.Φ := kn.F
  simp only [h_nil, h_cons, d_le, d_eq, d_not, d_var, d_lit, d_cel, d_leq, d_fn, d_and, d_iff, IE.den, LE.den, AL.den, lenV, true_and, and_true, hF, pi1, pi2, pi3, pi4, pl2, pb1, pb2, pb3, pb4, pb5, pb6] at hp
  obtain ⟨p1, p2, p3, p4, p5, p6, p7, p8, p9, p10⟩ := hp
  refine (show (overN (ρ.z.rl 0) (ρ.i .i64 1) (0 : Int).toNat = (0 : Int).toNat) ∧ (((ρ.z.rl 0).length - (0 : Int).toNat : Nat) < (ρ.z.rl 0).length + 1) from ?_)
  exact ⟨rfl, by omega⟩
def ivaddF1 (ρ : Rho) : Prop := overN (ρ.z.rl 0) (ρ.i .i64 1) (ρ.i .i64 1000).toNat = (ρ.i .i64 1000).toNat
theorem vcaddF1_0 : VC TTaddF invaddF msaddF 1 taddF1 waddF1_0 := by
  intro ρ kn hi hp
  have hi : ivaddF1 ρ := hi
  unfold ivaddF1 at hi
  have hF : ρ.z.F = hold.Φ := kn.F
  simp only [h_nil, h_cons, d_le, d_eq, d_not, d_var, d_lit, d_cel, d_leq, d_fn, d_and, d_iff, IE.den, LE.den, AL.den, lenV, true_and, and_true, pcaddF1_1, pcaddF1_0, hF, pi1, pi2, pi3, pi4, pl2, pb1, pb2, pb3, pb4, pb5, pb6] at hp
  obtain ⟨p1, p2, p3, p4, p5, p6, p7, p8, p9, p10, p11, p12, p13, p14⟩ := hp
  refine all_cons (show ((((((ρ.z.rl 0).take (clampK .i64 (ρ.z.F.i 3 [.lst (ρ.z.rl 0), .int .i64 (ρ.i .i64 1)])).toNat) ++ ([[Go.Value.int .i64 (ρ.i .i64 1), Go.Value.int .i64 (ρ.i .i64 2), Go.Value.int .i64 (ρ.i .i64 3)]] : LV)) ++ ((ρ.z.rl 0).drop (clampK .i64 (ρ.z.F.i 3 [.lst (ρ.z.rl 0), .int .i64 (ρ.i .i64 1)])).toNat)).length : Nat) : Int) = ((((ρ.z.rl 0).length : Nat) : Int) + (1 : Int)) from ?_) (all_cons (show ((((ρ.z.rl 0).take (clampK .i64 (ρ.z.F.i 3 [.lst (ρ.z.rl 0), .int .i64 (ρ.i .i64 1)])).toNat) ++ ([[Go.Value.int .i64 (ρ.i .i64 1), Go.Value.int .i64 (ρ.i .i64 2), Go.Value.int .i64 (ρ.i .i64 3)]] : LV)) ++ ((ρ.z.rl 0).drop (clampK .i64 (ρ.z.F.i 3 [.lst (ρ.z.rl 0), .int .i64 (ρ.i .i64 1)])).toNat)) = ((((((((((List.replicate (((((0 : Int) + (((ρ.z.rl 0).length : Nat) : Int)) + (1 : Int)) + (0 : Int)) - (0 : Int)).toNat [Go.Value.int .i64 (0 : Int), Go.Value.int .i64 (0 : Int), Go.Value.int .i64 (0 : Int)]).take (0 : Int).toNat) ++ (ρ.z.rl 0)) ++ ((List.replicate (((((0 : Int) + (((ρ.z.rl 0).length : Nat) : Int)) + (1 : Int)) + (0 : Int)) - (0 : Int)).toNat [Go.Value.int .i64 (0 : Int), Go.Value.int .i64 (0 : Int), Go.Value.int .i64 (0 : Int)]).drop (((ρ.z.rl 0).length : Nat) : Int).toNat)).take (((ρ.z.rl 0).length : Nat) : Int).toNat) ++ ([[Go.Value.int .i64 (ρ.i .i64 1), Go.Value.int .i64 (ρ.i .i64 2), Go.Value.int .i64 (ρ.i .i64 3)]] : LV)) ++ (((((List.replicate (((((0 : Int) + (((ρ.z.rl 0).length : Nat) : Int)) + (1 : Int)) + (0 : Int)) - (0 : Int)).toNat [Go.Value.int .i64 (0 : Int), Go.Value.int .i64 (0 : Int), Go.Value.int .i64 (0 : Int)]).take (0 : Int).toNat) ++ (ρ.z.rl 0)) ++ ((List.replicate (((((0 : Int) + (((ρ.z.rl 0).length : Nat) : Int)) + (1 : Int)) + (0 : Int)) - (0 : Int)).toNat [Go.Value.int .i64 (0 : Int), Go.Value.int .i64 (0 : Int), Go.Value.int .i64 (0 : Int)]).drop (((ρ.z.rl 0).length : Nat) : Int).toNat)).drop ((((ρ.z.rl 0).length : Nat) : Int) + (1 : Int)).toNat)).take ((((ρ.z.rl 0).length : Nat) : Int) + (1 : Int)).toNat) ++ ((ρ.z.rl 0).take (0 : Int).toNat)) ++ ((((((((List.replicate (((((0 : Int) + (((ρ.z.rl 0).length : Nat) : Int)) + (1 : Int)) + (0 : Int)) - (0 : Int)).toNat [Go.Value.int .i64 (0 : Int), Go.Value.int .i64 (0 : Int), Go.Value.int .i64 (0 : Int)]).take (0 : Int).toNat) ++ (ρ.z.rl 0)) ++ ((List.replicate (((((0 : Int) + (((ρ.z.rl 0).length : Nat) : Int)) + (1 : Int)) + (0 : Int)) - (0 : Int)).toNat [Go.Value.int .i64 (0 : Int), Go.Value.int .i64 (0 : Int), Go.Value.int .i64 (0 : Int)]).drop (((ρ.z.rl 0).length : Nat) : Int).toNat)).take (((ρ.z.rl 0).length : Nat) : Int).toNat) ++ ([[Go.Value.int .i64 (ρ.i .i64 1), Go.Value.int .i64 (ρ.i .i64 2), Go.Value.int .i64 (ρ.i .i64 3)]] : LV)) ++ (((((List.replicate (((((0 : Int) + (((ρ.z.rl 0).length : Nat) : Int)) + (1 : Int)) + (0 : Int)) - (0 : Int)).toNat [Go.Value.int .i64 (0 : Int), Go.Value.int .i64 (0 : Int), Go.Value.int .i64 (0 : Int)]).take (0 : Int).toNat) ++ (ρ.z.rl 0)) ++ ((List.replicate (((((0 : Int) + (((ρ.z.rl 0).length : Nat) : Int)) + (1 : Int)) + (0 : Int)) - (0 : Int)).toNat [Go.Value.int .i64 (0 : Int), Go.Value.int .i64 (0 : Int), Go.Value.int .i64 (0 : Int)]).drop (((ρ.z.rl 0).length : Nat) : Int).toNat)).drop ((((ρ.z.rl 0).length : Nat) : Int) + (1 : Int)).toNat)).drop ((((ρ.z.rl 0).length : Nat) : Int) + (1 : Int)).toNat)) from ?_) (all_cons (show ((((((ρ.z.rl 0).take (clampK .i64 (ρ.z.F.i 3 [.lst (ρ.z.rl 0), .int .i64 (ρ.i .i64 1)])).toNat) ++ ([[Go.Value.int .i64 (ρ.i .i64 1), Go.Value.int .i64 (ρ.i .i64 2), Go.Value.int .i64 (ρ.i .i64 3)]] : LV)) ++ ((ρ.z.rl 0).drop (clampK .i64 (ρ.z.F.i 3 [.lst (ρ.z.rl 0), .int .i64 (ρ.i .i64 1)])).toNat)).length : Nat) : Int) = (((((0 : Int) + (((ρ.z.rl 0).length : Nat) : Int)) + (1 : Int)) + (0 : Int)) - (0 : Int)) from ?_) (all_nil)))
  all_goals try simp only [hF, pi1, pi2, pi3, pi4, pl2, pb1, pb2, pb3, pb4, pb5, pb6]
  all_goals
    have fc := first_le (fun k => decide (atI (ρ.z.rl 0) k 0 = ρ.i .i64 1)) (ρ.z.rl 0).length
    have fd : findN (ρ.z.rl 0) (ρ.i .i64 1) (ρ.z.rl 0).length ≤ (ρ.z.rl 0).length := fc
    have fe : clampK .i64 ((findN (ρ.z.rl 0) (ρ.i .i64 1) (ρ.z.rl 0).length : Nat) : Int) = ((findN (ρ.z.rl 0) (ρ.i .i64 1) (ρ.z.rl 0).length : Nat) : Int) := clampS (by omega) (by omega)
    obtain ⟨c1, c2⟩ := over_cl (R := ρ.z.rl 0) (s := ρ.i .i64 1) (by omega)
    simp only [fe] at *
    have e : ((overN (ρ.z.rl 0) (ρ.i .i64 1) (ρ.z.rl 0).length : Nat) : Int) = ρ.i .i64 1000 := (over_miss (by omega) (by omega) (by omega) hi).trans (by omega)
    have k1 : (overN (ρ.z.rl 0) (ρ.i .i64 1) (ρ.z.rl 0).length : Nat) = (ρ.i .i64 1000).toNat := by omega
    simp only [c1]
    simp only [Int.toNat_natCast]
    simp only [k1]
  · rw [ins_len rfl (by omega)]; (try omega)
  ·
    refine Eq.symm ((put3 rfl (by rw [List.length_replicate]; omega) (by omega) rfl (by omega) (by simp)).trans ?_)
    have i0 : (ρ.i .i64 1000).toNat = (ρ.z.rl 0).length := by omega
    rw [i0, List.take_of_length_le (Nat.le_refl _), List.drop_eq_nil_of_le (Nat.le_refl _)]
    rfl
  · rw [ins_len rfl (by omega)]; (try omega)
theorem vcaddF1_1 : VC TTaddF invaddF msaddF 1 taddF1 waddF1_1 := by
  intro ρ kn hi hp
  have hi : ivaddF1 ρ := hi
  unfold ivaddF1 at hi
  have hF : ρ.z.F = hold.Φ := kn.F
  simp only [h_nil, h_cons, d_le, d_eq, d_not, d_var, d_lit, d_cel, d_leq, d_fn, d_and, d_iff, IE.den, LE.den, AL.den, lenV, true_and, and_true, pcaddF1_1, pcaddF1_0, hF, pi1, pi2, pi3, pi4, pl2, pb1, pb2, pb3, pb4, pb5, pb6] at hp
  obtain ⟨p1, p2, p3, p4, p5, p6, p7, p8, p9, p10, p11, p12, p13, p14⟩ := hp
  refine all_cons (show ((((((ρ.z.rl 0).take (clampK .i64 (ρ.z.F.i 3 [.lst (ρ.z.rl 0), .int .i64 (ρ.i .i64 1)])).toNat) ++ ([[Go.Value.int .i64 (ρ.i .i64 1), Go.Value.int .i64 (ρ.i .i64 2), Go.Value.int .i64 (ρ.i .i64 3)]] : LV)) ++ ((ρ.z.rl 0).drop (clampK .i64 (ρ.z.F.i 3 [.lst (ρ.z.rl 0), .int .i64 (ρ.i .i64 1)])).toNat)).length : Nat) : Int) = ((((ρ.z.rl 0).length : Nat) : Int) + (1 : Int)) from ?_) (all_cons (show ((((ρ.z.rl 0).take (clampK .i64 (ρ.z.F.i 3 [.lst (ρ.z.rl 0), .int .i64 (ρ.i .i64 1)])).toNat) ++ ([[Go.Value.int .i64 (ρ.i .i64 1), Go.Value.int .i64 (ρ.i .i64 2), Go.Value.int .i64 (ρ.i .i64 3)]] : LV)) ++ ((ρ.z.rl 0).drop (clampK .i64 (ρ.z.F.i 3 [.lst (ρ.z.rl 0), .int .i64 (ρ.i .i64 1)])).toNat)) = ((((((((((List.replicate (((((0 : Int) + (((ρ.z.rl 0).length : Nat) : Int)) + (1 : Int)) + (0 : Int)) - (0 : Int)).toNat [Go.Value.int .i64 (0 : Int), Go.Value.int .i64 (0 : Int), Go.Value.int .i64 (0 : Int)]).take (0 : Int).toNat) ++ (ρ.z.rl 0)) ++ ((List.replicate (((((0 : Int) + (((ρ.z.rl 0).length : Nat) : Int)) + (1 : Int)) + (0 : Int)) - (0 : Int)).toNat [Go.Value.int .i64 (0 : Int), Go.Value.int .i64 (0 : Int), Go.Value.int .i64 (0 : Int)]).drop (((ρ.z.rl 0).length : Nat) : Int).toNat)).take (((ρ.z.rl 0).length : Nat) : Int).toNat) ++ ([[Go.Value.int .i64 (ρ.i .i64 1), Go.Value.int .i64 (ρ.i .i64 2), Go.Value.int .i64 (ρ.i .i64 3)]] : LV)) ++ (((((List.replicate (((((0 : Int) + (((ρ.z.rl 0).length : Nat) : Int)) + (1 : Int)) + (0 : Int)) - (0 : Int)).toNat [Go.Value.int .i64 (0 : Int), Go.Value.int .i64 (0 : Int), Go.Value.int .i64 (0 : Int)]).take (0 : Int).toNat) ++ (ρ.z.rl 0)) ++ ((List.replicate (((((0 : Int) + (((ρ.z.rl 0).length : Nat) : Int)) + (1 : Int)) + (0 : Int)) - (0 : Int)).toNat [Go.Value.int .i64 (0 : Int), Go.Value.int .i64 (0 : Int), Go.Value.int .i64 (0 : Int)]).drop (((ρ.z.rl 0).length : Nat) : Int).toNat)).drop ((((ρ.z.rl 0).length : Nat) : Int) + (1 : Int)).toNat)).take ((((ρ.z.rl 0).length : Nat) : Int) + (1 : Int)).toNat) ++ ((ρ.z.rl 0).drop (((ρ.z.rl 0).length : Nat) : Int).toNat)) ++ ((((((((List.replicate (((((0 : Int) + (((ρ.z.rl 0).length : Nat) : Int)) + (1 : Int)) + (0 : Int)) - (0 : Int)).toNat [Go.Value.int .i64 (0 : Int), Go.Value.int .i64 (0 : Int), Go.Value.int .i64 (0 : Int)]).take (0 : Int).toNat) ++ (ρ.z.rl 0)) ++ ((List.replicate (((((0 : Int) + (((ρ.z.rl 0).length : Nat) : Int)) + (1 : Int)) + (0 : Int)) - (0 : Int)).toNat [Go.Value.int .i64 (0 : Int), Go.Value.int .i64 (0 : Int), Go.Value.int .i64 (0 : Int)]).drop (((ρ.z.rl 0).length : Nat) : Int).toNat)).take (((ρ.z.rl 0).length : Nat) : Int).toNat) ++ ([[Go.Value.int .i64 (ρ.i .i64 1), Go.Value.int .i64 (ρ.i .i64 2), Go.Value.int .i64 (ρ.i .i64 3)]] : LV)) ++ (((((List.replicate (((((0 : Int) + (((ρ.z.rl 0).length : Nat) : Int)) + (1 : Int)) + (0 : Int)) - (0 : Int)).toNat [Go.Value.int .i64 (0 : Int), Go.Value.int .i64 (0 : Int), Go.Value.int .i64 (0 : Int)]).take (0 : Int).toNat) ++ (ρ.z.rl 0)) ++ ((List.replicate (((((0 : Int) + (((ρ.z.rl 0).length : Nat) : Int)) + (1 : Int)) + (0 : Int)) - (0 : Int)).toNat [Go.Value.int .i64 (0 : Int), Go.Value.int .i64 (0 : Int), Go.Value.int .i64 (0 : Int)]).drop (((ρ.z.rl 0).length : Nat) : Int).toNat)).drop ((((ρ.z.rl 0).length : Nat) : Int) + (1 : Int)).toNat)).drop ((((ρ.z.rl 0).length : Nat) : Int) + (1 : Int)).toNat)) from ?_) (all_cons (show ((((((ρ.z.rl 0).take (clampK .i64 (ρ.z.F.i 3 [.lst (ρ.z.rl 0), .int .i64 (ρ.i .i64 1)])).toNat) ++ ([[Go.Value.int .i64 (ρ.i .i64 1), Go.Value.int .i64 (ρ.i .i64 2), Go.Value.int .i64 (ρ.i .i64 3)]] : LV)) ++ ((ρ.z.rl 0).drop (clampK .i64 (ρ.z.F.i 3 [.lst (ρ.z.rl 0), .int .i64 (ρ.i .i64 1)])).toNat)).length : Nat) : Int) = (((((0 : Int) + (((ρ.z.rl 0).length : Nat) : Int)) + (1 : Int)) + (0 : Int)) - (0 : Int)) from ?_) (all_nil)))
  all_goals try simp only [hF, pi1, pi2, pi3, pi4, pl2, pb1, pb2, pb3, pb4, pb5, pb6]
  all_goals
    have fc := first_le (fun k => decide (atI (ρ.z.rl 0) k 0 = ρ.i .i64 1)) (ρ.z.rl 0).length
    have fd : findN (ρ.z.rl 0) (ρ.i .i64 1) (ρ.z.rl 0).length ≤ (ρ.z.rl 0).length := fc
    have fe : clampK .i64 ((findN (ρ.z.rl 0) (ρ.i .i64 1) (ρ.z.rl 0).length : Nat) : Int) = ((findN (ρ.z.rl 0) (ρ.i .i64 1) (ρ.z.rl 0).length : Nat) : Int) := clampS (by omega) (by omega)
    obtain ⟨c1, c2⟩ := over_cl (R := ρ.z.rl 0) (s := ρ.i .i64 1) (by omega)
    simp only [fe] at *
    have e : ((overN (ρ.z.rl 0) (ρ.i .i64 1) (ρ.z.rl 0).length : Nat) : Int) = ρ.i .i64 1000 := (over_miss (by omega) (by omega) (by omega) hi).trans (by omega)
    have k1 : (overN (ρ.z.rl 0) (ρ.i .i64 1) (ρ.z.rl 0).length : Nat) = (ρ.i .i64 1000).toNat := by omega
    simp only [c1]
    simp only [Int.toNat_natCast]
    simp only [k1]
  · rw [ins_len rfl (by omega)]; (try omega)
  ·
    refine Eq.symm ((put3 rfl (by rw [List.length_replicate]; omega) (by omega) rfl (by omega) (by rw [List.length_drop]; omega)).trans ?_)
    have i0 : (ρ.i .i64 1000).toNat = (ρ.z.rl 0).length := by omega
    rw [i0, List.take_of_length_le (Nat.le_refl _), List.drop_eq_nil_of_le (Nat.le_refl _)]
  · rw [ins_len rfl (by omega)]; (try omega)
theorem vcaddF1_2 : VC TTaddF invaddF msaddF 1 taddF1 waddF1_2 := by
  intro ρ kn hi hp
  have hi : ivaddF1 ρ := hi
  unfold ivaddF1 at hi
  have hF : ρ.z.F = hold.Φ := kn.F
  simp only [h_nil, h_cons, d_le, d_eq, d_not, d_var, d_lit, d_cel, d_leq, d_fn, d_and, d_iff, IE.den, LE.den, AL.den, lenV, true_and, and_true, pcaddF1_2, pcaddF1_0, hF, pi1, pi2, pi3, pi4, pl2, pb1, pb2, pb3, pb4, pb5, pb6] at hp
  obtain ⟨p1, p2, p3, p4, p5, p6, p7, p8, p9, p10, p11, p12, p13, p14⟩ := hp
  refine (show (overN (ρ.z.rl 0) (ρ.i .i64 1) ((ρ.i .i64 1000) + (1 : Int)).toNat = ((ρ.i .i64 1000) + (1 : Int)).toNat) ∧ (((ρ.z.rl 0).length - ((ρ.i .i64 1000) + (1 : Int)).toNat : Nat) < (ρ.z.rl 0).length - (ρ.i .i64 1000).toNat) from ?_)
  exact ⟨over_go (by omega) hi (by omega), by omega⟩
theorem vcaddF1_3 : VC TTaddF invaddF msaddF 1 taddF1 waddF1_3 := by
  intro ρ kn hi hp
  have hi : ivaddF1 ρ := hi
  unfold ivaddF1 at hi
  have hF : ρ.z.F = hold.Φ := kn.F
  simp only [h_nil, h_cons, d_le, d_eq, d_not, d_var, d_lit, d_cel, d_leq, d_fn, d_and, d_iff, IE.den, LE.den, AL.den, lenV, true_and, and_true, pcaddF1_2, pcaddF1_0, hF, pi1, pi2, pi3, pi4, pl2, pb1, pb2, pb3, pb4, pb5, pb6] at hp
  obtain ⟨p1, p2, p3, p4, p5, p6, p7, p8, p9, p10, p11, p12, p13, p14⟩ := hp
  refine all_cons (show ((((((ρ.z.rl 0).take (clampK .i64 (ρ.z.F.i 3 [.lst (ρ.z.rl 0), .int .i64 (ρ.i .i64 1)])).toNat) ++ ([[Go.Value.int .i64 (ρ.i .i64 1), Go.Value.int .i64 (ρ.i .i64 2), Go.Value.int .i64 (ρ.i .i64 3)]] : LV)) ++ ((ρ.z.rl 0).drop (clampK .i64 (ρ.z.F.i 3 [.lst (ρ.z.rl 0), .int .i64 (ρ.i .i64 1)])).toNat)).length : Nat) : Int) = (((ρ.i .i64 1000) + (1 : Int)) + ((((ρ.z.rl 0).length : Nat) : Int) - (ρ.i .i64 1000))) from ?_) (all_cons (show ((((ρ.z.rl 0).take (clampK .i64 (ρ.z.F.i 3 [.lst (ρ.z.rl 0), .int .i64 (ρ.i .i64 1)])).toNat) ++ ([[Go.Value.int .i64 (ρ.i .i64 1), Go.Value.int .i64 (ρ.i .i64 2), Go.Value.int .i64 (ρ.i .i64 3)]] : LV)) ++ ((ρ.z.rl 0).drop (clampK .i64 (ρ.z.F.i 3 [.lst (ρ.z.rl 0), .int .i64 (ρ.i .i64 1)])).toNat)) = ((((((((((List.replicate (((((0 : Int) + (ρ.i .i64 1000)) + (1 : Int)) + ((((ρ.z.rl 0).length : Nat) : Int) - (ρ.i .i64 1000))) - (0 : Int)).toNat [Go.Value.int .i64 (0 : Int), Go.Value.int .i64 (0 : Int), Go.Value.int .i64 (0 : Int)]).take (0 : Int).toNat) ++ ((ρ.z.rl 0).take (ρ.i .i64 1000).toNat)) ++ ((List.replicate (((((0 : Int) + (ρ.i .i64 1000)) + (1 : Int)) + ((((ρ.z.rl 0).length : Nat) : Int) - (ρ.i .i64 1000))) - (0 : Int)).toNat [Go.Value.int .i64 (0 : Int), Go.Value.int .i64 (0 : Int), Go.Value.int .i64 (0 : Int)]).drop (ρ.i .i64 1000).toNat)).take (ρ.i .i64 1000).toNat) ++ ([[Go.Value.int .i64 (ρ.i .i64 1), Go.Value.int .i64 (ρ.i .i64 2), Go.Value.int .i64 (ρ.i .i64 3)]] : LV)) ++ (((((List.replicate (((((0 : Int) + (ρ.i .i64 1000)) + (1 : Int)) + ((((ρ.z.rl 0).length : Nat) : Int) - (ρ.i .i64 1000))) - (0 : Int)).toNat [Go.Value.int .i64 (0 : Int), Go.Value.int .i64 (0 : Int), Go.Value.int .i64 (0 : Int)]).take (0 : Int).toNat) ++ ((ρ.z.rl 0).take (ρ.i .i64 1000).toNat)) ++ ((List.replicate (((((0 : Int) + (ρ.i .i64 1000)) + (1 : Int)) + ((((ρ.z.rl 0).length : Nat) : Int) - (ρ.i .i64 1000))) - (0 : Int)).toNat [Go.Value.int .i64 (0 : Int), Go.Value.int .i64 (0 : Int), Go.Value.int .i64 (0 : Int)]).drop (ρ.i .i64 1000).toNat)).drop ((ρ.i .i64 1000) + (1 : Int)).toNat)).take ((ρ.i .i64 1000) + (1 : Int)).toNat) ++ ((ρ.z.rl 0).drop (ρ.i .i64 1000).toNat)) ++ ((((((((List.replicate (((((0 : Int) + (ρ.i .i64 1000)) + (1 : Int)) + ((((ρ.z.rl 0).length : Nat) : Int) - (ρ.i .i64 1000))) - (0 : Int)).toNat [Go.Value.int .i64 (0 : Int), Go.Value.int .i64 (0 : Int), Go.Value.int .i64 (0 : Int)]).take (0 : Int).toNat) ++ ((ρ.z.rl 0).take (ρ.i .i64 1000).toNat)) ++ ((List.replicate (((((0 : Int) + (ρ.i .i64 1000)) + (1 : Int)) + ((((ρ.z.rl 0).length : Nat) : Int) - (ρ.i .i64 1000))) - (0 : Int)).toNat [Go.Value.int .i64 (0 : Int), Go.Value.int .i64 (0 : Int), Go.Value.int .i64 (0 : Int)]).drop (ρ.i .i64 1000).toNat)).take (ρ.i .i64 1000).toNat) ++ ([[Go.Value.int .i64 (ρ.i .i64 1), Go.Value.int .i64 (ρ.i .i64 2), Go.Value.int .i64 (ρ.i .i64 3)]] : LV)) ++ (((((List.replicate (((((0 : Int) + (ρ.i .i64 1000)) + (1 : Int)) + ((((ρ.z.rl 0).length : Nat) : Int) - (ρ.i .i64 1000))) - (0 : Int)).toNat [Go.Value.int .i64 (0 : Int), Go.Value.int .i64 (0 : Int), Go.Value.int .i64 (0 : Int)]).take (0 : Int).toNat) ++ ((ρ.z.rl 0).take (ρ.i .i64 1000).toNat)) ++ ((List.replicate (((((0 : Int) + (ρ.i .i64 1000)) + (1 : Int)) + ((((ρ.z.rl 0).length : Nat) : Int) - (ρ.i .i64 1000))) - (0 : Int)).toNat [Go.Value.int .i64 (0 : Int), Go.Value.int .i64 (0 : Int), Go.Value.int .i64 (0 : Int)]).drop (ρ.i .i64 1000).toNat)).drop ((ρ.i .i64 1000) + (1 : Int)).toNat)).drop (((ρ.i .i64 1000) + (1 : Int)) + ((((ρ.z.rl 0).length : Nat) : Int) - (ρ.i .i64 1000))).toNat)) from ?_) (all_cons (show ((((((ρ.z.rl 0).take (clampK .i64 (ρ.z.F.i 3 [.lst (ρ.z.rl 0), .int .i64 (ρ.i .i64 1)])).toNat) ++ ([[Go.Value.int .i64 (ρ.i .i64 1), Go.Value.int .i64 (ρ.i .i64 2), Go.Value.int .i64 (ρ.i .i64 3)]] : LV)) ++ ((ρ.z.rl 0).drop (clampK .i64 (ρ.z.F.i 3 [.lst (ρ.z.rl 0), .int .i64 (ρ.i .i64 1)])).toNat)).length : Nat) : Int) = (((((0 : Int) + (ρ.i .i64 1000)) + (1 : Int)) + ((((ρ.z.rl 0).length : Nat) : Int) - (ρ.i .i64 1000))) - (0 : Int)) from ?_) (all_nil)))
  all_goals try simp only [hF, pi1, pi2, pi3, pi4, pl2, pb1, pb2, pb3, pb4, pb5, pb6]
  all_goals
    have fc := first_le (fun k => decide (atI (ρ.z.rl 0) k 0 = ρ.i .i64 1)) (ρ.z.rl 0).length
    have fd : findN (ρ.z.rl 0) (ρ.i .i64 1) (ρ.z.rl 0).length ≤ (ρ.z.rl 0).length := fc
    have fe : clampK .i64 ((findN (ρ.z.rl 0) (ρ.i .i64 1) (ρ.z.rl 0).length : Nat) : Int) = ((findN (ρ.z.rl 0) (ρ.i .i64 1) (ρ.z.rl 0).length : Nat) : Int) := clampS (by omega) (by omega)
    obtain ⟨c1, c2⟩ := over_cl (R := ρ.z.rl 0) (s := ρ.i .i64 1) (by omega)
    simp only [fe] at *
    have e : ((overN (ρ.z.rl 0) (ρ.i .i64 1) (ρ.z.rl 0).length : Nat) : Int) = ρ.i .i64 1000 := over_hit (by omega) (by omega) hi (by omega)
    have k1 : (overN (ρ.z.rl 0) (ρ.i .i64 1) (ρ.z.rl 0).length : Nat) = (ρ.i .i64 1000).toNat := by omega
    simp only [c1]
    simp only [Int.toNat_natCast]
    simp only [k1]
  · rw [ins_len rfl (by omega)]; (try omega)
  ·
    refine Eq.symm ((put3 rfl (by rw [List.length_replicate]; omega) (by rw [List.length_take]; omega) rfl (by omega) (by rw [List.length_drop]; omega)).trans ?_)
    rfl
  · rw [ins_len rfl (by omega)]; (try omega)
theorem vcsaddF0 : ∀ v ∈ vwaddF 0, VC TTaddF invaddF msaddF 0 (startF 39 cAddF.pat (.lit true :: cAddF.pre)) v := all_cons vcaddF0_0 (all_nil)
theorem okaddF0 : cfgOk (startF 39 cAddF.pat (.lit true :: cAddF.pre)) = true := by kernel_rfl
theorem sgaddF0 : segL cAddF.roms cAddF (seg TTaddF seladdF 9000 tmaddF (startF 39 cAddF.pat (.lit true :: cAddF.pre))) = (true, codesR tmaddF (views (seg TTaddF seladdF 9000 tmaddF (startF 39 cAddF.pat (.lit true :: cAddF.pre)))), vwaddF 0) := by kernel_rfl
theorem vcsaddF1 : ∀ v ∈ vwaddF 1, VC TTaddF invaddF msaddF 1 taddF1 v := all_cons vcaddF1_0 (all_cons vcaddF1_1 (all_cons vcaddF1_2 (all_cons vcaddF1_3 (all_nil))))
theorem okaddF1 : cfgOk taddF1 = true := by kernel_rfl
theorem sgaddF1 : segL cAddF.roms cAddF (seg TTaddF seladdF 9000 tmaddF taddF1) = (true, codesR tmaddF (views (seg TTaddF seladdF 9000 tmaddF taddF1)), vwaddF 1) := by kernel_rfl
theorem lnaddF0 : ∀ ρ, Known TTaddF (startF 39 cAddF.pat (.lit true :: cAddF.pre)) ρ → invaddF 0 ρ.lt → Holds ρ (leanOf (Cfg.pc (startF 39 cAddF.pat (.lit true :: cAddF.pre)))) := by
  intro ρ _ _
  exact (show Holds ρ [] from fun p hp => by cases hp)
theorem lnaddF1 : ∀ ρ, Known TTaddF taddF1 ρ → invaddF 1 ρ.lt → Holds ρ (leanOf (Cfg.pc taddF1)) := by
  intro ρ _ _
  exact (show Holds ρ [] from fun p hp => by cases hp)
theorem told_addF : Sx.Told hold.Φ cAddF := by
  refine told_of (cs := [cRightP, cRightR, cAt, cRF0, cRFin, cRFout, cFits, cRFits, cSame, cMayM, cRightM]) (all_cons told_rightP (all_cons told_rightR (all_cons told_at (all_cons told_rf0 (all_cons told_rfin (all_cons told_rfout (all_cons told_fits (all_cons told_rfits (all_cons told_same (all_cons told_mayM (all_cons told_rightM (all_nil)))))))))))) (sel := seladdF) 9000 tmaddF invaddF msaddF vwaddF 0 (pc0 := (.lit true :: cAddF.pre)) (by kernel_rfl) (by kernel_rfl) (by kernel_rfl) post_addF ?_ ?_ ?_ rfl (fun ρ _ h => h.cons (p := .lit true) (by simp only [BE.den])) (fun _ _ _ _ => trivial) ?_
  · intro k C h
    have := lk_mem h
    simp only [tmaddF, List.mem_cons, Prod.mk.injEq, List.not_mem_nil, or_false] at this
    rcases this with ⟨rfl, rfl⟩ | ⟨rfl, rfl⟩
    · exact okaddF0
    · exact okaddF1
  · intro k C h
    have := lk_mem h
    simp only [tmaddF, List.mem_cons, Prod.mk.injEq, List.not_mem_nil, or_false] at this
    rcases this with ⟨rfl, rfl⟩ | ⟨rfl, rfl⟩
    · exact sgaddF0
    · exact sgaddF1
  · intro k C h
    have := lk_mem h
    simp only [tmaddF, List.mem_cons, Prod.mk.injEq, List.not_mem_nil, or_false] at this
    rcases this with ⟨rfl, rfl⟩ | ⟨rfl, rfl⟩
    · exact vcsaddF0
    · exact vcsaddF1
  · intro k C h
    have := lk_mem h
    simp only [tmaddF, List.mem_cons, Prod.mk.injEq, List.not_mem_nil, or_false] at this
    rcases this with ⟨rfl, rfl⟩ | ⟨rfl, rfl⟩
    · exact lnaddF0
    · exact lnaddF1
noncomputable section
abbrev TTaddR : Tab := T hold.Φ cAddR.roms [cRightP, cRightR, cAt, cRF0, cRFin, cRFout, cFits, cRFits, cSame, cMayM, cRightM]
def taddR1 : Cfg := { top := ⟨40, over (opqS 10000 53) [(0, (SV.rom 0 (IE.lit 0) (IE.len (LE.rom 0)) none)), (3, (SV.ptr 0 0)), (6, (SV.int .i64 (IE.var .i64 1000)))], ogt (loopTodo (bodyOf (T hold.Φ [] []) 40) 0), [], false, none⟩, rest := [], heap := [(0, .cells [(SV.int .i64 (IE.var .i64 1)), (SV.int .i64 (IE.var .i64 2)), (SV.int .i64 (IE.var .i64 3))] 68)], next := 1, pc := .lit true :: ([] ++ [(BE.fn 5 (AL.lst (LE.rom 0) (AL.int .i64 (IE.var .i64 3) AL.nil))), (BE.le (IE.len (LE.rom 0)) (IE.fn .i64 2 (AL.lst (LE.rom 0) (AL.int .i64 (IE.var .i64 1) AL.nil)))), (BE.fn 2 (AL.int .i64 (IE.var .i64 1) (AL.int .i64 (IE.var .i64 2) (AL.int .i64 (IE.var .i64 3) AL.nil)))), (BE.le (IE.var .i64 3) (IE.lit 5)), (BE.le (IE.lit 1) (IE.var .i64 3)), (BE.fn 4 (AL.lst (LE.rom 0) AL.nil)), (BE.le (IE.len (LE.rom 0)) (IE.lit 1000)), (BE.le (IE.lit 1) (IE.len (LE.rom 0))), (BE.le (IE.lit 0) (IE.var .i64 1000)), (BE.le (IE.var .i64 1000) (IE.len (LE.rom 0)))]) }
def tmaddR : List (Nat × Cfg) := [(0, startF 40 cAddR.pat (.lit true :: cAddR.pre)), (1, taddR1)]
def seladdR : Sel := [(40, 1, 0, 1)]
def waddR0_0 : VW := (VW.cut 1 [(BE.lit true), (BE.le (IE.lit 1) (IE.len (LE.rom 0))), (BE.le (IE.len (LE.rom 0)) (IE.lit 1000)), (BE.fn 4 (AL.lst (LE.rom 0) AL.nil)), (BE.le (IE.lit 1) (IE.var .i64 3)), (BE.le (IE.var .i64 3) (IE.lit 5)), (BE.fn 2 (AL.int .i64 (IE.var .i64 1) (AL.int .i64 (IE.var .i64 2) (AL.int .i64 (IE.var .i64 3) AL.nil)))), (BE.le (IE.len (LE.rom 0)) (IE.fn .i64 2 (AL.lst (LE.rom 0) (AL.int .i64 (IE.var .i64 1) AL.nil)))), (BE.fn 5 (AL.lst (LE.rom 0) (AL.int .i64 (IE.var .i64 3) AL.nil)))] (Sx.Sub.mk [(.i64, (1000, (IE.lit 0)))] [] [] [] [] []))
def vwaddR0 : List VW := [waddR0_0]
def pcaddR1_0 : List BE := [(BE.lit true), (BE.fn 5 (AL.lst (LE.rom 0) (AL.int .i64 (IE.var .i64 3) AL.nil))), (BE.le (IE.len (LE.rom 0)) (IE.fn .i64 2 (AL.lst (LE.rom 0) (AL.int .i64 (IE.var .i64 1) AL.nil)))), (BE.fn 2 (AL.int .i64 (IE.var .i64 1) (AL.int .i64 (IE.var .i64 2) (AL.int .i64 (IE.var .i64 3) AL.nil)))), (BE.le (IE.var .i64 3) (IE.lit 5)), (BE.le (IE.lit 1) (IE.var .i64 3)), (BE.fn 4 (AL.lst (LE.rom 0) AL.nil)), (BE.le (IE.len (LE.rom 0)) (IE.lit 1000)), (BE.le (IE.lit 1) (IE.len (LE.rom 0))), (BE.le (IE.lit 0) (IE.var .i64 1000)), (BE.le (IE.var .i64 1000) (IE.len (LE.rom 0)))]
def pcaddR1_1 : List BE := ((BE.le (IE.len (LE.rom 0)) (IE.var .i64 1000)) :: pcaddR1_0)
def pcaddR1_2 : List BE := ((BE.not (BE.le (IE.len (LE.rom 0)) (IE.var .i64 1000))) :: pcaddR1_0)
def pcaddR1_3 : List BE := ((BE.le (IE.var .i64 1) (IE.cel .i64 (LE.rom 0) (IE.var .i64 1000) 0)) :: pcaddR1_2)
def waddR1_0 : VW := (VW.done ((BE.eq (IE.rcap 0) (IE.var .i64 1000)) :: pcaddR1_1) (some [(G.i (IE.len (LE.cat (LE.cat (LE.take (LE.rom 0) (IE.fn .i64 3 (AL.lst (LE.rom 0) (AL.int .i64 (IE.var .i64 1) AL.nil)))) (LE.one (AL.int .i64 (IE.var .i64 1) (AL.int .i64 (IE.var .i64 2) (AL.int .i64 (IE.var .i64 3) AL.nil))))) (LE.drop (LE.rom 0) (IE.fn .i64 3 (AL.lst (LE.rom 0) (AL.int .i64 (IE.var .i64 1) AL.nil)))))) (IE.add (IE.add (IE.var .i64 1000) (IE.lit 1)) (IE.sub (IE.len (LE.rom 0)) (IE.var .i64 1000)))), (G.l (LE.cat (LE.cat (LE.take (LE.rom 0) (IE.fn .i64 3 (AL.lst (LE.rom 0) (AL.int .i64 (IE.var .i64 1) AL.nil)))) (LE.one (AL.int .i64 (IE.var .i64 1) (AL.int .i64 (IE.var .i64 2) (AL.int .i64 (IE.var .i64 3) AL.nil))))) (LE.drop (LE.rom 0) (IE.fn .i64 3 (AL.lst (LE.rom 0) (AL.int .i64 (IE.var .i64 1) AL.nil))))) (LE.cat (LE.cat (LE.cat (LE.take (LE.rom 0) (IE.var .i64 1000)) (LE.one (AL.int .i64 (IE.var .i64 1) (AL.int .i64 (IE.var .i64 2) (AL.int .i64 (IE.var .i64 3) AL.nil))))) (LE.take (LE.rom 0) (IE.sub (IE.len (LE.rom 0)) (IE.var .i64 1000)))) (LE.drop (LE.cat (LE.take (LE.rom 0) (IE.var .i64 1000)) (LE.one (AL.int .i64 (IE.var .i64 1) (AL.int .i64 (IE.var .i64 2) (AL.int .i64 (IE.var .i64 3) AL.nil))))) (IE.add (IE.add (IE.var .i64 1000) (IE.lit 1)) (IE.sub (IE.len (LE.rom 0)) (IE.var .i64 1000)))))), (G.i (IE.len (LE.cat (LE.cat (LE.take (LE.rom 0) (IE.fn .i64 3 (AL.lst (LE.rom 0) (AL.int .i64 (IE.var .i64 1) AL.nil)))) (LE.one (AL.int .i64 (IE.var .i64 1) (AL.int .i64 (IE.var .i64 2) (AL.int .i64 (IE.var .i64 3) AL.nil))))) (LE.drop (LE.rom 0) (IE.fn .i64 3 (AL.lst (LE.rom 0) (AL.int .i64 (IE.var .i64 1) AL.nil)))))) (IE.add (IE.var .i64 1000) (IE.lit 1)))]))
def waddR1_1 : VW := (VW.done ((BE.not (BE.eq (IE.rcap 0) (IE.var .i64 1000))) :: pcaddR1_1) (some [(G.i (IE.len (LE.cat (LE.cat (LE.take (LE.rom 0) (IE.fn .i64 3 (AL.lst (LE.rom 0) (AL.int .i64 (IE.var .i64 1) AL.nil)))) (LE.one (AL.int .i64 (IE.var .i64 1) (AL.int .i64 (IE.var .i64 2) (AL.int .i64 (IE.var .i64 3) AL.nil))))) (LE.drop (LE.rom 0) (IE.fn .i64 3 (AL.lst (LE.rom 0) (AL.int .i64 (IE.var .i64 1) AL.nil)))))) (IE.add (IE.add (IE.var .i64 1000) (IE.lit 1)) (IE.sub (IE.len (LE.rom 0)) (IE.var .i64 1000)))), (G.l (LE.cat (LE.cat (LE.take (LE.rom 0) (IE.fn .i64 3 (AL.lst (LE.rom 0) (AL.int .i64 (IE.var .i64 1) AL.nil)))) (LE.one (AL.int .i64 (IE.var .i64 1) (AL.int .i64 (IE.var .i64 2) (AL.int .i64 (IE.var .i64 3) AL.nil))))) (LE.drop (LE.rom 0) (IE.fn .i64 3 (AL.lst (LE.rom 0) (AL.int .i64 (IE.var .i64 1) AL.nil))))) (LE.cat (LE.cat (LE.cat (LE.take (LE.rom 0) (IE.var .i64 1000)) (LE.one (AL.int .i64 (IE.var .i64 1) (AL.int .i64 (IE.var .i64 2) (AL.int .i64 (IE.var .i64 3) AL.nil))))) (LE.drop (LE.rom 0) (IE.var .i64 1000))) (LE.drop (LE.cat (LE.take (LE.rom 0) (IE.var .i64 1000)) (LE.one (AL.int .i64 (IE.var .i64 1) (AL.int .i64 (IE.var .i64 2) (AL.int .i64 (IE.var .i64 3) AL.nil))))) (IE.add (IE.add (IE.var .i64 1000) (IE.lit 1)) (IE.sub (IE.len (LE.rom 0)) (IE.var .i64 1000)))))), (G.i (IE.len (LE.cat (LE.cat (LE.take (LE.rom 0) (IE.fn .i64 3 (AL.lst (LE.rom 0) (AL.int .i64 (IE.var .i64 1) AL.nil)))) (LE.one (AL.int .i64 (IE.var .i64 1) (AL.int .i64 (IE.var .i64 2) (AL.int .i64 (IE.var .i64 3) AL.nil))))) (LE.drop (LE.rom 0) (IE.fn .i64 3 (AL.lst (LE.rom 0) (AL.int .i64 (IE.var .i64 1) AL.nil)))))) (IE.add (IE.var .i64 1000) (IE.lit 1)))]))
def waddR1_2 : VW := (VW.done ((BE.le (IE.var .i64 1000) (IE.lit 0)) :: pcaddR1_3) (some [(G.i (IE.len (LE.cat (LE.cat (LE.take (LE.rom 0) (IE.fn .i64 3 (AL.lst (LE.rom 0) (AL.int .i64 (IE.var .i64 1) AL.nil)))) (LE.one (AL.int .i64 (IE.var .i64 1) (AL.int .i64 (IE.var .i64 2) (AL.int .i64 (IE.var .i64 3) AL.nil))))) (LE.drop (LE.rom 0) (IE.fn .i64 3 (AL.lst (LE.rom 0) (AL.int .i64 (IE.var .i64 1) AL.nil)))))) (IE.add (IE.lit 1) (IE.sub (IE.len (LE.rom 0)) (IE.var .i64 1000)))), (G.l (LE.cat (LE.cat (LE.take (LE.rom 0) (IE.fn .i64 3 (AL.lst (LE.rom 0) (AL.int .i64 (IE.var .i64 1) AL.nil)))) (LE.one (AL.int .i64 (IE.var .i64 1) (AL.int .i64 (IE.var .i64 2) (AL.int .i64 (IE.var .i64 3) AL.nil))))) (LE.drop (LE.rom 0) (IE.fn .i64 3 (AL.lst (LE.rom 0) (AL.int .i64 (IE.var .i64 1) AL.nil))))) (LE.cat (LE.one (AL.int .i64 (IE.var .i64 1) (AL.int .i64 (IE.var .i64 2) (AL.int .i64 (IE.var .i64 3) AL.nil)))) (LE.drop (LE.rom 0) (IE.var .i64 1000)))), (G.i (IE.len (LE.cat (LE.cat (LE.take (LE.rom 0) (IE.fn .i64 3 (AL.lst (LE.rom 0) (AL.int .i64 (IE.var .i64 1) AL.nil)))) (LE.one (AL.int .i64 (IE.var .i64 1) (AL.int .i64 (IE.var .i64 2) (AL.int .i64 (IE.var .i64 3) AL.nil))))) (LE.drop (LE.rom 0) (IE.fn .i64 3 (AL.lst (LE.rom 0) (AL.int .i64 (IE.var .i64 1) AL.nil)))))) (IE.add (IE.lit 1) (IE.sub (IE.len (LE.rom 0)) (IE.var .i64 1000))))]))
def waddR1_3 : VW := (VW.done ((BE.not (BE.le (IE.var .i64 1000) (IE.lit 0))) :: pcaddR1_3) (some [(G.i (IE.len (LE.cat (LE.cat (LE.take (LE.rom 0) (IE.fn .i64 3 (AL.lst (LE.rom 0) (AL.int .i64 (IE.var .i64 1) AL.nil)))) (LE.one (AL.int .i64 (IE.var .i64 1) (AL.int .i64 (IE.var .i64 2) (AL.int .i64 (IE.var .i64 3) AL.nil))))) (LE.drop (LE.rom 0) (IE.fn .i64 3 (AL.lst (LE.rom 0) (AL.int .i64 (IE.var .i64 1) AL.nil)))))) (IE.add (IE.add (IE.var .i64 1000) (IE.lit 1)) (IE.sub (IE.len (LE.rom 0)) (IE.var .i64 1000)))), (G.l (LE.cat (LE.cat (LE.take (LE.rom 0) (IE.fn .i64 3 (AL.lst (LE.rom 0) (AL.int .i64 (IE.var .i64 1) AL.nil)))) (LE.one (AL.int .i64 (IE.var .i64 1) (AL.int .i64 (IE.var .i64 2) (AL.int .i64 (IE.var .i64 3) AL.nil))))) (LE.drop (LE.rom 0) (IE.fn .i64 3 (AL.lst (LE.rom 0) (AL.int .i64 (IE.var .i64 1) AL.nil))))) (LE.cat (LE.cat (LE.take (LE.rom 0) (IE.var .i64 1000)) (LE.one (AL.int .i64 (IE.var .i64 1) (AL.int .i64 (IE.var .i64 2) (AL.int .i64 (IE.var .i64 3) AL.nil))))) (LE.drop (LE.rom 0) (IE.var .i64 1000)))), (G.i (IE.len (LE.cat (LE.cat (LE.take (LE.rom 0) (IE.fn .i64 3 (AL.lst (LE.rom 0) (AL.int .i64 (IE.var .i64 1) AL.nil)))) (LE.one (AL.int .i64 (IE.var .i64 1) (AL.int .i64 (IE.var .i64 2) (AL.int .i64 (IE.var .i64 3) AL.nil))))) (LE.drop (LE.rom 0) (IE.fn .i64 3 (AL.lst (LE.rom 0) (AL.int .i64 (IE.var .i64 1) AL.nil)))))) (IE.add (IE.add (IE.var .i64 1000) (IE.lit 1)) (IE.sub (IE.len (LE.rom 0)) (IE.var .i64 1000))))]))
def waddR1_4 : VW := (VW.cut 1 ((BE.not (BE.le (IE.var .i64 1) (IE.cel .i64 (LE.rom 0) (IE.var .i64 1000) 0))) :: pcaddR1_2) (Sx.Sub.mk [(.i64, (1000, (IE.add (IE.var .i64 1000) (IE.lit 1))))] [] [] [] [] []))
def vwaddR1 : List VW := [waddR1_0, waddR1_1, waddR1_2, waddR1_3, waddR1_4]
def vwaddR : Nat → List VW
  | 0 => vwaddR0
  | 1 => vwaddR1
  | _ => []
end
def invaddR : Nat → Lt → Prop
  | 1, l => overN (l.z.rl 0) (l.i .i64 1) (l.i .i64 1000).toNat = (l.i .i64 1000).toNat
  | _, _ => True
def msaddR : Nat → Lt → Nat
  | 0, l => (l.z.rl 0).length + 1
  | 1, l => (l.z.rl 0).length - (l.i .i64 1000).toNat
  | _, _ => 0
theorem vcaddR0_0 : VC TTaddR invaddR msaddR 0 (startF 40 cAddR.pat (.lit true :: cAddR.pre)) waddR0_0 := by
  intro ρ kn hi hp
  have hF : ρ.z.F = hold.Φ := kn.F
  simp only [h_nil, h_cons, d_le, d_eq, d_not, d_var, d_lit, d_cel, d_leq, d_fn, d_and, d_iff, IE.den, LE.den, AL.den, lenV, true_and, and_true, hF, pi1, pi2, pi3, pi4, pl2, pb1, pb2, pb3, pb4, pb5, pb6] at hp
  obtain ⟨p1, p2, p3, p4, p5, p6, p7, p8⟩ := hp
  refine (show (overN (ρ.z.rl 0) (ρ.i .i64 1) (0 : Int).toNat = (0 : Int).toNat) ∧ (((ρ.z.rl 0).length - (0 : Int).toNat : Nat) < (ρ.z.rl 0).length + 1) from ?_)
  exact ⟨rfl, by omega⟩
def ivaddR1 (ρ : Rho) : Prop := overN (ρ.z.rl 0) (ρ.i .i64 1) (ρ.i .i64 1000).toNat = (ρ.i .i64 1000).toNat
theorem vcaddR1_0 : VC TTaddR invaddR msaddR 1 taddR1 waddR1_0 := by
  intro ρ kn hi hp
  have hi : ivaddR1 ρ := hi
  unfold ivaddR1 at hi
  have hF : ρ.z.F = hold.Φ := kn.F
  simp only [h_nil, h_cons, d_le, d_eq, d_not, d_var, d_lit, d_cel, d_leq, d_fn, d_and, d_iff, IE.den, LE.den, AL.den, lenV, true_and, and_true, pcaddR1_1, pcaddR1_0, hF, pi1, pi2, pi3, pi4, pl2, pb1, pb2, pb3, pb4, pb5, pb6] at hp
  obtain ⟨p1, p2, p3, p4, p5, p6, p7, p8, p9, p10, p11, p12⟩ := hp
  refine all_cons (show ((((((ρ.z.rl 0).take (clampK .i64 (ρ.z.F.i 3 [.lst (ρ.z.rl 0), .int .i64 (ρ.i .i64 1)])).toNat) ++ ([[Go.Value.int .i64 (ρ.i .i64 1), Go.Value.int .i64 (ρ.i .i64 2), Go.Value.int .i64 (ρ.i .i64 3)]] : LV)) ++ ((ρ.z.rl 0).drop (clampK .i64 (ρ.z.F.i 3 [.lst (ρ.z.rl 0), .int .i64 (ρ.i .i64 1)])).toNat)).length : Nat) : Int) = (((ρ.i .i64 1000) + (1 : Int)) + ((((ρ.z.rl 0).length : Nat) : Int) - (ρ.i .i64 1000))) from ?_) (all_cons (show ((((ρ.z.rl 0).take (clampK .i64 (ρ.z.F.i 3 [.lst (ρ.z.rl 0), .int .i64 (ρ.i .i64 1)])).toNat) ++ ([[Go.Value.int .i64 (ρ.i .i64 1), Go.Value.int .i64 (ρ.i .i64 2), Go.Value.int .i64 (ρ.i .i64 3)]] : LV)) ++ ((ρ.z.rl 0).drop (clampK .i64 (ρ.z.F.i 3 [.lst (ρ.z.rl 0), .int .i64 (ρ.i .i64 1)])).toNat)) = (((((ρ.z.rl 0).take (ρ.i .i64 1000).toNat) ++ ([[Go.Value.int .i64 (ρ.i .i64 1), Go.Value.int .i64 (ρ.i .i64 2), Go.Value.int .i64 (ρ.i .i64 3)]] : LV)) ++ ((ρ.z.rl 0).take ((((ρ.z.rl 0).length : Nat) : Int) - (ρ.i .i64 1000)).toNat)) ++ ((((ρ.z.rl 0).take (ρ.i .i64 1000).toNat) ++ ([[Go.Value.int .i64 (ρ.i .i64 1), Go.Value.int .i64 (ρ.i .i64 2), Go.Value.int .i64 (ρ.i .i64 3)]] : LV)).drop (((ρ.i .i64 1000) + (1 : Int)) + ((((ρ.z.rl 0).length : Nat) : Int) - (ρ.i .i64 1000))).toNat)) from ?_) (all_cons (show ((((((ρ.z.rl 0).take (clampK .i64 (ρ.z.F.i 3 [.lst (ρ.z.rl 0), .int .i64 (ρ.i .i64 1)])).toNat) ++ ([[Go.Value.int .i64 (ρ.i .i64 1), Go.Value.int .i64 (ρ.i .i64 2), Go.Value.int .i64 (ρ.i .i64 3)]] : LV)) ++ ((ρ.z.rl 0).drop (clampK .i64 (ρ.z.F.i 3 [.lst (ρ.z.rl 0), .int .i64 (ρ.i .i64 1)])).toNat)).length : Nat) : Int) = ((ρ.i .i64 1000) + (1 : Int)) from ?_) (all_nil)))
  all_goals try simp only [hF, pi1, pi2, pi3, pi4, pl2, pb1, pb2, pb3, pb4, pb5, pb6]
  all_goals
    have fc := first_le (fun k => decide (atI (ρ.z.rl 0) k 0 = ρ.i .i64 1)) (ρ.z.rl 0).length
    have fd : findN (ρ.z.rl 0) (ρ.i .i64 1) (ρ.z.rl 0).length ≤ (ρ.z.rl 0).length := fc
    have fe : clampK .i64 ((findN (ρ.z.rl 0) (ρ.i .i64 1) (ρ.z.rl 0).length : Nat) : Int) = ((findN (ρ.z.rl 0) (ρ.i .i64 1) (ρ.z.rl 0).length : Nat) : Int) := clampS (by omega) (by omega)
    obtain ⟨c1, c2⟩ := over_cl (R := ρ.z.rl 0) (s := ρ.i .i64 1) (by omega)
    simp only [fe] at *
    have e : ((overN (ρ.z.rl 0) (ρ.i .i64 1) (ρ.z.rl 0).length : Nat) : Int) = ρ.i .i64 1000 := (over_miss (by omega) (by omega) (by omega) hi).trans (by omega)
    have k1 : (overN (ρ.z.rl 0) (ρ.i .i64 1) (ρ.z.rl 0).length : Nat) = (ρ.i .i64 1000).toNat := by omega
    simp only [c1]
    simp only [Int.toNat_natCast]
    simp only [k1]
  · rw [ins_len rfl (by omega)]; (try omega)
  · have i0 : (ρ.i .i64 1000).toNat = (ρ.z.rl 0).length := by omega
    rw [i0, show (((ρ.z.rl 0).length : Int) - ρ.i .i64 1000).toNat = 0 by omega, List.take_zero, List.append_nil, List.drop_eq_nil_of_le (Nat.le_refl _), List.append_nil]
    rw [List.drop_eq_nil_of_le (by rw [List.length_append, List.length_take]; simp; omega), List.append_nil]
  · rw [ins_len rfl (by omega)]; (try omega)
theorem vcaddR1_1 : VC TTaddR invaddR msaddR 1 taddR1 waddR1_1 := by
  intro ρ kn hi hp
  have hi : ivaddR1 ρ := hi
  unfold ivaddR1 at hi
  have hF : ρ.z.F = hold.Φ := kn.F
  simp only [h_nil, h_cons, d_le, d_eq, d_not, d_var, d_lit, d_cel, d_leq, d_fn, d_and, d_iff, IE.den, LE.den, AL.den, lenV, true_and, and_true, pcaddR1_1, pcaddR1_0, hF, pi1, pi2, pi3, pi4, pl2, pb1, pb2, pb3, pb4, pb5, pb6] at hp
  obtain ⟨p1, p2, p3, p4, p5, p6, p7, p8, p9, p10, p11, p12⟩ := hp
  refine all_cons (show ((((((ρ.z.rl 0).take (clampK .i64 (ρ.z.F.i 3 [.lst (ρ.z.rl 0), .int .i64 (ρ.i .i64 1)])).toNat) ++ ([[Go.Value.int .i64 (ρ.i .i64 1), Go.Value.int .i64 (ρ.i .i64 2), Go.Value.int .i64 (ρ.i .i64 3)]] : LV)) ++ ((ρ.z.rl 0).drop (clampK .i64 (ρ.z.F.i 3 [.lst (ρ.z.rl 0), .int .i64 (ρ.i .i64 1)])).toNat)).length : Nat) : Int) = (((ρ.i .i64 1000) + (1 : Int)) + ((((ρ.z.rl 0).length : Nat) : Int) - (ρ.i .i64 1000))) from ?_) (all_cons (show ((((ρ.z.rl 0).take (clampK .i64 (ρ.z.F.i 3 [.lst (ρ.z.rl 0), .int .i64 (ρ.i .i64 1)])).toNat) ++ ([[Go.Value.int .i64 (ρ.i .i64 1), Go.Value.int .i64 (ρ.i .i64 2), Go.Value.int .i64 (ρ.i .i64 3)]] : LV)) ++ ((ρ.z.rl 0).drop (clampK .i64 (ρ.z.F.i 3 [.lst (ρ.z.rl 0), .int .i64 (ρ.i .i64 1)])).toNat)) = (((((ρ.z.rl 0).take (ρ.i .i64 1000).toNat) ++ ([[Go.Value.int .i64 (ρ.i .i64 1), Go.Value.int .i64 (ρ.i .i64 2), Go.Value.int .i64 (ρ.i .i64 3)]] : LV)) ++ ((ρ.z.rl 0).drop (ρ.i .i64 1000).toNat)) ++ ((((ρ.z.rl 0).take (ρ.i .i64 1000).toNat) ++ ([[Go.Value.int .i64 (ρ.i .i64 1), Go.Value.int .i64 (ρ.i .i64 2), Go.Value.int .i64 (ρ.i .i64 3)]] : LV)).drop (((ρ.i .i64 1000) + (1 : Int)) + ((((ρ.z.rl 0).length : Nat) : Int) - (ρ.i .i64 1000))).toNat)) from ?_) (all_cons (show ((((((ρ.z.rl 0).take (clampK .i64 (ρ.z.F.i 3 [.lst (ρ.z.rl 0), .int .i64 (ρ.i .i64 1)])).toNat) ++ ([[Go.Value.int .i64 (ρ.i .i64 1), Go.Value.int .i64 (ρ.i .i64 2), Go.Value.int .i64 (ρ.i .i64 3)]] : LV)) ++ ((ρ.z.rl 0).drop (clampK .i64 (ρ.z.F.i 3 [.lst (ρ.z.rl 0), .int .i64 (ρ.i .i64 1)])).toNat)).length : Nat) : Int) = ((ρ.i .i64 1000) + (1 : Int)) from ?_) (all_nil)))
  all_goals try simp only [hF, pi1, pi2, pi3, pi4, pl2, pb1, pb2, pb3, pb4, pb5, pb6]
  all_goals
    have fc := first_le (fun k => decide (atI (ρ.z.rl 0) k 0 = ρ.i .i64 1)) (ρ.z.rl 0).length
    have fd : findN (ρ.z.rl 0) (ρ.i .i64 1) (ρ.z.rl 0).length ≤ (ρ.z.rl 0).length := fc
    have fe : clampK .i64 ((findN (ρ.z.rl 0) (ρ.i .i64 1) (ρ.z.rl 0).length : Nat) : Int) = ((findN (ρ.z.rl 0) (ρ.i .i64 1) (ρ.z.rl 0).length : Nat) : Int) := clampS (by omega) (by omega)
    obtain ⟨c1, c2⟩ := over_cl (R := ρ.z.rl 0) (s := ρ.i .i64 1) (by omega)
    simp only [fe] at *
    have e : ((overN (ρ.z.rl 0) (ρ.i .i64 1) (ρ.z.rl 0).length : Nat) : Int) = ρ.i .i64 1000 := (over_miss (by omega) (by omega) (by omega) hi).trans (by omega)
    have k1 : (overN (ρ.z.rl 0) (ρ.i .i64 1) (ρ.z.rl 0).length : Nat) = (ρ.i .i64 1000).toNat := by omega
    simp only [c1]
    simp only [Int.toNat_natCast]
    simp only [k1]
  · rw [ins_len rfl (by omega)]; (try omega)
  · rw [@List.drop_eq_nil_of_le (List Value) (List.take (ρ.i .i64 1000).toNat (ρ.z.rl 0) ++ [[Value.int .i64 (ρ.i .i64 1), Value.int .i64 (ρ.i .i64 2), Value.int .i64 (ρ.i .i64 3)]]) _ (by rw [List.length_append, List.length_take, List.length_cons, List.length_nil]; omega), List.append_nil]
  · rw [ins_len rfl (by omega)]; (try omega)
theorem vcaddR1_2 : VC TTaddR invaddR msaddR 1 taddR1 waddR1_2 := by
  intro ρ kn hi hp
  have hi : ivaddR1 ρ := hi
  unfold ivaddR1 at hi
  have hF : ρ.z.F = hold.Φ := kn.F
  simp only [h_nil, h_cons, d_le, d_eq, d_not, d_var, d_lit, d_cel, d_leq, d_fn, d_and, d_iff, IE.den, LE.den, AL.den, lenV, true_and, and_true, pcaddR1_3, pcaddR1_2, pcaddR1_0, hF, pi1, pi2, pi3, pi4, pl2, pb1, pb2, pb3, pb4, pb5, pb6] at hp
  obtain ⟨p1, p2, p3, p4, p5, p6, p7, p8, p9, p10, p11, p12, p13⟩ := hp
  refine all_cons (show ((((((ρ.z.rl 0).take (clampK .i64 (ρ.z.F.i 3 [.lst (ρ.z.rl 0), .int .i64 (ρ.i .i64 1)])).toNat) ++ ([[Go.Value.int .i64 (ρ.i .i64 1), Go.Value.int .i64 (ρ.i .i64 2), Go.Value.int .i64 (ρ.i .i64 3)]] : LV)) ++ ((ρ.z.rl 0).drop (clampK .i64 (ρ.z.F.i 3 [.lst (ρ.z.rl 0), .int .i64 (ρ.i .i64 1)])).toNat)).length : Nat) : Int) = ((1 : Int) + ((((ρ.z.rl 0).length : Nat) : Int) - (ρ.i .i64 1000))) from ?_) (all_cons (show ((((ρ.z.rl 0).take (clampK .i64 (ρ.z.F.i 3 [.lst (ρ.z.rl 0), .int .i64 (ρ.i .i64 1)])).toNat) ++ ([[Go.Value.int .i64 (ρ.i .i64 1), Go.Value.int .i64 (ρ.i .i64 2), Go.Value.int .i64 (ρ.i .i64 3)]] : LV)) ++ ((ρ.z.rl 0).drop (clampK .i64 (ρ.z.F.i 3 [.lst (ρ.z.rl 0), .int .i64 (ρ.i .i64 1)])).toNat)) = (([[Go.Value.int .i64 (ρ.i .i64 1), Go.Value.int .i64 (ρ.i .i64 2), Go.Value.int .i64 (ρ.i .i64 3)]] : LV) ++ ((ρ.z.rl 0).drop (ρ.i .i64 1000).toNat)) from ?_) (all_cons (show ((((((ρ.z.rl 0).take (clampK .i64 (ρ.z.F.i 3 [.lst (ρ.z.rl 0), .int .i64 (ρ.i .i64 1)])).toNat) ++ ([[Go.Value.int .i64 (ρ.i .i64 1), Go.Value.int .i64 (ρ.i .i64 2), Go.Value.int .i64 (ρ.i .i64 3)]] : LV)) ++ ((ρ.z.rl 0).drop (clampK .i64 (ρ.z.F.i 3 [.lst (ρ.z.rl 0), .int .i64 (ρ.i .i64 1)])).toNat)).length : Nat) : Int) = ((1 : Int) + ((((ρ.z.rl 0).length : Nat) : Int) - (ρ.i .i64 1000))) from ?_) (all_nil)))
  all_goals try simp only [hF, pi1, pi2, pi3, pi4, pl2, pb1, pb2, pb3, pb4, pb5, pb6]
  all_goals
    have fc := first_le (fun k => decide (atI (ρ.z.rl 0) k 0 = ρ.i .i64 1)) (ρ.z.rl 0).length
    have fd : findN (ρ.z.rl 0) (ρ.i .i64 1) (ρ.z.rl 0).length ≤ (ρ.z.rl 0).length := fc
    have fe : clampK .i64 ((findN (ρ.z.rl 0) (ρ.i .i64 1) (ρ.z.rl 0).length : Nat) : Int) = ((findN (ρ.z.rl 0) (ρ.i .i64 1) (ρ.z.rl 0).length : Nat) : Int) := clampS (by omega) (by omega)
    obtain ⟨c1, c2⟩ := over_cl (R := ρ.z.rl 0) (s := ρ.i .i64 1) (by omega)
    simp only [fe] at *
    have e : ((overN (ρ.z.rl 0) (ρ.i .i64 1) (ρ.z.rl 0).length : Nat) : Int) = ρ.i .i64 1000 := over_hit (by omega) (by omega) hi (by have := find_ne (R := ρ.z.rl 0) (s := ρ.i .i64 1) (i := ρ.i .i64 1000) (by omega) (by omega) (by omega); omega)
    have k1 : (overN (ρ.z.rl 0) (ρ.i .i64 1) (ρ.z.rl 0).length : Nat) = (ρ.i .i64 1000).toNat := by omega
    simp only [c1]
    simp only [Int.toNat_natCast]
    simp only [k1]
  · rw [ins_len rfl (by omega)]; (try omega)
  · rw [show (ρ.i .i64 1000).toNat = 0 by omega]; rfl
  · rw [ins_len rfl (by omega)]; (try omega)
theorem vcaddR1_3 : VC TTaddR invaddR msaddR 1 taddR1 waddR1_3 := by
  intro ρ kn hi hp
  have hi : ivaddR1 ρ := hi
  unfold ivaddR1 at hi
  have hF : ρ.z.F = hold.Φ := kn.F
  simp only [h_nil, h_cons, d_le, d_eq, d_not, d_var, d_lit, d_cel, d_leq, d_fn, d_and, d_iff, IE.den, LE.den, AL.den, lenV, true_and, and_true, pcaddR1_3, pcaddR1_2, pcaddR1_0, hF, pi1, pi2, pi3, pi4, pl2, pb1, pb2, pb3, pb4, pb5, pb6] at hp
  obtain ⟨p1, p2, p3, p4, p5, p6, p7, p8, p9, p10, p11, p12, p13⟩ := hp
  refine all_cons (show ((((((ρ.z.rl 0).take (clampK .i64 (ρ.z.F.i 3 [.lst (ρ.z.rl 0), .int .i64 (ρ.i .i64 1)])).toNat) ++ ([[Go.Value.int .i64 (ρ.i .i64 1), Go.Value.int .i64 (ρ.i .i64 2), Go.Value.int .i64 (ρ.i .i64 3)]] : LV)) ++ ((ρ.z.rl 0).drop (clampK .i64 (ρ.z.F.i 3 [.lst (ρ.z.rl 0), .int .i64 (ρ.i .i64 1)])).toNat)).length : Nat) : Int) = (((ρ.i .i64 1000) + (1 : Int)) + ((((ρ.z.rl 0).length : Nat) : Int) - (ρ.i .i64 1000))) from ?_) (all_cons (show ((((ρ.z.rl 0).take (clampK .i64 (ρ.z.F.i 3 [.lst (ρ.z.rl 0), .int .i64 (ρ.i .i64 1)])).toNat) ++ ([[Go.Value.int .i64 (ρ.i .i64 1), Go.Value.int .i64 (ρ.i .i64 2), Go.Value.int .i64 (ρ.i .i64 3)]] : LV)) ++ ((ρ.z.rl 0).drop (clampK .i64 (ρ.z.F.i 3 [.lst (ρ.z.rl 0), .int .i64 (ρ.i .i64 1)])).toNat)) = ((((ρ.z.rl 0).take (ρ.i .i64 1000).toNat) ++ ([[Go.Value.int .i64 (ρ.i .i64 1), Go.Value.int .i64 (ρ.i .i64 2), Go.Value.int .i64 (ρ.i .i64 3)]] : LV)) ++ ((ρ.z.rl 0).drop (ρ.i .i64 1000).toNat)) from ?_) (all_cons (show ((((((ρ.z.rl 0).take (clampK .i64 (ρ.z.F.i 3 [.lst (ρ.z.rl 0), .int .i64 (ρ.i .i64 1)])).toNat) ++ ([[Go.Value.int .i64 (ρ.i .i64 1), Go.Value.int .i64 (ρ.i .i64 2), Go.Value.int .i64 (ρ.i .i64 3)]] : LV)) ++ ((ρ.z.rl 0).drop (clampK .i64 (ρ.z.F.i 3 [.lst (ρ.z.rl 0), .int .i64 (ρ.i .i64 1)])).toNat)).length : Nat) : Int) = (((ρ.i .i64 1000) + (1 : Int)) + ((((ρ.z.rl 0).length : Nat) : Int) - (ρ.i .i64 1000))) from ?_) (all_nil)))
  all_goals try simp only [hF, pi1, pi2, pi3, pi4, pl2, pb1, pb2, pb3, pb4, pb5, pb6]
  all_goals
    have fc := first_le (fun k => decide (atI (ρ.z.rl 0) k 0 = ρ.i .i64 1)) (ρ.z.rl 0).length
    have fd : findN (ρ.z.rl 0) (ρ.i .i64 1) (ρ.z.rl 0).length ≤ (ρ.z.rl 0).length := fc
    have fe : clampK .i64 ((findN (ρ.z.rl 0) (ρ.i .i64 1) (ρ.z.rl 0).length : Nat) : Int) = ((findN (ρ.z.rl 0) (ρ.i .i64 1) (ρ.z.rl 0).length : Nat) : Int) := clampS (by omega) (by omega)
    obtain ⟨c1, c2⟩ := over_cl (R := ρ.z.rl 0) (s := ρ.i .i64 1) (by omega)
    simp only [fe] at *
    have e : ((overN (ρ.z.rl 0) (ρ.i .i64 1) (ρ.z.rl 0).length : Nat) : Int) = ρ.i .i64 1000 := over_hit (by omega) (by omega) hi (by have := find_ne (R := ρ.z.rl 0) (s := ρ.i .i64 1) (i := ρ.i .i64 1000) (by omega) (by omega) (by omega); omega)
    have k1 : (overN (ρ.z.rl 0) (ρ.i .i64 1) (ρ.z.rl 0).length : Nat) = (ρ.i .i64 1000).toNat := by omega
    simp only [c1]
    simp only [Int.toNat_natCast]
    simp only [k1]
  · rw [ins_len rfl (by omega)]; (try omega)
  · rw [ins_len rfl (by omega)]; (try omega)
theorem vcaddR1_4 : VC TTaddR invaddR msaddR 1 taddR1 waddR1_4 := by
  intro ρ kn hi hp
  have hi : ivaddR1 ρ := hi
  unfold ivaddR1 at hi
  have hF : ρ.z.F = hold.Φ := kn.F
  simp only [h_nil, h_cons, d_le, d_eq, d_not, d_var, d_lit, d_cel, d_leq, d_fn, d_and, d_iff, IE.den, LE.den, AL.den, lenV, true_and, and_true, pcaddR1_2, pcaddR1_0, hF, pi1, pi2, pi3, pi4, pl2, pb1, pb2, pb3, pb4, pb5, pb6] at hp
  obtain ⟨p1, p2, p3, p4, p5, p6, p7, p8, p9, p10, p11, p12⟩ := hp
  refine (show (overN (ρ.z.rl 0) (ρ.i .i64 1) ((ρ.i .i64 1000) + (1 : Int)).toNat = ((ρ.i .i64 1000) + (1 : Int)).toNat) ∧ (((ρ.z.rl 0).length - ((ρ.i .i64 1000) + (1 : Int)).toNat : Nat) < (ρ.z.rl 0).length - (ρ.i .i64 1000).toNat) from ?_)
  exact ⟨over_go (by omega) hi (by omega), by omega⟩
theorem vcsaddR0 : ∀ v ∈ vwaddR 0, VC TTaddR invaddR msaddR 0 (startF 40 cAddR.pat (.lit true :: cAddR.pre)) v := all_cons vcaddR0_0 (all_nil)
theorem okaddR0 : cfgOk (startF 40 cAddR.pat (.lit true :: cAddR.pre)) = true := by kernel_rfl
theorem sgaddR0 : segL cAddR.roms cAddR (seg TTaddR seladdR 9000 tmaddR (startF 40 cAddR.pat (.lit true :: cAddR.pre))) = (true, codesR tmaddR (views (seg TTaddR seladdR 9000 tmaddR (startF 40 cAddR.pat (.lit true :: cAddR.pre)))), vwaddR 0) := by kernel_rfl
theorem vcsaddR1 : ∀ v ∈ vwaddR 1, VC TTaddR invaddR msaddR 1 taddR1 v := all_cons vcaddR1_0 (all_cons vcaddR1_1 (all_cons vcaddR1_2 (all_cons vcaddR1_3 (all_cons vcaddR1_4 (all_nil)))))
theorem okaddR1 : cfgOk taddR1 = true := by kernel_rfl
theorem sgaddR1 : segL cAddR.roms cAddR (seg TTaddR seladdR 9000 tmaddR taddR1) = (true, codesR tmaddR (views (seg TTaddR seladdR 9000 tmaddR taddR1)), vwaddR 1) := by kernel_rfl
theorem lnaddR0 : ∀ ρ, Known TTaddR (startF 40 cAddR.pat (.lit true :: cAddR.pre)) ρ → invaddR 0 ρ.lt → Holds ρ (leanOf (Cfg.pc (startF 40 cAddR.pat (.lit true :: cAddR.pre)))) := by
  intro ρ _ _
  exact (show Holds ρ [] from fun p hp => by cases hp)
theorem lnaddR1 : ∀ ρ, Known TTaddR taddR1 ρ → invaddR 1 ρ.lt → Holds ρ (leanOf (Cfg.pc taddR1)) := by
  intro ρ _ _
  exact (show Holds ρ [] from fun p hp => by cases hp)
theorem told_addR : Sx.Told hold.Φ cAddR := by
  refine told_of (cs := [cRightP, cRightR, cAt, cRF0, cRFin, cRFout, cFits, cRFits, cSame, cMayM, cRightM]) (all_cons told_rightP (all_cons told_rightR (all_cons told_at (all_cons told_rf0 (all_cons told_rfin (all_cons told_rfout (all_cons told_fits (all_cons told_rfits (all_cons told_same (all_cons told_mayM (all_cons told_rightM (all_nil)))))))))))) (sel := seladdR) 9000 tmaddR invaddR msaddR vwaddR 0 (pc0 := (.lit true :: cAddR.pre)) (by kernel_rfl) (by kernel_rfl) (by kernel_rfl) post_addR ?_ ?_ ?_ rfl (fun ρ _ h => h.cons (p := .lit true) (by simp only [BE.den])) (fun _ _ _ _ => trivial) ?_
  · intro k C h
    have := lk_mem h
    simp only [tmaddR, List.mem_cons, Prod.mk.injEq, List.not_mem_nil, or_false] at this
    rcases this with ⟨rfl, rfl⟩ | ⟨rfl, rfl⟩
    · exact okaddR0
    · exact okaddR1
  · intro k C h
    have := lk_mem h
    simp only [tmaddR, List.mem_cons, Prod.mk.injEq, List.not_mem_nil, or_false] at this
    rcases this with ⟨rfl, rfl⟩ | ⟨rfl, rfl⟩
    · exact sgaddR0
    · exact sgaddR1
  · intro k C h
    have := lk_mem h
    simp only [tmaddR, List.mem_cons, Prod.mk.injEq, List.not_mem_nil, or_false] at this
    rcases this with ⟨rfl, rfl⟩ | ⟨rfl, rfl⟩
    · exact vcsaddR0
    · exact vcsaddR1
  · intro k C h
    have := lk_mem h
    simp only [tmaddR, List.mem_cons, Prod.mk.injEq, List.not_mem_nil, or_false] at this
    rcases this with ⟨rfl, rfl⟩ | ⟨rfl, rfl⟩
    · exact lnaddR0
    · exact lnaddR1
end Go.Proofs.YteblnjgghbclpaaDoor.hold
