/- Layer owner: the way, told. No condition. -/
import Derived.Test.YtepodgakaajcmaaOf
set_option linter.unusedVariables false
set_option linter.unusedSimpArgs false
set_option linter.deprecated false
namespace Go.Proofs.Ytepodgakaajcmaa.own
open Go Go.Proofs.Ytepodgakaajcmaa.Sx
noncomputable section
def twayA1 : Cfg := { top := ⟨23, over (opqS 10000 86) [(1, (SV.rom 0 (IE.lit 0) (IE.len (LE.rom 0)) none)), (3, (SV.ptr 0 0)), (5, (SV.ptr 1 0)), (8, (SV.int .i64 (IE.var .i64 1000)))], ogt (loopTodo (bodyOf (T own.Φ [] []) 23) 0), [], false, none⟩, rest := [], heap := [(0, .cells [(SV.int .i64 (IE.var .i64 1)), (SV.int .i64 (IE.var .i64 2)), (SV.int .i64 (IE.var .i64 3))] 23), (1, .cells [(SV.bool (BE.var 1)), (SV.int .i64 (IE.var .i64 4)), (SV.int .i64 (IE.var .i64 5)), (SV.int .i64 (IE.var .i64 6)), (SV.int .i64 (IE.var .i64 7))] 34)], next := 2, pc := .lit true :: ([] ++ [(BE.not (BE.le (IE.cel .i64 (LE.rom 0) (IE.var .i64 6) 1) (IE.var .i64 7))), (BE.not (BE.eq (IE.cel .i64 (LE.rom 0) (IE.var .i64 6) 0) (IE.var .i64 6))), (BE.fn 3 (AL.lst (LE.rom 0) (AL.int .i64 (IE.var .i64 1) (AL.int .i64 (IE.var .i64 2) (AL.int .i64 (IE.var .i64 3) AL.nil))))), (BE.fn 2 (AL.int .i64 (IE.var .i64 7) AL.nil)), (BE.not (BE.le (IE.var .i64 1) (IE.var .i64 6))), (BE.le (IE.lit 0) (IE.var .i64 6)), (BE.eq (IE.len (LE.rom 0)) (IE.var .i64 1)), (BE.fn 1 (AL.int .i64 (IE.var .i64 2) (AL.int .i64 (IE.var .i64 3) AL.nil))), (BE.le (IE.var .i64 1) (IE.lit 64)), (BE.le (IE.lit 1) (IE.var .i64 1)), (BE.le (IE.lit 0) (IE.var .i64 1000)), (BE.le (IE.var .i64 1000) (IE.len (LE.rom 0)))] ++ (.and (.lit true) (.lit true)) :: [.le (.lit 0) (.cel .i64 (.rom 0) (.var .i64 1000) 0), .not (.le (.var .i64 1) (.cel .i64 (.rom 0) (.var .i64 1000) 0)), .fn 2 (.int .i64 (.cel .i64 (.rom 0) (.var .i64 1000) 1) .nil), .le (.lit 0) (.cel .i64 (.rom 0) (.var .i64 6) 0), .not (.le (.var .i64 1) (.cel .i64 (.rom 0) (.var .i64 6) 0)), .fn 2 (.int .i64 (.cel .i64 (.rom 0) (.var .i64 6) 1) .nil)]) }
def twayA2 : Cfg := { top := ⟨23, over (opqS 10000 86) [(1, (SV.rom 0 (IE.lit 0) (IE.len (LE.rom 0)) none)), (3, (SV.ptr 0 0)), (5, (SV.ptr 1 0)), (9, (SV.sll 9 10 2 (IE.lit 0) (IE.var .i64 1000) none)), (10, (SV.int .i64 (IE.var .i64 1002))), (11, (SV.int .i64 (IE.var .i64 1003))), (12, (SV.int .i64 (IE.var .i64 1001)))], ogt (loopTodo (bodyOf (T own.Φ [] []) 23) 1), [], false, none⟩, rest := [], heap := [(0, .cells [(SV.int .i64 (IE.var .i64 1)), (SV.int .i64 (IE.var .i64 2)), (SV.int .i64 (IE.var .i64 3))] 23), (1, .cells [(SV.bool (BE.var 1)), (SV.int .i64 (IE.var .i64 4)), (SV.int .i64 (IE.var .i64 5)), (SV.int .i64 (IE.var .i64 6)), (SV.int .i64 (IE.var .i64 7))] 34), (9, .rowl (LE.var 1004) (IE.var .i64 1000) [(CK.int .i64), (CK.int .i64)] 25 10 2)], next := 11, pc := .lit true :: ([] ++ [(BE.fn 2 (AL.int .i64 (IE.cel .i64 (LE.rom 0) (IE.var .i64 6) 1) AL.nil)), (BE.not (BE.le (IE.var .i64 1) (IE.cel .i64 (LE.rom 0) (IE.var .i64 6) 0))), (BE.le (IE.lit 0) (IE.cel .i64 (LE.rom 0) (IE.var .i64 6) 0)), (BE.le (IE.lit 1) (IE.var .i64 1)), (BE.le (IE.var .i64 1) (IE.lit 64)), (BE.fn 1 (AL.int .i64 (IE.var .i64 2) (AL.int .i64 (IE.var .i64 3) AL.nil))), (BE.eq (IE.len (LE.rom 0)) (IE.var .i64 1)), (BE.le (IE.lit 0) (IE.var .i64 6)), (BE.not (BE.le (IE.var .i64 1) (IE.var .i64 6))), (BE.fn 2 (AL.int .i64 (IE.var .i64 7) AL.nil)), (BE.fn 3 (AL.lst (LE.rom 0) (AL.int .i64 (IE.var .i64 1) (AL.int .i64 (IE.var .i64 2) (AL.int .i64 (IE.var .i64 3) AL.nil))))), (BE.not (BE.eq (IE.cel .i64 (LE.rom 0) (IE.var .i64 6) 0) (IE.var .i64 6))), (BE.not (BE.le (IE.cel .i64 (LE.rom 0) (IE.var .i64 6) 1) (IE.var .i64 7))), (BE.le (IE.var .i64 1000) (IE.var .i64 1001)), (BE.le (IE.var .i64 1001) (IE.var .i64 1000)), (BE.le (IE.lit 0) (IE.var .i64 1001)), (BE.le (IE.lit 0) (IE.var .i64 1002)), (BE.not (BE.le (IE.len (LE.rom 0)) (IE.var .i64 1002)))]) }
def tmwayA : List (Nat × Cfg) := [(0, startF 23 cWayA.pat (.lit true :: cWayA.pre)), (1, twayA1), (2, twayA2)]
def selwayA : Sel := [(23, 5000001, 0, 1), (23, 12000001, 1154000, 2)]
def wwayA0_0 : VW := (VW.cut 1 [(BE.lit true), (BE.le (IE.lit 1) (IE.var .i64 1)), (BE.le (IE.var .i64 1) (IE.lit 64)), (BE.fn 1 (AL.int .i64 (IE.var .i64 2) (AL.int .i64 (IE.var .i64 3) AL.nil))), (BE.eq (IE.len (LE.rom 0)) (IE.var .i64 1)), (BE.le (IE.lit 0) (IE.var .i64 6)), (BE.not (BE.le (IE.var .i64 1) (IE.var .i64 6))), (BE.fn 2 (AL.int .i64 (IE.var .i64 7) AL.nil)), (BE.fn 3 (AL.lst (LE.rom 0) (AL.int .i64 (IE.var .i64 1) (AL.int .i64 (IE.var .i64 2) (AL.int .i64 (IE.var .i64 3) AL.nil))))), (BE.not (BE.eq (IE.cel .i64 (LE.rom 0) (IE.var .i64 6) 0) (IE.var .i64 6))), (BE.not (BE.le (IE.cel .i64 (LE.rom 0) (IE.var .i64 6) 1) (IE.var .i64 7)))] (Sx.Sub.mk [(.i64, (1000, (IE.lit 0)))] [] [] [] [] []))
def vwwayA0 : List VW := [wwayA0_0]
def wwayA1_0 : VW := (VW.cut 2 [(BE.le (IE.len (LE.rom 0)) (IE.var .i64 1000)), (BE.lit true), (BE.not (BE.le (IE.cel .i64 (LE.rom 0) (IE.var .i64 6) 1) (IE.var .i64 7))), (BE.not (BE.eq (IE.cel .i64 (LE.rom 0) (IE.var .i64 6) 0) (IE.var .i64 6))), (BE.fn 3 (AL.lst (LE.rom 0) (AL.int .i64 (IE.var .i64 1) (AL.int .i64 (IE.var .i64 2) (AL.int .i64 (IE.var .i64 3) AL.nil))))), (BE.fn 2 (AL.int .i64 (IE.var .i64 7) AL.nil)), (BE.not (BE.le (IE.var .i64 1) (IE.var .i64 6))), (BE.le (IE.lit 0) (IE.var .i64 6)), (BE.eq (IE.len (LE.rom 0)) (IE.var .i64 1)), (BE.fn 1 (AL.int .i64 (IE.var .i64 2) (AL.int .i64 (IE.var .i64 3) AL.nil))), (BE.le (IE.var .i64 1) (IE.lit 64)), (BE.le (IE.lit 1) (IE.var .i64 1)), (BE.le (IE.lit 0) (IE.var .i64 1000)), (BE.le (IE.var .i64 1000) (IE.len (LE.rom 0))), (BE.and (BE.lit true) (BE.lit true)), (BE.le (IE.lit 0) (IE.cel .i64 (LE.rom 0) (IE.var .i64 1000) 0)), (BE.not (BE.le (IE.var .i64 1) (IE.cel .i64 (LE.rom 0) (IE.var .i64 1000) 0))), (BE.fn 2 (AL.int .i64 (IE.cel .i64 (LE.rom 0) (IE.var .i64 1000) 1) AL.nil)), (BE.le (IE.lit 0) (IE.cel .i64 (LE.rom 0) (IE.var .i64 6) 0)), (BE.not (BE.le (IE.var .i64 1) (IE.cel .i64 (LE.rom 0) (IE.var .i64 6) 0))), (BE.fn 2 (AL.int .i64 (IE.cel .i64 (LE.rom 0) (IE.var .i64 6) 1) AL.nil))] (Sx.Sub.mk [(.i64, (1001, (IE.lit 1))), (.i64, (1003, (IE.cel .i64 (LE.rom 0) (IE.var .i64 6) 1))), (.i64, (1002, (IE.cel .i64 (LE.rom 0) (IE.var .i64 6) 0))), (.i64, (1000, (IE.lit 1)))] [] [(1004, (LE.one (AL.int .i64 (IE.cel .i64 (LE.rom 0) (IE.var .i64 6) 0) (AL.int .i64 (IE.cel .i64 (LE.rom 0) (IE.var .i64 6) 1) AL.nil))))] [] [] []))
def wwayA1_1 : VW := (VW.cut 1 [(BE.not (BE.le (IE.len (LE.rom 0)) (IE.var .i64 1000))), (BE.lit true), (BE.not (BE.le (IE.cel .i64 (LE.rom 0) (IE.var .i64 6) 1) (IE.var .i64 7))), (BE.not (BE.eq (IE.cel .i64 (LE.rom 0) (IE.var .i64 6) 0) (IE.var .i64 6))), (BE.fn 3 (AL.lst (LE.rom 0) (AL.int .i64 (IE.var .i64 1) (AL.int .i64 (IE.var .i64 2) (AL.int .i64 (IE.var .i64 3) AL.nil))))), (BE.fn 2 (AL.int .i64 (IE.var .i64 7) AL.nil)), (BE.not (BE.le (IE.var .i64 1) (IE.var .i64 6))), (BE.le (IE.lit 0) (IE.var .i64 6)), (BE.eq (IE.len (LE.rom 0)) (IE.var .i64 1)), (BE.fn 1 (AL.int .i64 (IE.var .i64 2) (AL.int .i64 (IE.var .i64 3) AL.nil))), (BE.le (IE.var .i64 1) (IE.lit 64)), (BE.le (IE.lit 1) (IE.var .i64 1)), (BE.le (IE.lit 0) (IE.var .i64 1000)), (BE.le (IE.var .i64 1000) (IE.len (LE.rom 0))), (BE.and (BE.lit true) (BE.lit true)), (BE.le (IE.lit 0) (IE.cel .i64 (LE.rom 0) (IE.var .i64 1000) 0)), (BE.not (BE.le (IE.var .i64 1) (IE.cel .i64 (LE.rom 0) (IE.var .i64 1000) 0))), (BE.fn 2 (AL.int .i64 (IE.cel .i64 (LE.rom 0) (IE.var .i64 1000) 1) AL.nil)), (BE.le (IE.lit 0) (IE.cel .i64 (LE.rom 0) (IE.var .i64 6) 0)), (BE.not (BE.le (IE.var .i64 1) (IE.cel .i64 (LE.rom 0) (IE.var .i64 6) 0))), (BE.fn 2 (AL.int .i64 (IE.cel .i64 (LE.rom 0) (IE.var .i64 6) 1) AL.nil))] (Sx.Sub.mk [(.i64, (1000, (IE.add (IE.var .i64 1000) (IE.lit 1))))] [] [] [] [] []))
def vwwayA1 : List VW := [wwayA1_0, wwayA1_1]
def wwayA2_0 : VW := (VW.done [(BE.le (IE.lit 65) (IE.var .i64 1001)), (BE.lit true), (BE.fn 2 (AL.int .i64 (IE.cel .i64 (LE.rom 0) (IE.var .i64 6) 1) AL.nil)), (BE.not (BE.le (IE.var .i64 1) (IE.cel .i64 (LE.rom 0) (IE.var .i64 6) 0))), (BE.le (IE.lit 0) (IE.cel .i64 (LE.rom 0) (IE.var .i64 6) 0)), (BE.le (IE.lit 1) (IE.var .i64 1)), (BE.le (IE.var .i64 1) (IE.lit 64)), (BE.fn 1 (AL.int .i64 (IE.var .i64 2) (AL.int .i64 (IE.var .i64 3) AL.nil))), (BE.eq (IE.len (LE.rom 0)) (IE.var .i64 1)), (BE.le (IE.lit 0) (IE.var .i64 6)), (BE.not (BE.le (IE.var .i64 1) (IE.var .i64 6))), (BE.fn 2 (AL.int .i64 (IE.var .i64 7) AL.nil)), (BE.fn 3 (AL.lst (LE.rom 0) (AL.int .i64 (IE.var .i64 1) (AL.int .i64 (IE.var .i64 2) (AL.int .i64 (IE.var .i64 3) AL.nil))))), (BE.not (BE.eq (IE.cel .i64 (LE.rom 0) (IE.var .i64 6) 0) (IE.var .i64 6))), (BE.not (BE.le (IE.cel .i64 (LE.rom 0) (IE.var .i64 6) 1) (IE.var .i64 7))), (BE.le (IE.var .i64 1000) (IE.var .i64 1001)), (BE.le (IE.var .i64 1001) (IE.var .i64 1000)), (BE.le (IE.lit 0) (IE.var .i64 1001)), (BE.le (IE.lit 0) (IE.var .i64 1002)), (BE.not (BE.le (IE.len (LE.rom 0)) (IE.var .i64 1002)))] (some [(G.i (IE.len (LE.fn 2 (AL.lst (LE.rom 0) (AL.int .i64 (IE.var .i64 6) (AL.int .i64 (IE.var .i64 7) AL.nil))))) (IE.var .i64 1000)), (G.l (LE.fn 2 (AL.lst (LE.rom 0) (AL.int .i64 (IE.var .i64 6) (AL.int .i64 (IE.var .i64 7) AL.nil)))) (LE.var 1004)), (G.i (IE.len (LE.fn 2 (AL.lst (LE.rom 0) (AL.int .i64 (IE.var .i64 6) (AL.int .i64 (IE.var .i64 7) AL.nil))))) (IE.var .i64 1000))]))
def wwayA2_1 : VW := (VW.done [(BE.le (IE.var .i64 1) (IE.cel .i64 (LE.rom 0) (IE.var .i64 1002) 0)), (BE.le (IE.lit 0) (IE.cel .i64 (LE.rom 0) (IE.var .i64 1002) 0)), (BE.not (BE.le (IE.lit 65) (IE.var .i64 1001))), (BE.lit true), (BE.fn 2 (AL.int .i64 (IE.cel .i64 (LE.rom 0) (IE.var .i64 6) 1) AL.nil)), (BE.not (BE.le (IE.var .i64 1) (IE.cel .i64 (LE.rom 0) (IE.var .i64 6) 0))), (BE.le (IE.lit 0) (IE.cel .i64 (LE.rom 0) (IE.var .i64 6) 0)), (BE.le (IE.lit 1) (IE.var .i64 1)), (BE.le (IE.var .i64 1) (IE.lit 64)), (BE.fn 1 (AL.int .i64 (IE.var .i64 2) (AL.int .i64 (IE.var .i64 3) AL.nil))), (BE.eq (IE.len (LE.rom 0)) (IE.var .i64 1)), (BE.le (IE.lit 0) (IE.var .i64 6)), (BE.not (BE.le (IE.var .i64 1) (IE.var .i64 6))), (BE.fn 2 (AL.int .i64 (IE.var .i64 7) AL.nil)), (BE.fn 3 (AL.lst (LE.rom 0) (AL.int .i64 (IE.var .i64 1) (AL.int .i64 (IE.var .i64 2) (AL.int .i64 (IE.var .i64 3) AL.nil))))), (BE.not (BE.eq (IE.cel .i64 (LE.rom 0) (IE.var .i64 6) 0) (IE.var .i64 6))), (BE.not (BE.le (IE.cel .i64 (LE.rom 0) (IE.var .i64 6) 1) (IE.var .i64 7))), (BE.le (IE.var .i64 1000) (IE.var .i64 1001)), (BE.le (IE.var .i64 1001) (IE.var .i64 1000)), (BE.le (IE.lit 0) (IE.var .i64 1001)), (BE.le (IE.lit 0) (IE.var .i64 1002)), (BE.not (BE.le (IE.len (LE.rom 0)) (IE.var .i64 1002)))] (some [(G.i (IE.len (LE.fn 2 (AL.lst (LE.rom 0) (AL.int .i64 (IE.var .i64 6) (AL.int .i64 (IE.var .i64 7) AL.nil))))) (IE.var .i64 1000)), (G.l (LE.fn 2 (AL.lst (LE.rom 0) (AL.int .i64 (IE.var .i64 6) (AL.int .i64 (IE.var .i64 7) AL.nil)))) (LE.var 1004)), (G.i (IE.len (LE.fn 2 (AL.lst (LE.rom 0) (AL.int .i64 (IE.var .i64 6) (AL.int .i64 (IE.var .i64 7) AL.nil))))) (IE.var .i64 1000))]))
def wwayA2_2 : VW := (VW.done [(BE.eq (IE.cel .i64 (LE.rom 0) (IE.var .i64 1002) 0) (IE.var .i64 1002)), (BE.fn 2 (AL.int .i64 (IE.var .i64 1003) AL.nil)), (BE.fn 2 (AL.int .i64 (IE.cel .i64 (LE.rom 0) (IE.var .i64 1002) 1) AL.nil)), (BE.not (BE.le (IE.var .i64 1) (IE.cel .i64 (LE.rom 0) (IE.var .i64 1002) 0))), (BE.le (IE.lit 0) (IE.cel .i64 (LE.rom 0) (IE.var .i64 1002) 0)), (BE.not (BE.le (IE.lit 65) (IE.var .i64 1001))), (BE.lit true), (BE.fn 2 (AL.int .i64 (IE.cel .i64 (LE.rom 0) (IE.var .i64 6) 1) AL.nil)), (BE.not (BE.le (IE.var .i64 1) (IE.cel .i64 (LE.rom 0) (IE.var .i64 6) 0))), (BE.le (IE.lit 0) (IE.cel .i64 (LE.rom 0) (IE.var .i64 6) 0)), (BE.le (IE.lit 1) (IE.var .i64 1)), (BE.le (IE.var .i64 1) (IE.lit 64)), (BE.fn 1 (AL.int .i64 (IE.var .i64 2) (AL.int .i64 (IE.var .i64 3) AL.nil))), (BE.eq (IE.len (LE.rom 0)) (IE.var .i64 1)), (BE.le (IE.lit 0) (IE.var .i64 6)), (BE.not (BE.le (IE.var .i64 1) (IE.var .i64 6))), (BE.fn 2 (AL.int .i64 (IE.var .i64 7) AL.nil)), (BE.fn 3 (AL.lst (LE.rom 0) (AL.int .i64 (IE.var .i64 1) (AL.int .i64 (IE.var .i64 2) (AL.int .i64 (IE.var .i64 3) AL.nil))))), (BE.not (BE.eq (IE.cel .i64 (LE.rom 0) (IE.var .i64 6) 0) (IE.var .i64 6))), (BE.not (BE.le (IE.cel .i64 (LE.rom 0) (IE.var .i64 6) 1) (IE.var .i64 7))), (BE.le (IE.var .i64 1000) (IE.var .i64 1001)), (BE.le (IE.var .i64 1001) (IE.var .i64 1000)), (BE.le (IE.lit 0) (IE.var .i64 1001)), (BE.le (IE.lit 0) (IE.var .i64 1002)), (BE.not (BE.le (IE.len (LE.rom 0)) (IE.var .i64 1002)))] (some [(G.i (IE.len (LE.fn 2 (AL.lst (LE.rom 0) (AL.int .i64 (IE.var .i64 6) (AL.int .i64 (IE.var .i64 7) AL.nil))))) (IE.var .i64 1000)), (G.l (LE.fn 2 (AL.lst (LE.rom 0) (AL.int .i64 (IE.var .i64 6) (AL.int .i64 (IE.var .i64 7) AL.nil)))) (LE.var 1004)), (G.i (IE.len (LE.fn 2 (AL.lst (LE.rom 0) (AL.int .i64 (IE.var .i64 6) (AL.int .i64 (IE.var .i64 7) AL.nil))))) (IE.var .i64 1000))]))
def wwayA2_3 : VW := (VW.done [(BE.eq (IE.cel .i64 (LE.rom 0) (IE.var .i64 1002) 0) (IE.var .i64 6)), (BE.not (BE.eq (IE.cel .i64 (LE.rom 0) (IE.var .i64 1002) 0) (IE.var .i64 1002))), (BE.fn 2 (AL.int .i64 (IE.var .i64 1003) AL.nil)), (BE.fn 2 (AL.int .i64 (IE.cel .i64 (LE.rom 0) (IE.var .i64 1002) 1) AL.nil)), (BE.not (BE.le (IE.var .i64 1) (IE.cel .i64 (LE.rom 0) (IE.var .i64 1002) 0))), (BE.le (IE.lit 0) (IE.cel .i64 (LE.rom 0) (IE.var .i64 1002) 0)), (BE.not (BE.le (IE.lit 65) (IE.var .i64 1001))), (BE.lit true), (BE.fn 2 (AL.int .i64 (IE.cel .i64 (LE.rom 0) (IE.var .i64 6) 1) AL.nil)), (BE.not (BE.le (IE.var .i64 1) (IE.cel .i64 (LE.rom 0) (IE.var .i64 6) 0))), (BE.le (IE.lit 0) (IE.cel .i64 (LE.rom 0) (IE.var .i64 6) 0)), (BE.le (IE.lit 1) (IE.var .i64 1)), (BE.le (IE.var .i64 1) (IE.lit 64)), (BE.fn 1 (AL.int .i64 (IE.var .i64 2) (AL.int .i64 (IE.var .i64 3) AL.nil))), (BE.eq (IE.len (LE.rom 0)) (IE.var .i64 1)), (BE.le (IE.lit 0) (IE.var .i64 6)), (BE.not (BE.le (IE.var .i64 1) (IE.var .i64 6))), (BE.fn 2 (AL.int .i64 (IE.var .i64 7) AL.nil)), (BE.fn 3 (AL.lst (LE.rom 0) (AL.int .i64 (IE.var .i64 1) (AL.int .i64 (IE.var .i64 2) (AL.int .i64 (IE.var .i64 3) AL.nil))))), (BE.not (BE.eq (IE.cel .i64 (LE.rom 0) (IE.var .i64 6) 0) (IE.var .i64 6))), (BE.not (BE.le (IE.cel .i64 (LE.rom 0) (IE.var .i64 6) 1) (IE.var .i64 7))), (BE.le (IE.var .i64 1000) (IE.var .i64 1001)), (BE.le (IE.var .i64 1001) (IE.var .i64 1000)), (BE.le (IE.lit 0) (IE.var .i64 1001)), (BE.le (IE.lit 0) (IE.var .i64 1002)), (BE.not (BE.le (IE.len (LE.rom 0)) (IE.var .i64 1002)))] (some [(G.i (IE.len (LE.fn 2 (AL.lst (LE.rom 0) (AL.int .i64 (IE.var .i64 6) (AL.int .i64 (IE.var .i64 7) AL.nil))))) (IE.var .i64 1000)), (G.l (LE.fn 2 (AL.lst (LE.rom 0) (AL.int .i64 (IE.var .i64 6) (AL.int .i64 (IE.var .i64 7) AL.nil)))) (LE.var 1004)), (G.i (IE.len (LE.fn 2 (AL.lst (LE.rom 0) (AL.int .i64 (IE.var .i64 6) (AL.int .i64 (IE.var .i64 7) AL.nil))))) (IE.var .i64 1000))]))
def wwayA2_4 : VW := (VW.done [(BE.le (IE.cel .i64 (LE.rom 0) (IE.var .i64 1002) 1) (IE.var .i64 1003)), (BE.not (BE.eq (IE.cel .i64 (LE.rom 0) (IE.var .i64 1002) 0) (IE.var .i64 6))), (BE.not (BE.eq (IE.cel .i64 (LE.rom 0) (IE.var .i64 1002) 0) (IE.var .i64 1002))), (BE.fn 2 (AL.int .i64 (IE.var .i64 1003) AL.nil)), (BE.fn 2 (AL.int .i64 (IE.cel .i64 (LE.rom 0) (IE.var .i64 1002) 1) AL.nil)), (BE.not (BE.le (IE.var .i64 1) (IE.cel .i64 (LE.rom 0) (IE.var .i64 1002) 0))), (BE.le (IE.lit 0) (IE.cel .i64 (LE.rom 0) (IE.var .i64 1002) 0)), (BE.not (BE.le (IE.lit 65) (IE.var .i64 1001))), (BE.lit true), (BE.fn 2 (AL.int .i64 (IE.cel .i64 (LE.rom 0) (IE.var .i64 6) 1) AL.nil)), (BE.not (BE.le (IE.var .i64 1) (IE.cel .i64 (LE.rom 0) (IE.var .i64 6) 0))), (BE.le (IE.lit 0) (IE.cel .i64 (LE.rom 0) (IE.var .i64 6) 0)), (BE.le (IE.lit 1) (IE.var .i64 1)), (BE.le (IE.var .i64 1) (IE.lit 64)), (BE.fn 1 (AL.int .i64 (IE.var .i64 2) (AL.int .i64 (IE.var .i64 3) AL.nil))), (BE.eq (IE.len (LE.rom 0)) (IE.var .i64 1)), (BE.le (IE.lit 0) (IE.var .i64 6)), (BE.not (BE.le (IE.var .i64 1) (IE.var .i64 6))), (BE.fn 2 (AL.int .i64 (IE.var .i64 7) AL.nil)), (BE.fn 3 (AL.lst (LE.rom 0) (AL.int .i64 (IE.var .i64 1) (AL.int .i64 (IE.var .i64 2) (AL.int .i64 (IE.var .i64 3) AL.nil))))), (BE.not (BE.eq (IE.cel .i64 (LE.rom 0) (IE.var .i64 6) 0) (IE.var .i64 6))), (BE.not (BE.le (IE.cel .i64 (LE.rom 0) (IE.var .i64 6) 1) (IE.var .i64 7))), (BE.le (IE.var .i64 1000) (IE.var .i64 1001)), (BE.le (IE.var .i64 1001) (IE.var .i64 1000)), (BE.le (IE.lit 0) (IE.var .i64 1001)), (BE.le (IE.lit 0) (IE.var .i64 1002)), (BE.not (BE.le (IE.len (LE.rom 0)) (IE.var .i64 1002)))] (some [(G.i (IE.len (LE.fn 2 (AL.lst (LE.rom 0) (AL.int .i64 (IE.var .i64 6) (AL.int .i64 (IE.var .i64 7) AL.nil))))) (IE.var .i64 1000)), (G.l (LE.fn 2 (AL.lst (LE.rom 0) (AL.int .i64 (IE.var .i64 6) (AL.int .i64 (IE.var .i64 7) AL.nil)))) (LE.var 1004)), (G.i (IE.len (LE.fn 2 (AL.lst (LE.rom 0) (AL.int .i64 (IE.var .i64 6) (AL.int .i64 (IE.var .i64 7) AL.nil))))) (IE.var .i64 1000))]))
def wwayA2_5 : VW := (VW.cut 2 [(BE.not (BE.le (IE.cel .i64 (LE.rom 0) (IE.var .i64 1002) 1) (IE.var .i64 1003))), (BE.not (BE.eq (IE.cel .i64 (LE.rom 0) (IE.var .i64 1002) 0) (IE.var .i64 6))), (BE.not (BE.eq (IE.cel .i64 (LE.rom 0) (IE.var .i64 1002) 0) (IE.var .i64 1002))), (BE.fn 2 (AL.int .i64 (IE.var .i64 1003) AL.nil)), (BE.fn 2 (AL.int .i64 (IE.cel .i64 (LE.rom 0) (IE.var .i64 1002) 1) AL.nil)), (BE.not (BE.le (IE.var .i64 1) (IE.cel .i64 (LE.rom 0) (IE.var .i64 1002) 0))), (BE.le (IE.lit 0) (IE.cel .i64 (LE.rom 0) (IE.var .i64 1002) 0)), (BE.not (BE.le (IE.lit 65) (IE.var .i64 1001))), (BE.lit true), (BE.fn 2 (AL.int .i64 (IE.cel .i64 (LE.rom 0) (IE.var .i64 6) 1) AL.nil)), (BE.not (BE.le (IE.var .i64 1) (IE.cel .i64 (LE.rom 0) (IE.var .i64 6) 0))), (BE.le (IE.lit 0) (IE.cel .i64 (LE.rom 0) (IE.var .i64 6) 0)), (BE.le (IE.lit 1) (IE.var .i64 1)), (BE.le (IE.var .i64 1) (IE.lit 64)), (BE.fn 1 (AL.int .i64 (IE.var .i64 2) (AL.int .i64 (IE.var .i64 3) AL.nil))), (BE.eq (IE.len (LE.rom 0)) (IE.var .i64 1)), (BE.le (IE.lit 0) (IE.var .i64 6)), (BE.not (BE.le (IE.var .i64 1) (IE.var .i64 6))), (BE.fn 2 (AL.int .i64 (IE.var .i64 7) AL.nil)), (BE.fn 3 (AL.lst (LE.rom 0) (AL.int .i64 (IE.var .i64 1) (AL.int .i64 (IE.var .i64 2) (AL.int .i64 (IE.var .i64 3) AL.nil))))), (BE.not (BE.eq (IE.cel .i64 (LE.rom 0) (IE.var .i64 6) 0) (IE.var .i64 6))), (BE.not (BE.le (IE.cel .i64 (LE.rom 0) (IE.var .i64 6) 1) (IE.var .i64 7))), (BE.le (IE.var .i64 1000) (IE.var .i64 1001)), (BE.le (IE.var .i64 1001) (IE.var .i64 1000)), (BE.le (IE.lit 0) (IE.var .i64 1001)), (BE.le (IE.lit 0) (IE.var .i64 1002)), (BE.not (BE.le (IE.len (LE.rom 0)) (IE.var .i64 1002)))] (Sx.Sub.mk [(.i64, (1001, (IE.add (IE.var .i64 1001) (IE.lit 1)))), (.i64, (1003, (IE.cel .i64 (LE.rom 0) (IE.var .i64 1002) 1))), (.i64, (1002, (IE.cel .i64 (LE.rom 0) (IE.var .i64 1002) 0))), (.i64, (1000, (IE.add (IE.var .i64 1000) (IE.lit 1))))] [] [(1004, (LE.cat (LE.var 1004) (LE.one (AL.int .i64 (IE.cel .i64 (LE.rom 0) (IE.var .i64 1002) 0) (AL.int .i64 (IE.cel .i64 (LE.rom 0) (IE.var .i64 1002) 1) AL.nil)))))] [] [] []))
def wwayA2_6 : VW := (VW.done [(BE.not (BE.fn 2 (AL.int .i64 (IE.var .i64 1003) AL.nil))), (BE.fn 2 (AL.int .i64 (IE.cel .i64 (LE.rom 0) (IE.var .i64 1002) 1) AL.nil)), (BE.not (BE.le (IE.var .i64 1) (IE.cel .i64 (LE.rom 0) (IE.var .i64 1002) 0))), (BE.le (IE.lit 0) (IE.cel .i64 (LE.rom 0) (IE.var .i64 1002) 0)), (BE.not (BE.le (IE.lit 65) (IE.var .i64 1001))), (BE.lit true), (BE.fn 2 (AL.int .i64 (IE.cel .i64 (LE.rom 0) (IE.var .i64 6) 1) AL.nil)), (BE.not (BE.le (IE.var .i64 1) (IE.cel .i64 (LE.rom 0) (IE.var .i64 6) 0))), (BE.le (IE.lit 0) (IE.cel .i64 (LE.rom 0) (IE.var .i64 6) 0)), (BE.le (IE.lit 1) (IE.var .i64 1)), (BE.le (IE.var .i64 1) (IE.lit 64)), (BE.fn 1 (AL.int .i64 (IE.var .i64 2) (AL.int .i64 (IE.var .i64 3) AL.nil))), (BE.eq (IE.len (LE.rom 0)) (IE.var .i64 1)), (BE.le (IE.lit 0) (IE.var .i64 6)), (BE.not (BE.le (IE.var .i64 1) (IE.var .i64 6))), (BE.fn 2 (AL.int .i64 (IE.var .i64 7) AL.nil)), (BE.fn 3 (AL.lst (LE.rom 0) (AL.int .i64 (IE.var .i64 1) (AL.int .i64 (IE.var .i64 2) (AL.int .i64 (IE.var .i64 3) AL.nil))))), (BE.not (BE.eq (IE.cel .i64 (LE.rom 0) (IE.var .i64 6) 0) (IE.var .i64 6))), (BE.not (BE.le (IE.cel .i64 (LE.rom 0) (IE.var .i64 6) 1) (IE.var .i64 7))), (BE.le (IE.var .i64 1000) (IE.var .i64 1001)), (BE.le (IE.var .i64 1001) (IE.var .i64 1000)), (BE.le (IE.lit 0) (IE.var .i64 1001)), (BE.le (IE.lit 0) (IE.var .i64 1002)), (BE.not (BE.le (IE.len (LE.rom 0)) (IE.var .i64 1002)))] (some [(G.i (IE.len (LE.fn 2 (AL.lst (LE.rom 0) (AL.int .i64 (IE.var .i64 6) (AL.int .i64 (IE.var .i64 7) AL.nil))))) (IE.var .i64 1000)), (G.l (LE.fn 2 (AL.lst (LE.rom 0) (AL.int .i64 (IE.var .i64 6) (AL.int .i64 (IE.var .i64 7) AL.nil)))) (LE.var 1004)), (G.i (IE.len (LE.fn 2 (AL.lst (LE.rom 0) (AL.int .i64 (IE.var .i64 6) (AL.int .i64 (IE.var .i64 7) AL.nil))))) (IE.var .i64 1000))]))
def wwayA2_7 : VW := (VW.done [(BE.not (BE.fn 2 (AL.int .i64 (IE.cel .i64 (LE.rom 0) (IE.var .i64 1002) 1) AL.nil))), (BE.not (BE.le (IE.var .i64 1) (IE.cel .i64 (LE.rom 0) (IE.var .i64 1002) 0))), (BE.le (IE.lit 0) (IE.cel .i64 (LE.rom 0) (IE.var .i64 1002) 0)), (BE.not (BE.le (IE.lit 65) (IE.var .i64 1001))), (BE.lit true), (BE.fn 2 (AL.int .i64 (IE.cel .i64 (LE.rom 0) (IE.var .i64 6) 1) AL.nil)), (BE.not (BE.le (IE.var .i64 1) (IE.cel .i64 (LE.rom 0) (IE.var .i64 6) 0))), (BE.le (IE.lit 0) (IE.cel .i64 (LE.rom 0) (IE.var .i64 6) 0)), (BE.le (IE.lit 1) (IE.var .i64 1)), (BE.le (IE.var .i64 1) (IE.lit 64)), (BE.fn 1 (AL.int .i64 (IE.var .i64 2) (AL.int .i64 (IE.var .i64 3) AL.nil))), (BE.eq (IE.len (LE.rom 0)) (IE.var .i64 1)), (BE.le (IE.lit 0) (IE.var .i64 6)), (BE.not (BE.le (IE.var .i64 1) (IE.var .i64 6))), (BE.fn 2 (AL.int .i64 (IE.var .i64 7) AL.nil)), (BE.fn 3 (AL.lst (LE.rom 0) (AL.int .i64 (IE.var .i64 1) (AL.int .i64 (IE.var .i64 2) (AL.int .i64 (IE.var .i64 3) AL.nil))))), (BE.not (BE.eq (IE.cel .i64 (LE.rom 0) (IE.var .i64 6) 0) (IE.var .i64 6))), (BE.not (BE.le (IE.cel .i64 (LE.rom 0) (IE.var .i64 6) 1) (IE.var .i64 7))), (BE.le (IE.var .i64 1000) (IE.var .i64 1001)), (BE.le (IE.var .i64 1001) (IE.var .i64 1000)), (BE.le (IE.lit 0) (IE.var .i64 1001)), (BE.le (IE.lit 0) (IE.var .i64 1002)), (BE.not (BE.le (IE.len (LE.rom 0)) (IE.var .i64 1002)))] (some [(G.i (IE.len (LE.fn 2 (AL.lst (LE.rom 0) (AL.int .i64 (IE.var .i64 6) (AL.int .i64 (IE.var .i64 7) AL.nil))))) (IE.var .i64 1000)), (G.l (LE.fn 2 (AL.lst (LE.rom 0) (AL.int .i64 (IE.var .i64 6) (AL.int .i64 (IE.var .i64 7) AL.nil)))) (LE.var 1004)), (G.i (IE.len (LE.fn 2 (AL.lst (LE.rom 0) (AL.int .i64 (IE.var .i64 6) (AL.int .i64 (IE.var .i64 7) AL.nil))))) (IE.var .i64 1000))]))
def wwayA2_8 : VW := (VW.done [(BE.not (BE.le (IE.lit 0) (IE.cel .i64 (LE.rom 0) (IE.var .i64 1002) 0))), (BE.not (BE.le (IE.lit 65) (IE.var .i64 1001))), (BE.lit true), (BE.fn 2 (AL.int .i64 (IE.cel .i64 (LE.rom 0) (IE.var .i64 6) 1) AL.nil)), (BE.not (BE.le (IE.var .i64 1) (IE.cel .i64 (LE.rom 0) (IE.var .i64 6) 0))), (BE.le (IE.lit 0) (IE.cel .i64 (LE.rom 0) (IE.var .i64 6) 0)), (BE.le (IE.lit 1) (IE.var .i64 1)), (BE.le (IE.var .i64 1) (IE.lit 64)), (BE.fn 1 (AL.int .i64 (IE.var .i64 2) (AL.int .i64 (IE.var .i64 3) AL.nil))), (BE.eq (IE.len (LE.rom 0)) (IE.var .i64 1)), (BE.le (IE.lit 0) (IE.var .i64 6)), (BE.not (BE.le (IE.var .i64 1) (IE.var .i64 6))), (BE.fn 2 (AL.int .i64 (IE.var .i64 7) AL.nil)), (BE.fn 3 (AL.lst (LE.rom 0) (AL.int .i64 (IE.var .i64 1) (AL.int .i64 (IE.var .i64 2) (AL.int .i64 (IE.var .i64 3) AL.nil))))), (BE.not (BE.eq (IE.cel .i64 (LE.rom 0) (IE.var .i64 6) 0) (IE.var .i64 6))), (BE.not (BE.le (IE.cel .i64 (LE.rom 0) (IE.var .i64 6) 1) (IE.var .i64 7))), (BE.le (IE.var .i64 1000) (IE.var .i64 1001)), (BE.le (IE.var .i64 1001) (IE.var .i64 1000)), (BE.le (IE.lit 0) (IE.var .i64 1001)), (BE.le (IE.lit 0) (IE.var .i64 1002)), (BE.not (BE.le (IE.len (LE.rom 0)) (IE.var .i64 1002)))] (some [(G.i (IE.len (LE.fn 2 (AL.lst (LE.rom 0) (AL.int .i64 (IE.var .i64 6) (AL.int .i64 (IE.var .i64 7) AL.nil))))) (IE.var .i64 1000)), (G.l (LE.fn 2 (AL.lst (LE.rom 0) (AL.int .i64 (IE.var .i64 6) (AL.int .i64 (IE.var .i64 7) AL.nil)))) (LE.var 1004)), (G.i (IE.len (LE.fn 2 (AL.lst (LE.rom 0) (AL.int .i64 (IE.var .i64 6) (AL.int .i64 (IE.var .i64 7) AL.nil))))) (IE.var .i64 1000))]))
def vwwayA2 : List VW := [wwayA2_0, wwayA2_1, wwayA2_2, wwayA2_3, wwayA2_4, wwayA2_5, wwayA2_6, wwayA2_7, wwayA2_8]
def vwwayA : Nat → List VW
  | 0 => vwwayA0
  | 1 => vwwayA1
  | 2 => vwwayA2
  | _ => []
end
def invwayA : Nat → Lt → Prop
  | 1, l => (guessN (l.i .i64 1) (l.i .i64 2) (l.i .i64 3) (l.z.rl 0) (l.z.rl 0).length = true ∧ ((l.z.rl 0).length : Int) = (l.i .i64 1) ∧ (l.i .i64 1) ≤ 64 ∧ 0 ≤ (l.i .i64 6) ∧ (l.i .i64 6) < (l.i .i64 1) ∧ 1 ≤ (l.i .i64 1)) ∧ 0 ≤ (l.i .i64 1000)
  | 2, l => (guessN (l.i .i64 1) (l.i .i64 2) (l.i .i64 3) (l.z.rl 0) (l.z.rl 0).length = true ∧ ((l.z.rl 0).length : Int) = (l.i .i64 1) ∧ (l.i .i64 1) ≤ 64 ∧ 0 ≤ (l.i .i64 6) ∧ (l.i .i64 6) < (l.i .i64 1) ∧ 1 ≤ (l.i .i64 1)) ∧ (l.l 1004) = rowsP (l.z.rl 0) (l.i .i64 6) (l.i .i64 7) (l.i .i64 1001).toNat ∧ (l.i .i64 1002) = (stP (l.z.rl 0) (l.i .i64 6) (l.i .i64 7) (l.i .i64 1001).toNat).1 ∧ (l.i .i64 1003) = (stP (l.z.rl 0) (l.i .i64 6) (l.i .i64 7) (l.i .i64 1001).toNat).2 ∧ firstP (stayP (l.z.rl 0) (l.i .i64 6) (l.i .i64 7)) (l.i .i64 1001).toNat = (l.i .i64 1001).toNat ∧ hopN (l.i .i64 1003) = true ∧ 1 ≤ (l.i .i64 1001)
  | _, _ => True
def mswayA : Nat → Lt → Nat
  | 0, l => (l.z.rl 0).length + 200
  | 1, l => 100 + ((l.z.rl 0).length - (l.i .i64 1000).toNat)
  | 2, l => 66 - (l.i .i64 1001).toNat
  | _, _ => 0
theorem vcwayA0_0 : VC (T own.Φ cWayA.roms [cRRight, cSi, cRHop]) invwayA mswayA 0 (startF 23 cWayA.pat (.lit true :: cWayA.pre)) wwayA0_0 := by
  intro ρ kn hi hp
  have hF : ρ.z.F = own.Φ := kn.F
  simp only [h_nil, h_cons, d_le, d_eq, d_not, d_var, d_lit, d_cel, d_leq, d_fn, d_and, d_iff, IE.den, LE.den, AL.den, lenV, true_and, and_true, hF, pb1, pb2, pb3, pi1, pi2, pl2] at hp
  obtain ⟨p1, p2, p3, p4, p5, p6, p7, p8, p9, p10⟩ := hp
  refine (show ((guessN (ρ.i .i64 1) (ρ.i .i64 2) (ρ.i .i64 3) (ρ.z.rl 0) (ρ.z.rl 0).length = true ∧ ((ρ.z.rl 0).length : Int) = (ρ.i .i64 1) ∧ (ρ.i .i64 1) ≤ 64 ∧ 0 ≤ (ρ.i .i64 6) ∧ (ρ.i .i64 6) < (ρ.i .i64 1) ∧ 1 ≤ (ρ.i .i64 1)) ∧ 0 ≤ (0 : Int)) ∧ ((100 + ((ρ.z.rl 0).length - (0 : Int).toNat) : Nat) < (ρ.z.rl 0).length + 200) from ?_)
  exact ⟨⟨⟨by assumption, by omega, by omega, by omega, by omega, by omega⟩, by omega⟩, by omega⟩
theorem vcwayA1_0 : VC (T own.Φ cWayA.roms [cRRight, cSi, cRHop]) invwayA mswayA 1 twayA1 wwayA1_0 := by
  intro ρ kn hi hp
  have hi : (guessN (ρ.i .i64 1) (ρ.i .i64 2) (ρ.i .i64 3) (ρ.z.rl 0) (ρ.z.rl 0).length = true ∧ ((ρ.z.rl 0).length : Int) = (ρ.i .i64 1) ∧ (ρ.i .i64 1) ≤ 64 ∧ 0 ≤ (ρ.i .i64 6) ∧ (ρ.i .i64 6) < (ρ.i .i64 1) ∧ 1 ≤ (ρ.i .i64 1)) ∧ 0 ≤ (ρ.i .i64 1000) := hi
  have hF : ρ.z.F = own.Φ := kn.F
  simp only [h_nil, h_cons, d_le, d_eq, d_not, d_var, d_lit, d_cel, d_leq, d_fn, d_and, d_iff, IE.den, LE.den, AL.den, lenV, true_and, and_true, hF, pb1, pb2, pb3, pi1, pi2, pl2] at hp
  obtain ⟨p1, p2, p3, p4, p5, p6, p7, p8, p9, p10, p11, p12, p13, p14, p15, p16, p17, p18, p19⟩ := hp
  refine (show ((guessN (ρ.i .i64 1) (ρ.i .i64 2) (ρ.i .i64 3) (ρ.z.rl 0) (ρ.z.rl 0).length = true ∧ ((ρ.z.rl 0).length : Int) = (ρ.i .i64 1) ∧ (ρ.i .i64 1) ≤ 64 ∧ 0 ≤ (ρ.i .i64 6) ∧ (ρ.i .i64 6) < (ρ.i .i64 1) ∧ 1 ≤ (ρ.i .i64 1)) ∧ ([[Go.Value.int .i64 (clampK .i64 (intV (celV (ρ.z.rl 0) (ρ.i .i64 6) 0))), Go.Value.int .i64 (clampK .i64 (intV (celV (ρ.z.rl 0) (ρ.i .i64 6) 1)))]] : LV) = rowsP (ρ.z.rl 0) (ρ.i .i64 6) (ρ.i .i64 7) (1 : Int).toNat ∧ (clampK .i64 (intV (celV (ρ.z.rl 0) (ρ.i .i64 6) 0))) = (stP (ρ.z.rl 0) (ρ.i .i64 6) (ρ.i .i64 7) (1 : Int).toNat).1 ∧ (clampK .i64 (intV (celV (ρ.z.rl 0) (ρ.i .i64 6) 1))) = (stP (ρ.z.rl 0) (ρ.i .i64 6) (ρ.i .i64 7) (1 : Int).toNat).2 ∧ firstP (stayP (ρ.z.rl 0) (ρ.i .i64 6) (ρ.i .i64 7)) (1 : Int).toNat = (1 : Int).toNat ∧ hopN (clampK .i64 (intV (celV (ρ.z.rl 0) (ρ.i .i64 6) 1))) = true ∧ 1 ≤ (1 : Int)) ∧ ((66 - (1 : Int).toNat : Nat) < 100 + ((ρ.z.rl 0).length - (ρ.i .i64 1000).toNat)) from ?_)
  have q1 := (by assumption : ¬ clampK .i64 (intV (celV (ρ.z.rl 0) (ρ.i .i64 6) 0)) = ρ.i .i64 6)
  exact ⟨⟨hi.1, rfl, rfl, rfl, first_no (p := stayP (ρ.z.rl 0) (ρ.i .i64 6) (ρ.i .i64 7)) (i := 0) rfl (show stayI (ρ.z.rl 0) (ρ.i .i64 6) (ρ.i .i64 6) (ρ.i .i64 7) = false from stay_no q1 q1 (by assumption)), by assumption, by omega⟩, by omega⟩
theorem vcwayA1_1 : VC (T own.Φ cWayA.roms [cRRight, cSi, cRHop]) invwayA mswayA 1 twayA1 wwayA1_1 := by
  intro ρ kn hi hp
  have hi : (guessN (ρ.i .i64 1) (ρ.i .i64 2) (ρ.i .i64 3) (ρ.z.rl 0) (ρ.z.rl 0).length = true ∧ ((ρ.z.rl 0).length : Int) = (ρ.i .i64 1) ∧ (ρ.i .i64 1) ≤ 64 ∧ 0 ≤ (ρ.i .i64 6) ∧ (ρ.i .i64 6) < (ρ.i .i64 1) ∧ 1 ≤ (ρ.i .i64 1)) ∧ 0 ≤ (ρ.i .i64 1000) := hi
  have hF : ρ.z.F = own.Φ := kn.F
  simp only [h_nil, h_cons, d_le, d_eq, d_not, d_var, d_lit, d_cel, d_leq, d_fn, d_and, d_iff, IE.den, LE.den, AL.den, lenV, true_and, and_true, hF, pb1, pb2, pb3, pi1, pi2, pl2] at hp
  obtain ⟨p1, p2, p3, p4, p5, p6, p7, p8, p9, p10, p11, p12, p13, p14, p15, p16, p17, p18, p19⟩ := hp
  refine (show ((guessN (ρ.i .i64 1) (ρ.i .i64 2) (ρ.i .i64 3) (ρ.z.rl 0) (ρ.z.rl 0).length = true ∧ ((ρ.z.rl 0).length : Int) = (ρ.i .i64 1) ∧ (ρ.i .i64 1) ≤ 64 ∧ 0 ≤ (ρ.i .i64 6) ∧ (ρ.i .i64 6) < (ρ.i .i64 1) ∧ 1 ≤ (ρ.i .i64 1)) ∧ 0 ≤ ((ρ.i .i64 1000) + (1 : Int))) ∧ ((100 + ((ρ.z.rl 0).length - ((ρ.i .i64 1000) + (1 : Int)).toNat) : Nat) < 100 + ((ρ.z.rl 0).length - (ρ.i .i64 1000).toNat)) from ?_)
  exact ⟨⟨hi.1, by omega⟩, by omega⟩
theorem vcwayA2_0 : VC (T own.Φ cWayA.roms [cRRight, cSi, cRHop]) invwayA mswayA 2 twayA2 wwayA2_0 := by
  intro ρ kn hi hp
  have hi : (guessN (ρ.i .i64 1) (ρ.i .i64 2) (ρ.i .i64 3) (ρ.z.rl 0) (ρ.z.rl 0).length = true ∧ ((ρ.z.rl 0).length : Int) = (ρ.i .i64 1) ∧ (ρ.i .i64 1) ≤ 64 ∧ 0 ≤ (ρ.i .i64 6) ∧ (ρ.i .i64 6) < (ρ.i .i64 1) ∧ 1 ≤ (ρ.i .i64 1)) ∧ (ρ.l 1004) = rowsP (ρ.z.rl 0) (ρ.i .i64 6) (ρ.i .i64 7) (ρ.i .i64 1001).toNat ∧ (ρ.i .i64 1002) = (stP (ρ.z.rl 0) (ρ.i .i64 6) (ρ.i .i64 7) (ρ.i .i64 1001).toNat).1 ∧ (ρ.i .i64 1003) = (stP (ρ.z.rl 0) (ρ.i .i64 6) (ρ.i .i64 7) (ρ.i .i64 1001).toNat).2 ∧ firstP (stayP (ρ.z.rl 0) (ρ.i .i64 6) (ρ.i .i64 7)) (ρ.i .i64 1001).toNat = (ρ.i .i64 1001).toNat ∧ hopN (ρ.i .i64 1003) = true ∧ 1 ≤ (ρ.i .i64 1001) := hi
  have hr9 : Typed [(CK.int .i64), (CK.int .i64)] (ρ.l 1004) ∧ (ρ.i .i64 1000) = (((ρ.l 1004)).length : Int) := kn.rows 9 _ _ _ _ _ _ rfl
  have hF : ρ.z.F = own.Φ := kn.F
  simp only [h_nil, h_cons, d_le, d_eq, d_not, d_var, d_lit, d_cel, d_leq, d_fn, d_and, d_iff, IE.den, LE.den, AL.den, lenV, true_and, and_true, hF, pb1, pb2, pb3, pi1, pi2, pl2] at hp
  obtain ⟨p1, p2, p3, p4, p5, p6, p7, p8, p9, p10, p11, p12, p13, p14, p15, p16, p17, p18, p19⟩ := hp
  refine all_cons (show (((ρ.z.F.l 2 [.lst (ρ.z.rl 0), .int .i64 (ρ.i .i64 6), .int .i64 (ρ.i .i64 7)]).length : Nat) : Int) = (ρ.i .i64 1000) from ?_) (all_cons (show (ρ.z.F.l 2 [.lst (ρ.z.rl 0), .int .i64 (ρ.i .i64 6), .int .i64 (ρ.i .i64 7)]) = (ρ.l 1004) from ?_) (all_cons (show (((ρ.z.F.l 2 [.lst (ρ.z.rl 0), .int .i64 (ρ.i .i64 6), .int .i64 (ρ.i .i64 7)]).length : Nat) : Int) = (ρ.i .i64 1000) from ?_) (all_nil)))
  all_goals try simp only [hF, pb1, pb2, pb3, pi1, pi2, pl2]
  all_goals
    exfalso
    obtain ⟨⟨v1, v2, v3, v4, v5, v6⟩, hl, hm, hc, hf, hh, ht⟩ := hi
    have rl := run_le v1 v2 v4 v5 hf
    have el := el_ok v1 v6 (i := ρ.i .i64 1002) (by omega)
    omega
theorem vcwayA2_1 : VC (T own.Φ cWayA.roms [cRRight, cSi, cRHop]) invwayA mswayA 2 twayA2 wwayA2_1 := by
  intro ρ kn hi hp
  have hi : (guessN (ρ.i .i64 1) (ρ.i .i64 2) (ρ.i .i64 3) (ρ.z.rl 0) (ρ.z.rl 0).length = true ∧ ((ρ.z.rl 0).length : Int) = (ρ.i .i64 1) ∧ (ρ.i .i64 1) ≤ 64 ∧ 0 ≤ (ρ.i .i64 6) ∧ (ρ.i .i64 6) < (ρ.i .i64 1) ∧ 1 ≤ (ρ.i .i64 1)) ∧ (ρ.l 1004) = rowsP (ρ.z.rl 0) (ρ.i .i64 6) (ρ.i .i64 7) (ρ.i .i64 1001).toNat ∧ (ρ.i .i64 1002) = (stP (ρ.z.rl 0) (ρ.i .i64 6) (ρ.i .i64 7) (ρ.i .i64 1001).toNat).1 ∧ (ρ.i .i64 1003) = (stP (ρ.z.rl 0) (ρ.i .i64 6) (ρ.i .i64 7) (ρ.i .i64 1001).toNat).2 ∧ firstP (stayP (ρ.z.rl 0) (ρ.i .i64 6) (ρ.i .i64 7)) (ρ.i .i64 1001).toNat = (ρ.i .i64 1001).toNat ∧ hopN (ρ.i .i64 1003) = true ∧ 1 ≤ (ρ.i .i64 1001) := hi
  have hr9 : Typed [(CK.int .i64), (CK.int .i64)] (ρ.l 1004) ∧ (ρ.i .i64 1000) = (((ρ.l 1004)).length : Int) := kn.rows 9 _ _ _ _ _ _ rfl
  have hF : ρ.z.F = own.Φ := kn.F
  simp only [h_nil, h_cons, d_le, d_eq, d_not, d_var, d_lit, d_cel, d_leq, d_fn, d_and, d_iff, IE.den, LE.den, AL.den, lenV, true_and, and_true, hF, pb1, pb2, pb3, pi1, pi2, pl2] at hp
  obtain ⟨p1, p2, p3, p4, p5, p6, p7, p8, p9, p10, p11, p12, p13, p14, p15, p16, p17, p18, p19, p20, p21⟩ := hp
  refine all_cons (show (((ρ.z.F.l 2 [.lst (ρ.z.rl 0), .int .i64 (ρ.i .i64 6), .int .i64 (ρ.i .i64 7)]).length : Nat) : Int) = (ρ.i .i64 1000) from ?_) (all_cons (show (ρ.z.F.l 2 [.lst (ρ.z.rl 0), .int .i64 (ρ.i .i64 6), .int .i64 (ρ.i .i64 7)]) = (ρ.l 1004) from ?_) (all_cons (show (((ρ.z.F.l 2 [.lst (ρ.z.rl 0), .int .i64 (ρ.i .i64 6), .int .i64 (ρ.i .i64 7)]).length : Nat) : Int) = (ρ.i .i64 1000) from ?_) (all_nil)))
  all_goals try simp only [hF, pb1, pb2, pb3, pi1, pi2, pl2]
  all_goals
    exfalso
    obtain ⟨⟨v1, v2, v3, v4, v5, v6⟩, hl, hm, hc, hf, hh, ht⟩ := hi
    have rl := run_le v1 v2 v4 v5 hf
    have el := el_ok v1 v6 (i := ρ.i .i64 1002) (by omega)
    omega
theorem vcwayA2_2 : VC (T own.Φ cWayA.roms [cRRight, cSi, cRHop]) invwayA mswayA 2 twayA2 wwayA2_2 := by
  intro ρ kn hi hp
  have hi : (guessN (ρ.i .i64 1) (ρ.i .i64 2) (ρ.i .i64 3) (ρ.z.rl 0) (ρ.z.rl 0).length = true ∧ ((ρ.z.rl 0).length : Int) = (ρ.i .i64 1) ∧ (ρ.i .i64 1) ≤ 64 ∧ 0 ≤ (ρ.i .i64 6) ∧ (ρ.i .i64 6) < (ρ.i .i64 1) ∧ 1 ≤ (ρ.i .i64 1)) ∧ (ρ.l 1004) = rowsP (ρ.z.rl 0) (ρ.i .i64 6) (ρ.i .i64 7) (ρ.i .i64 1001).toNat ∧ (ρ.i .i64 1002) = (stP (ρ.z.rl 0) (ρ.i .i64 6) (ρ.i .i64 7) (ρ.i .i64 1001).toNat).1 ∧ (ρ.i .i64 1003) = (stP (ρ.z.rl 0) (ρ.i .i64 6) (ρ.i .i64 7) (ρ.i .i64 1001).toNat).2 ∧ firstP (stayP (ρ.z.rl 0) (ρ.i .i64 6) (ρ.i .i64 7)) (ρ.i .i64 1001).toNat = (ρ.i .i64 1001).toNat ∧ hopN (ρ.i .i64 1003) = true ∧ 1 ≤ (ρ.i .i64 1001) := hi
  have hr9 : Typed [(CK.int .i64), (CK.int .i64)] (ρ.l 1004) ∧ (ρ.i .i64 1000) = (((ρ.l 1004)).length : Int) := kn.rows 9 _ _ _ _ _ _ rfl
  have hF : ρ.z.F = own.Φ := kn.F
  simp only [h_nil, h_cons, d_le, d_eq, d_not, d_var, d_lit, d_cel, d_leq, d_fn, d_and, d_iff, IE.den, LE.den, AL.den, lenV, true_and, and_true, hF, pb1, pb2, pb3, pi1, pi2, pl2] at hp
  obtain ⟨p1, p2, p3, p4, p5, p6, p7, p8, p9, p10, p11, p12, p13, p14, p15, p16, p17, p18, p19, p20, p21, p22, p23, p24⟩ := hp
  refine all_cons (show (((ρ.z.F.l 2 [.lst (ρ.z.rl 0), .int .i64 (ρ.i .i64 6), .int .i64 (ρ.i .i64 7)]).length : Nat) : Int) = (ρ.i .i64 1000) from ?_) (all_cons (show (ρ.z.F.l 2 [.lst (ρ.z.rl 0), .int .i64 (ρ.i .i64 6), .int .i64 (ρ.i .i64 7)]) = (ρ.l 1004) from ?_) (all_cons (show (((ρ.z.F.l 2 [.lst (ρ.z.rl 0), .int .i64 (ρ.i .i64 6), .int .i64 (ρ.i .i64 7)]).length : Nat) : Int) = (ρ.i .i64 1000) from ?_) (all_nil)))
  all_goals try simp only [hF, pb1, pb2, pb3, pi1, pi2, pl2]
  all_goals
    obtain ⟨⟨v1, v2, v3, v4, v5, v6⟩, hl, hm, hc, hf, hh, ht⟩ := hi
    have rl := run_le v1 v2 v4 v5 hf
    have el := el_ok v1 v6 (i := ρ.i .i64 1002) (by omega)
    have hs : stayP (ρ.z.rl 0) (ρ.i .i64 6) (ρ.i .i64 7) (ρ.i .i64 1001).toNat = true := (stay_t hm hc).trans (stay_1 (by assumption))
    have e := end_eq hf hs (by omega)
    have hx := hr9.2
    rw [hl, rows_len] at hx
    first
      | (rw [e, rows_len]; omega)
      | (rw [e, hl])
theorem vcwayA2_3 : VC (T own.Φ cWayA.roms [cRRight, cSi, cRHop]) invwayA mswayA 2 twayA2 wwayA2_3 := by
  intro ρ kn hi hp
  have hi : (guessN (ρ.i .i64 1) (ρ.i .i64 2) (ρ.i .i64 3) (ρ.z.rl 0) (ρ.z.rl 0).length = true ∧ ((ρ.z.rl 0).length : Int) = (ρ.i .i64 1) ∧ (ρ.i .i64 1) ≤ 64 ∧ 0 ≤ (ρ.i .i64 6) ∧ (ρ.i .i64 6) < (ρ.i .i64 1) ∧ 1 ≤ (ρ.i .i64 1)) ∧ (ρ.l 1004) = rowsP (ρ.z.rl 0) (ρ.i .i64 6) (ρ.i .i64 7) (ρ.i .i64 1001).toNat ∧ (ρ.i .i64 1002) = (stP (ρ.z.rl 0) (ρ.i .i64 6) (ρ.i .i64 7) (ρ.i .i64 1001).toNat).1 ∧ (ρ.i .i64 1003) = (stP (ρ.z.rl 0) (ρ.i .i64 6) (ρ.i .i64 7) (ρ.i .i64 1001).toNat).2 ∧ firstP (stayP (ρ.z.rl 0) (ρ.i .i64 6) (ρ.i .i64 7)) (ρ.i .i64 1001).toNat = (ρ.i .i64 1001).toNat ∧ hopN (ρ.i .i64 1003) = true ∧ 1 ≤ (ρ.i .i64 1001) := hi
  have hr9 : Typed [(CK.int .i64), (CK.int .i64)] (ρ.l 1004) ∧ (ρ.i .i64 1000) = (((ρ.l 1004)).length : Int) := kn.rows 9 _ _ _ _ _ _ rfl
  have hF : ρ.z.F = own.Φ := kn.F
  simp only [h_nil, h_cons, d_le, d_eq, d_not, d_var, d_lit, d_cel, d_leq, d_fn, d_and, d_iff, IE.den, LE.den, AL.den, lenV, true_and, and_true, hF, pb1, pb2, pb3, pi1, pi2, pl2] at hp
  obtain ⟨p1, p2, p3, p4, p5, p6, p7, p8, p9, p10, p11, p12, p13, p14, p15, p16, p17, p18, p19, p20, p21, p22, p23, p24, p25⟩ := hp
  refine all_cons (show (((ρ.z.F.l 2 [.lst (ρ.z.rl 0), .int .i64 (ρ.i .i64 6), .int .i64 (ρ.i .i64 7)]).length : Nat) : Int) = (ρ.i .i64 1000) from ?_) (all_cons (show (ρ.z.F.l 2 [.lst (ρ.z.rl 0), .int .i64 (ρ.i .i64 6), .int .i64 (ρ.i .i64 7)]) = (ρ.l 1004) from ?_) (all_cons (show (((ρ.z.F.l 2 [.lst (ρ.z.rl 0), .int .i64 (ρ.i .i64 6), .int .i64 (ρ.i .i64 7)]).length : Nat) : Int) = (ρ.i .i64 1000) from ?_) (all_nil)))
  all_goals try simp only [hF, pb1, pb2, pb3, pi1, pi2, pl2]
  all_goals
    obtain ⟨⟨v1, v2, v3, v4, v5, v6⟩, hl, hm, hc, hf, hh, ht⟩ := hi
    have rl := run_le v1 v2 v4 v5 hf
    have el := el_ok v1 v6 (i := ρ.i .i64 1002) (by omega)
    have hs : stayP (ρ.z.rl 0) (ρ.i .i64 6) (ρ.i .i64 7) (ρ.i .i64 1001).toNat = true := (stay_t hm hc).trans (stay_2 (by assumption))
    have e := end_eq hf hs (by omega)
    have hx := hr9.2
    rw [hl, rows_len] at hx
    first
      | (rw [e, rows_len]; omega)
      | (rw [e, hl])
theorem vcwayA2_4 : VC (T own.Φ cWayA.roms [cRRight, cSi, cRHop]) invwayA mswayA 2 twayA2 wwayA2_4 := by
  intro ρ kn hi hp
  have hi : (guessN (ρ.i .i64 1) (ρ.i .i64 2) (ρ.i .i64 3) (ρ.z.rl 0) (ρ.z.rl 0).length = true ∧ ((ρ.z.rl 0).length : Int) = (ρ.i .i64 1) ∧ (ρ.i .i64 1) ≤ 64 ∧ 0 ≤ (ρ.i .i64 6) ∧ (ρ.i .i64 6) < (ρ.i .i64 1) ∧ 1 ≤ (ρ.i .i64 1)) ∧ (ρ.l 1004) = rowsP (ρ.z.rl 0) (ρ.i .i64 6) (ρ.i .i64 7) (ρ.i .i64 1001).toNat ∧ (ρ.i .i64 1002) = (stP (ρ.z.rl 0) (ρ.i .i64 6) (ρ.i .i64 7) (ρ.i .i64 1001).toNat).1 ∧ (ρ.i .i64 1003) = (stP (ρ.z.rl 0) (ρ.i .i64 6) (ρ.i .i64 7) (ρ.i .i64 1001).toNat).2 ∧ firstP (stayP (ρ.z.rl 0) (ρ.i .i64 6) (ρ.i .i64 7)) (ρ.i .i64 1001).toNat = (ρ.i .i64 1001).toNat ∧ hopN (ρ.i .i64 1003) = true ∧ 1 ≤ (ρ.i .i64 1001) := hi
  have hr9 : Typed [(CK.int .i64), (CK.int .i64)] (ρ.l 1004) ∧ (ρ.i .i64 1000) = (((ρ.l 1004)).length : Int) := kn.rows 9 _ _ _ _ _ _ rfl
  have hF : ρ.z.F = own.Φ := kn.F
  simp only [h_nil, h_cons, d_le, d_eq, d_not, d_var, d_lit, d_cel, d_leq, d_fn, d_and, d_iff, IE.den, LE.den, AL.den, lenV, true_and, and_true, hF, pb1, pb2, pb3, pi1, pi2, pl2] at hp
  obtain ⟨p1, p2, p3, p4, p5, p6, p7, p8, p9, p10, p11, p12, p13, p14, p15, p16, p17, p18, p19, p20, p21, p22, p23, p24, p25, p26⟩ := hp
  refine all_cons (show (((ρ.z.F.l 2 [.lst (ρ.z.rl 0), .int .i64 (ρ.i .i64 6), .int .i64 (ρ.i .i64 7)]).length : Nat) : Int) = (ρ.i .i64 1000) from ?_) (all_cons (show (ρ.z.F.l 2 [.lst (ρ.z.rl 0), .int .i64 (ρ.i .i64 6), .int .i64 (ρ.i .i64 7)]) = (ρ.l 1004) from ?_) (all_cons (show (((ρ.z.F.l 2 [.lst (ρ.z.rl 0), .int .i64 (ρ.i .i64 6), .int .i64 (ρ.i .i64 7)]).length : Nat) : Int) = (ρ.i .i64 1000) from ?_) (all_nil)))
  all_goals try simp only [hF, pb1, pb2, pb3, pi1, pi2, pl2]
  all_goals
    obtain ⟨⟨v1, v2, v3, v4, v5, v6⟩, hl, hm, hc, hf, hh, ht⟩ := hi
    have rl := run_le v1 v2 v4 v5 hf
    have el := el_ok v1 v6 (i := ρ.i .i64 1002) (by omega)
    have hs : stayP (ρ.z.rl 0) (ρ.i .i64 6) (ρ.i .i64 7) (ρ.i .i64 1001).toNat = true := (stay_t hm hc).trans (stay_3 (by assumption))
    have e := end_eq hf hs (by omega)
    have hx := hr9.2
    rw [hl, rows_len] at hx
    first
      | (rw [e, rows_len]; omega)
      | (rw [e, hl])
theorem vcwayA2_5 : VC (T own.Φ cWayA.roms [cRRight, cSi, cRHop]) invwayA mswayA 2 twayA2 wwayA2_5 := by
  intro ρ kn hi hp
  have hi : (guessN (ρ.i .i64 1) (ρ.i .i64 2) (ρ.i .i64 3) (ρ.z.rl 0) (ρ.z.rl 0).length = true ∧ ((ρ.z.rl 0).length : Int) = (ρ.i .i64 1) ∧ (ρ.i .i64 1) ≤ 64 ∧ 0 ≤ (ρ.i .i64 6) ∧ (ρ.i .i64 6) < (ρ.i .i64 1) ∧ 1 ≤ (ρ.i .i64 1)) ∧ (ρ.l 1004) = rowsP (ρ.z.rl 0) (ρ.i .i64 6) (ρ.i .i64 7) (ρ.i .i64 1001).toNat ∧ (ρ.i .i64 1002) = (stP (ρ.z.rl 0) (ρ.i .i64 6) (ρ.i .i64 7) (ρ.i .i64 1001).toNat).1 ∧ (ρ.i .i64 1003) = (stP (ρ.z.rl 0) (ρ.i .i64 6) (ρ.i .i64 7) (ρ.i .i64 1001).toNat).2 ∧ firstP (stayP (ρ.z.rl 0) (ρ.i .i64 6) (ρ.i .i64 7)) (ρ.i .i64 1001).toNat = (ρ.i .i64 1001).toNat ∧ hopN (ρ.i .i64 1003) = true ∧ 1 ≤ (ρ.i .i64 1001) := hi
  have hr9 : Typed [(CK.int .i64), (CK.int .i64)] (ρ.l 1004) ∧ (ρ.i .i64 1000) = (((ρ.l 1004)).length : Int) := kn.rows 9 _ _ _ _ _ _ rfl
  have hF : ρ.z.F = own.Φ := kn.F
  simp only [h_nil, h_cons, d_le, d_eq, d_not, d_var, d_lit, d_cel, d_leq, d_fn, d_and, d_iff, IE.den, LE.den, AL.den, lenV, true_and, and_true, hF, pb1, pb2, pb3, pi1, pi2, pl2] at hp
  obtain ⟨p1, p2, p3, p4, p5, p6, p7, p8, p9, p10, p11, p12, p13, p14, p15, p16, p17, p18, p19, p20, p21, p22, p23, p24, p25, p26⟩ := hp
  refine (show ((guessN (ρ.i .i64 1) (ρ.i .i64 2) (ρ.i .i64 3) (ρ.z.rl 0) (ρ.z.rl 0).length = true ∧ ((ρ.z.rl 0).length : Int) = (ρ.i .i64 1) ∧ (ρ.i .i64 1) ≤ 64 ∧ 0 ≤ (ρ.i .i64 6) ∧ (ρ.i .i64 6) < (ρ.i .i64 1) ∧ 1 ≤ (ρ.i .i64 1)) ∧ ((ρ.l 1004) ++ ([[Go.Value.int .i64 (clampK .i64 (intV (celV (ρ.z.rl 0) (ρ.i .i64 1002) 0))), Go.Value.int .i64 (clampK .i64 (intV (celV (ρ.z.rl 0) (ρ.i .i64 1002) 1)))]] : LV)) = rowsP (ρ.z.rl 0) (ρ.i .i64 6) (ρ.i .i64 7) ((ρ.i .i64 1001) + (1 : Int)).toNat ∧ (clampK .i64 (intV (celV (ρ.z.rl 0) (ρ.i .i64 1002) 0))) = (stP (ρ.z.rl 0) (ρ.i .i64 6) (ρ.i .i64 7) ((ρ.i .i64 1001) + (1 : Int)).toNat).1 ∧ (clampK .i64 (intV (celV (ρ.z.rl 0) (ρ.i .i64 1002) 1))) = (stP (ρ.z.rl 0) (ρ.i .i64 6) (ρ.i .i64 7) ((ρ.i .i64 1001) + (1 : Int)).toNat).2 ∧ firstP (stayP (ρ.z.rl 0) (ρ.i .i64 6) (ρ.i .i64 7)) ((ρ.i .i64 1001) + (1 : Int)).toNat = ((ρ.i .i64 1001) + (1 : Int)).toNat ∧ hopN (clampK .i64 (intV (celV (ρ.z.rl 0) (ρ.i .i64 1002) 1))) = true ∧ 1 ≤ ((ρ.i .i64 1001) + (1 : Int))) ∧ ((66 - ((ρ.i .i64 1001) + (1 : Int)).toNat : Nat) < 66 - (ρ.i .i64 1001).toNat) from ?_)
  obtain ⟨⟨v1, v2, v3, v4, v5, v6⟩, hl, hm, hc, hf, hh, ht⟩ := hi
  have rl := run_le v1 v2 v4 v5 hf
  have el := el_ok v1 v6 (i := ρ.i .i64 1002) (by omega)
  have hs : stayP (ρ.z.rl 0) (ρ.i .i64 6) (ρ.i .i64 7) (ρ.i .i64 1001).toNat = false := (stay_t hm hc).trans (stay_no (by assumption) (by assumption) (by assumption))
  rw [at_s (by omega)]
  refine ⟨⟨⟨v1, v2, v3, v4, v5, v6⟩, ?_, ?_, ?_, first_no hf hs, el.2.2, by omega⟩, by omega⟩
  · rw [rowsP, ← hl]
    show _ = _ ++ [[Value.int .i64 (ndI (ρ.z.rl 0) (stP (ρ.z.rl 0) (ρ.i .i64 6) (ρ.i .i64 7) (ρ.i .i64 1001).toNat).1), Value.int .i64 (hpI (ρ.z.rl 0) (stP (ρ.z.rl 0) (ρ.i .i64 6) (ρ.i .i64 7) (ρ.i .i64 1001).toNat).1)]]
    rw [← hm]; rfl
  · show _ = ndI (ρ.z.rl 0) (stP (ρ.z.rl 0) (ρ.i .i64 6) (ρ.i .i64 7) (ρ.i .i64 1001).toNat).1
    rw [← hm]; rfl
  · show _ = hpI (ρ.z.rl 0) (stP (ρ.z.rl 0) (ρ.i .i64 6) (ρ.i .i64 7) (ρ.i .i64 1001).toNat).1
    rw [← hm]; rfl
theorem vcwayA2_6 : VC (T own.Φ cWayA.roms [cRRight, cSi, cRHop]) invwayA mswayA 2 twayA2 wwayA2_6 := by
  intro ρ kn hi hp
  have hi : (guessN (ρ.i .i64 1) (ρ.i .i64 2) (ρ.i .i64 3) (ρ.z.rl 0) (ρ.z.rl 0).length = true ∧ ((ρ.z.rl 0).length : Int) = (ρ.i .i64 1) ∧ (ρ.i .i64 1) ≤ 64 ∧ 0 ≤ (ρ.i .i64 6) ∧ (ρ.i .i64 6) < (ρ.i .i64 1) ∧ 1 ≤ (ρ.i .i64 1)) ∧ (ρ.l 1004) = rowsP (ρ.z.rl 0) (ρ.i .i64 6) (ρ.i .i64 7) (ρ.i .i64 1001).toNat ∧ (ρ.i .i64 1002) = (stP (ρ.z.rl 0) (ρ.i .i64 6) (ρ.i .i64 7) (ρ.i .i64 1001).toNat).1 ∧ (ρ.i .i64 1003) = (stP (ρ.z.rl 0) (ρ.i .i64 6) (ρ.i .i64 7) (ρ.i .i64 1001).toNat).2 ∧ firstP (stayP (ρ.z.rl 0) (ρ.i .i64 6) (ρ.i .i64 7)) (ρ.i .i64 1001).toNat = (ρ.i .i64 1001).toNat ∧ hopN (ρ.i .i64 1003) = true ∧ 1 ≤ (ρ.i .i64 1001) := hi
  have hr9 : Typed [(CK.int .i64), (CK.int .i64)] (ρ.l 1004) ∧ (ρ.i .i64 1000) = (((ρ.l 1004)).length : Int) := kn.rows 9 _ _ _ _ _ _ rfl
  have hF : ρ.z.F = own.Φ := kn.F
  simp only [h_nil, h_cons, d_le, d_eq, d_not, d_var, d_lit, d_cel, d_leq, d_fn, d_and, d_iff, IE.den, LE.den, AL.den, lenV, true_and, and_true, hF, pb1, pb2, pb3, pi1, pi2, pl2] at hp
  obtain ⟨p1, p2, p3, p4, p5, p6, p7, p8, p9, p10, p11, p12, p13, p14, p15, p16, p17, p18, p19, p20, p21, p22, p23⟩ := hp
  refine all_cons (show (((ρ.z.F.l 2 [.lst (ρ.z.rl 0), .int .i64 (ρ.i .i64 6), .int .i64 (ρ.i .i64 7)]).length : Nat) : Int) = (ρ.i .i64 1000) from ?_) (all_cons (show (ρ.z.F.l 2 [.lst (ρ.z.rl 0), .int .i64 (ρ.i .i64 6), .int .i64 (ρ.i .i64 7)]) = (ρ.l 1004) from ?_) (all_cons (show (((ρ.z.F.l 2 [.lst (ρ.z.rl 0), .int .i64 (ρ.i .i64 6), .int .i64 (ρ.i .i64 7)]).length : Nat) : Int) = (ρ.i .i64 1000) from ?_) (all_nil)))
  all_goals try simp only [hF, pb1, pb2, pb3, pi1, pi2, pl2]
  all_goals
    exfalso
    obtain ⟨⟨v1, v2, v3, v4, v5, v6⟩, hl, hm, hc, hf, hh, ht⟩ := hi
    have rl := run_le v1 v2 v4 v5 hf
    have el := el_ok v1 v6 (i := ρ.i .i64 1002) (by omega)
    exact p1 hh
theorem vcwayA2_7 : VC (T own.Φ cWayA.roms [cRRight, cSi, cRHop]) invwayA mswayA 2 twayA2 wwayA2_7 := by
  intro ρ kn hi hp
  have hi : (guessN (ρ.i .i64 1) (ρ.i .i64 2) (ρ.i .i64 3) (ρ.z.rl 0) (ρ.z.rl 0).length = true ∧ ((ρ.z.rl 0).length : Int) = (ρ.i .i64 1) ∧ (ρ.i .i64 1) ≤ 64 ∧ 0 ≤ (ρ.i .i64 6) ∧ (ρ.i .i64 6) < (ρ.i .i64 1) ∧ 1 ≤ (ρ.i .i64 1)) ∧ (ρ.l 1004) = rowsP (ρ.z.rl 0) (ρ.i .i64 6) (ρ.i .i64 7) (ρ.i .i64 1001).toNat ∧ (ρ.i .i64 1002) = (stP (ρ.z.rl 0) (ρ.i .i64 6) (ρ.i .i64 7) (ρ.i .i64 1001).toNat).1 ∧ (ρ.i .i64 1003) = (stP (ρ.z.rl 0) (ρ.i .i64 6) (ρ.i .i64 7) (ρ.i .i64 1001).toNat).2 ∧ firstP (stayP (ρ.z.rl 0) (ρ.i .i64 6) (ρ.i .i64 7)) (ρ.i .i64 1001).toNat = (ρ.i .i64 1001).toNat ∧ hopN (ρ.i .i64 1003) = true ∧ 1 ≤ (ρ.i .i64 1001) := hi
  have hr9 : Typed [(CK.int .i64), (CK.int .i64)] (ρ.l 1004) ∧ (ρ.i .i64 1000) = (((ρ.l 1004)).length : Int) := kn.rows 9 _ _ _ _ _ _ rfl
  have hF : ρ.z.F = own.Φ := kn.F
  simp only [h_nil, h_cons, d_le, d_eq, d_not, d_var, d_lit, d_cel, d_leq, d_fn, d_and, d_iff, IE.den, LE.den, AL.den, lenV, true_and, and_true, hF, pb1, pb2, pb3, pi1, pi2, pl2] at hp
  obtain ⟨p1, p2, p3, p4, p5, p6, p7, p8, p9, p10, p11, p12, p13, p14, p15, p16, p17, p18, p19, p20, p21, p22⟩ := hp
  refine all_cons (show (((ρ.z.F.l 2 [.lst (ρ.z.rl 0), .int .i64 (ρ.i .i64 6), .int .i64 (ρ.i .i64 7)]).length : Nat) : Int) = (ρ.i .i64 1000) from ?_) (all_cons (show (ρ.z.F.l 2 [.lst (ρ.z.rl 0), .int .i64 (ρ.i .i64 6), .int .i64 (ρ.i .i64 7)]) = (ρ.l 1004) from ?_) (all_cons (show (((ρ.z.F.l 2 [.lst (ρ.z.rl 0), .int .i64 (ρ.i .i64 6), .int .i64 (ρ.i .i64 7)]).length : Nat) : Int) = (ρ.i .i64 1000) from ?_) (all_nil)))
  all_goals try simp only [hF, pb1, pb2, pb3, pi1, pi2, pl2]
  all_goals
    exfalso
    obtain ⟨⟨v1, v2, v3, v4, v5, v6⟩, hl, hm, hc, hf, hh, ht⟩ := hi
    have rl := run_le v1 v2 v4 v5 hf
    have el := el_ok v1 v6 (i := ρ.i .i64 1002) (by omega)
    exact p1 el.2.2
theorem vcwayA2_8 : VC (T own.Φ cWayA.roms [cRRight, cSi, cRHop]) invwayA mswayA 2 twayA2 wwayA2_8 := by
  intro ρ kn hi hp
  have hi : (guessN (ρ.i .i64 1) (ρ.i .i64 2) (ρ.i .i64 3) (ρ.z.rl 0) (ρ.z.rl 0).length = true ∧ ((ρ.z.rl 0).length : Int) = (ρ.i .i64 1) ∧ (ρ.i .i64 1) ≤ 64 ∧ 0 ≤ (ρ.i .i64 6) ∧ (ρ.i .i64 6) < (ρ.i .i64 1) ∧ 1 ≤ (ρ.i .i64 1)) ∧ (ρ.l 1004) = rowsP (ρ.z.rl 0) (ρ.i .i64 6) (ρ.i .i64 7) (ρ.i .i64 1001).toNat ∧ (ρ.i .i64 1002) = (stP (ρ.z.rl 0) (ρ.i .i64 6) (ρ.i .i64 7) (ρ.i .i64 1001).toNat).1 ∧ (ρ.i .i64 1003) = (stP (ρ.z.rl 0) (ρ.i .i64 6) (ρ.i .i64 7) (ρ.i .i64 1001).toNat).2 ∧ firstP (stayP (ρ.z.rl 0) (ρ.i .i64 6) (ρ.i .i64 7)) (ρ.i .i64 1001).toNat = (ρ.i .i64 1001).toNat ∧ hopN (ρ.i .i64 1003) = true ∧ 1 ≤ (ρ.i .i64 1001) := hi
  have hr9 : Typed [(CK.int .i64), (CK.int .i64)] (ρ.l 1004) ∧ (ρ.i .i64 1000) = (((ρ.l 1004)).length : Int) := kn.rows 9 _ _ _ _ _ _ rfl
  have hF : ρ.z.F = own.Φ := kn.F
  simp only [h_nil, h_cons, d_le, d_eq, d_not, d_var, d_lit, d_cel, d_leq, d_fn, d_and, d_iff, IE.den, LE.den, AL.den, lenV, true_and, and_true, hF, pb1, pb2, pb3, pi1, pi2, pl2] at hp
  obtain ⟨p1, p2, p3, p4, p5, p6, p7, p8, p9, p10, p11, p12, p13, p14, p15, p16, p17, p18, p19, p20⟩ := hp
  refine all_cons (show (((ρ.z.F.l 2 [.lst (ρ.z.rl 0), .int .i64 (ρ.i .i64 6), .int .i64 (ρ.i .i64 7)]).length : Nat) : Int) = (ρ.i .i64 1000) from ?_) (all_cons (show (ρ.z.F.l 2 [.lst (ρ.z.rl 0), .int .i64 (ρ.i .i64 6), .int .i64 (ρ.i .i64 7)]) = (ρ.l 1004) from ?_) (all_cons (show (((ρ.z.F.l 2 [.lst (ρ.z.rl 0), .int .i64 (ρ.i .i64 6), .int .i64 (ρ.i .i64 7)]).length : Nat) : Int) = (ρ.i .i64 1000) from ?_) (all_nil)))
  all_goals try simp only [hF, pb1, pb2, pb3, pi1, pi2, pl2]
  all_goals
    exfalso
    obtain ⟨⟨v1, v2, v3, v4, v5, v6⟩, hl, hm, hc, hf, hh, ht⟩ := hi
    have rl := run_le v1 v2 v4 v5 hf
    have el := el_ok v1 v6 (i := ρ.i .i64 1002) (by omega)
    omega
theorem vcswayA0 : ∀ v ∈ vwwayA 0, VC (T own.Φ cWayA.roms [cRRight, cSi, cRHop]) invwayA mswayA 0 (startF 23 cWayA.pat (.lit true :: cWayA.pre)) v := all_cons vcwayA0_0 (all_nil)
theorem okwayA0 : cfgOk (startF 23 cWayA.pat (.lit true :: cWayA.pre)) = true := by kernel_rfl
theorem sgwayA0 : segL cWayA.roms cWayA (seg (T own.Φ cWayA.roms [cRRight, cSi, cRHop]) selwayA 1500 tmwayA (startF 23 cWayA.pat (.lit true :: cWayA.pre))) = (true, codesR tmwayA (views (seg (T own.Φ cWayA.roms [cRRight, cSi, cRHop]) selwayA 1500 tmwayA (startF 23 cWayA.pat (.lit true :: cWayA.pre)))), vwwayA 0) := by kernel_rfl
theorem vcswayA1 : ∀ v ∈ vwwayA 1, VC (T own.Φ cWayA.roms [cRRight, cSi, cRHop]) invwayA mswayA 1 twayA1 v := all_cons vcwayA1_0 (all_cons vcwayA1_1 (all_nil))
theorem okwayA1 : cfgOk twayA1 = true := by kernel_rfl
theorem sgwayA1 : segL cWayA.roms cWayA (seg (T own.Φ cWayA.roms [cRRight, cSi, cRHop]) selwayA 1500 tmwayA twayA1) = (true, codesR tmwayA (views (seg (T own.Φ cWayA.roms [cRRight, cSi, cRHop]) selwayA 1500 tmwayA twayA1)), vwwayA 1) := by kernel_rfl
theorem vcswayA2 : ∀ v ∈ vwwayA 2, VC (T own.Φ cWayA.roms [cRRight, cSi, cRHop]) invwayA mswayA 2 twayA2 v := all_cons vcwayA2_0 (all_cons vcwayA2_1 (all_cons vcwayA2_2 (all_cons vcwayA2_3 (all_cons vcwayA2_4 (all_cons vcwayA2_5 (all_cons vcwayA2_6 (all_cons vcwayA2_7 (all_cons vcwayA2_8 (all_nil)))))))))
theorem okwayA2 : cfgOk twayA2 = true := by kernel_rfl
theorem sgwayA2 : segL cWayA.roms cWayA (seg (T own.Φ cWayA.roms [cRRight, cSi, cRHop]) selwayA 1500 tmwayA twayA2) = (true, codesR tmwayA (views (seg (T own.Φ cWayA.roms [cRRight, cSi, cRHop]) selwayA 1500 tmwayA twayA2)), vwwayA 2) := by kernel_rfl
theorem lnwayA0 : ∀ ρ, Known (T own.Φ cWayA.roms [cRRight, cSi, cRHop]) (startF 23 cWayA.pat (.lit true :: cWayA.pre)) ρ → invwayA 0 ρ.lt → Holds ρ (leanOf (Cfg.pc (startF 23 cWayA.pat (.lit true :: cWayA.pre)))) := by
  intro ρ _ _
  exact (show Holds ρ [] from fun p hp => by cases hp)
theorem lnwayA1 : ∀ ρ, Known (T own.Φ cWayA.roms [cRRight, cSi, cRHop]) twayA1 ρ → invwayA 1 ρ.lt → Holds ρ (leanOf (Cfg.pc twayA1)) := by
  intro ρ kn hi
  refine (show Holds ρ [.le (.lit 0) (.cel .i64 (.rom 0) (.var .i64 1000) 0), .not (.le (.var .i64 1) (.cel .i64 (.rom 0) (.var .i64 1000) 0)), .fn 2 (.int .i64 (.cel .i64 (.rom 0) (.var .i64 1000) 1) .nil), .le (.lit 0) (.cel .i64 (.rom 0) (.var .i64 6) 0), .not (.le (.var .i64 1) (.cel .i64 (.rom 0) (.var .i64 6) 0)), .fn 2 (.int .i64 (.cel .i64 (.rom 0) (.var .i64 6) 1) .nil)] from ?_)
  have hi : (guessN (ρ.i .i64 1) (ρ.i .i64 2) (ρ.i .i64 3) (ρ.z.rl 0) (ρ.z.rl 0).length = true ∧ ((ρ.z.rl 0).length : Int) = (ρ.i .i64 1) ∧ (ρ.i .i64 1) ≤ 64 ∧ 0 ≤ (ρ.i .i64 6) ∧ (ρ.i .i64 6) < (ρ.i .i64 1) ∧ 1 ≤ (ρ.i .i64 1)) ∧ 0 ≤ (ρ.i .i64 1000) := hi
  have hF : ρ.z.F = own.Φ := kn.F
  simp only [h_nil, h_cons, d_le, d_eq, d_not, d_var, d_lit, d_cel, d_leq, d_fn, d_and, d_iff, IE.den, LE.den, AL.den, lenV, true_and, and_true, hF, pb1, pb2, pb3, pi1, pi2, pl2]
  obtain ⟨⟨v1, v2, v3, v4, v5, v6⟩, h0⟩ := hi
  obtain ⟨a1, a2, a3⟩ := el_ok (i := ρ.i .i64 1000) v1 v6 h0
  obtain ⟨b1, b2, b3⟩ := el_ok (i := ρ.i .i64 6) v1 v6 v4
  exact ⟨a1, a2, a3, b1, b2, b3⟩
theorem lnwayA2 : ∀ ρ, Known (T own.Φ cWayA.roms [cRRight, cSi, cRHop]) twayA2 ρ → invwayA 2 ρ.lt → Holds ρ (leanOf (Cfg.pc twayA2)) := by
  intro ρ _ _
  exact (show Holds ρ [] from fun p hp => by cases hp)
theorem told_wayA : Sx.Told own.Φ cWayA := by
  refine told_of (cs := [cRRight, cSi, cRHop]) (all_cons told_rright (all_cons told_si (all_cons told_rhop (all_nil)))) (sel := selwayA) 1500 tmwayA invwayA mswayA vwwayA 0 (pc0 := (.lit true :: cWayA.pre)) (by kernel_rfl) (by kernel_rfl) (by kernel_rfl) post_wayA ?_ ?_ ?_ rfl (fun ρ _ h => h.cons (p := .lit true) (by simp only [BE.den])) (fun _ _ _ _ => trivial) ?_
  · intro k C h
    have := lk_mem h
    simp only [tmwayA, List.mem_cons, Prod.mk.injEq, List.not_mem_nil, or_false] at this
    rcases this with ⟨rfl, rfl⟩ | ⟨rfl, rfl⟩ | ⟨rfl, rfl⟩
    · exact okwayA0
    · exact okwayA1
    · exact okwayA2
  · intro k C h
    have := lk_mem h
    simp only [tmwayA, List.mem_cons, Prod.mk.injEq, List.not_mem_nil, or_false] at this
    rcases this with ⟨rfl, rfl⟩ | ⟨rfl, rfl⟩ | ⟨rfl, rfl⟩
    · exact sgwayA0
    · exact sgwayA1
    · exact sgwayA2
  · intro k C h
    have := lk_mem h
    simp only [tmwayA, List.mem_cons, Prod.mk.injEq, List.not_mem_nil, or_false] at this
    rcases this with ⟨rfl, rfl⟩ | ⟨rfl, rfl⟩ | ⟨rfl, rfl⟩
    · exact vcswayA0
    · exact vcswayA1
    · exact vcswayA2
  · intro k C h
    have := lk_mem h
    simp only [tmwayA, List.mem_cons, Prod.mk.injEq, List.not_mem_nil, or_false] at this
    rcases this with ⟨rfl, rfl⟩ | ⟨rfl, rfl⟩ | ⟨rfl, rfl⟩
    · exact lnwayA0
    · exact lnwayA1
    · exact lnwayA2
noncomputable section
def twayZ11 : Cfg := { top := ⟨23, over (opqS 10000 86) [(1, (SV.rom 0 (IE.lit 0) (IE.len (LE.rom 0)) none)), (3, (SV.ptr 0 0)), (5, (SV.ptr 1 0)), (8, (SV.int .i64 (IE.var .i64 1000)))], ogt (loopTodo (bodyOf (T own.Φ [] []) 23) 0), [], false, none⟩, rest := [], heap := [(0, .cells [(SV.int .i64 (IE.var .i64 1)), (SV.int .i64 (IE.var .i64 2)), (SV.int .i64 (IE.var .i64 3))] 23), (1, .cells [(SV.bool (BE.var 1)), (SV.int .i64 (IE.var .i64 4)), (SV.int .i64 (IE.var .i64 5)), (SV.int .i64 (IE.var .i64 6)), (SV.int .i64 (IE.var .i64 7))] 34)], next := 2, pc := .lit true :: ([] ++ [(BE.eq (IE.cel .i64 (LE.rom 0) (IE.var .i64 6) 0) (IE.var .i64 6)), (BE.fn 3 (AL.lst (LE.rom 0) (AL.int .i64 (IE.var .i64 1) (AL.int .i64 (IE.var .i64 2) (AL.int .i64 (IE.var .i64 3) AL.nil))))), (BE.fn 2 (AL.int .i64 (IE.var .i64 7) AL.nil)), (BE.not (BE.le (IE.var .i64 1) (IE.var .i64 6))), (BE.le (IE.lit 0) (IE.var .i64 6)), (BE.eq (IE.len (LE.rom 0)) (IE.var .i64 1)), (BE.fn 1 (AL.int .i64 (IE.var .i64 2) (AL.int .i64 (IE.var .i64 3) AL.nil))), (BE.le (IE.var .i64 1) (IE.lit 64)), (BE.le (IE.lit 1) (IE.var .i64 1)), (BE.le (IE.lit 0) (IE.var .i64 1000)), (BE.le (IE.var .i64 1000) (IE.len (LE.rom 0)))] ++ (.and (.lit true) (.lit true)) :: [.le (.lit 0) (.cel .i64 (.rom 0) (.var .i64 1000) 0), .not (.le (.var .i64 1) (.cel .i64 (.rom 0) (.var .i64 1000) 0)), .fn 2 (.int .i64 (.cel .i64 (.rom 0) (.var .i64 1000) 1) .nil), .le (.lit 0) (.cel .i64 (.rom 0) (.var .i64 6) 0), .not (.le (.var .i64 1) (.cel .i64 (.rom 0) (.var .i64 6) 0)), .fn 2 (.int .i64 (.cel .i64 (.rom 0) (.var .i64 6) 1) .nil)]) }
def tmwayZ1 : List (Nat × Cfg) := [(0, startF 23 cWayZ1.pat (.lit true :: cWayZ1.pre)), (1, twayZ11)]
def selwayZ1 : Sel := [(23, 5000001, 0, 1)]
def wwayZ10_0 : VW := (VW.cut 1 [(BE.lit true), (BE.le (IE.lit 1) (IE.var .i64 1)), (BE.le (IE.var .i64 1) (IE.lit 64)), (BE.fn 1 (AL.int .i64 (IE.var .i64 2) (AL.int .i64 (IE.var .i64 3) AL.nil))), (BE.eq (IE.len (LE.rom 0)) (IE.var .i64 1)), (BE.le (IE.lit 0) (IE.var .i64 6)), (BE.not (BE.le (IE.var .i64 1) (IE.var .i64 6))), (BE.fn 2 (AL.int .i64 (IE.var .i64 7) AL.nil)), (BE.fn 3 (AL.lst (LE.rom 0) (AL.int .i64 (IE.var .i64 1) (AL.int .i64 (IE.var .i64 2) (AL.int .i64 (IE.var .i64 3) AL.nil))))), (BE.eq (IE.cel .i64 (LE.rom 0) (IE.var .i64 6) 0) (IE.var .i64 6))] (Sx.Sub.mk [(.i64, (1000, (IE.lit 0)))] [] [] [] [] []))
def vwwayZ10 : List VW := [wwayZ10_0]
def wwayZ11_0 : VW := (VW.done [(BE.le (IE.len (LE.rom 0)) (IE.var .i64 1000)), (BE.lit true), (BE.eq (IE.cel .i64 (LE.rom 0) (IE.var .i64 6) 0) (IE.var .i64 6)), (BE.fn 3 (AL.lst (LE.rom 0) (AL.int .i64 (IE.var .i64 1) (AL.int .i64 (IE.var .i64 2) (AL.int .i64 (IE.var .i64 3) AL.nil))))), (BE.fn 2 (AL.int .i64 (IE.var .i64 7) AL.nil)), (BE.not (BE.le (IE.var .i64 1) (IE.var .i64 6))), (BE.le (IE.lit 0) (IE.var .i64 6)), (BE.eq (IE.len (LE.rom 0)) (IE.var .i64 1)), (BE.fn 1 (AL.int .i64 (IE.var .i64 2) (AL.int .i64 (IE.var .i64 3) AL.nil))), (BE.le (IE.var .i64 1) (IE.lit 64)), (BE.le (IE.lit 1) (IE.var .i64 1)), (BE.le (IE.lit 0) (IE.var .i64 1000)), (BE.le (IE.var .i64 1000) (IE.len (LE.rom 0))), (BE.and (BE.lit true) (BE.lit true)), (BE.le (IE.lit 0) (IE.cel .i64 (LE.rom 0) (IE.var .i64 1000) 0)), (BE.not (BE.le (IE.var .i64 1) (IE.cel .i64 (LE.rom 0) (IE.var .i64 1000) 0))), (BE.fn 2 (AL.int .i64 (IE.cel .i64 (LE.rom 0) (IE.var .i64 1000) 1) AL.nil)), (BE.le (IE.lit 0) (IE.cel .i64 (LE.rom 0) (IE.var .i64 6) 0)), (BE.not (BE.le (IE.var .i64 1) (IE.cel .i64 (LE.rom 0) (IE.var .i64 6) 0))), (BE.fn 2 (AL.int .i64 (IE.cel .i64 (LE.rom 0) (IE.var .i64 6) 1) AL.nil))] (some []))
def wwayZ11_1 : VW := (VW.cut 1 [(BE.not (BE.le (IE.len (LE.rom 0)) (IE.var .i64 1000))), (BE.lit true), (BE.eq (IE.cel .i64 (LE.rom 0) (IE.var .i64 6) 0) (IE.var .i64 6)), (BE.fn 3 (AL.lst (LE.rom 0) (AL.int .i64 (IE.var .i64 1) (AL.int .i64 (IE.var .i64 2) (AL.int .i64 (IE.var .i64 3) AL.nil))))), (BE.fn 2 (AL.int .i64 (IE.var .i64 7) AL.nil)), (BE.not (BE.le (IE.var .i64 1) (IE.var .i64 6))), (BE.le (IE.lit 0) (IE.var .i64 6)), (BE.eq (IE.len (LE.rom 0)) (IE.var .i64 1)), (BE.fn 1 (AL.int .i64 (IE.var .i64 2) (AL.int .i64 (IE.var .i64 3) AL.nil))), (BE.le (IE.var .i64 1) (IE.lit 64)), (BE.le (IE.lit 1) (IE.var .i64 1)), (BE.le (IE.lit 0) (IE.var .i64 1000)), (BE.le (IE.var .i64 1000) (IE.len (LE.rom 0))), (BE.and (BE.lit true) (BE.lit true)), (BE.le (IE.lit 0) (IE.cel .i64 (LE.rom 0) (IE.var .i64 1000) 0)), (BE.not (BE.le (IE.var .i64 1) (IE.cel .i64 (LE.rom 0) (IE.var .i64 1000) 0))), (BE.fn 2 (AL.int .i64 (IE.cel .i64 (LE.rom 0) (IE.var .i64 1000) 1) AL.nil)), (BE.le (IE.lit 0) (IE.cel .i64 (LE.rom 0) (IE.var .i64 6) 0)), (BE.not (BE.le (IE.var .i64 1) (IE.cel .i64 (LE.rom 0) (IE.var .i64 6) 0))), (BE.fn 2 (AL.int .i64 (IE.cel .i64 (LE.rom 0) (IE.var .i64 6) 1) AL.nil))] (Sx.Sub.mk [(.i64, (1000, (IE.add (IE.var .i64 1000) (IE.lit 1))))] [] [] [] [] []))
def vwwayZ11 : List VW := [wwayZ11_0, wwayZ11_1]
def vwwayZ1 : Nat → List VW
  | 0 => vwwayZ10
  | 1 => vwwayZ11
  | _ => []
end
def invwayZ1 : Nat → Lt → Prop
  | 1, l => (guessN (l.i .i64 1) (l.i .i64 2) (l.i .i64 3) (l.z.rl 0) (l.z.rl 0).length = true ∧ ((l.z.rl 0).length : Int) = (l.i .i64 1) ∧ (l.i .i64 1) ≤ 64 ∧ 0 ≤ (l.i .i64 6) ∧ (l.i .i64 6) < (l.i .i64 1) ∧ 1 ≤ (l.i .i64 1)) ∧ 0 ≤ (l.i .i64 1000)
  | _, _ => True
def mswayZ1 : Nat → Lt → Nat
  | 0, l => (l.z.rl 0).length + 2
  | 1, l => (l.z.rl 0).length - (l.i .i64 1000).toNat
  | _, _ => 0
theorem vcwayZ10_0 : VC (T own.Φ cWayZ1.roms [cRRight, cSi, cRHop]) invwayZ1 mswayZ1 0 (startF 23 cWayZ1.pat (.lit true :: cWayZ1.pre)) wwayZ10_0 := by
  intro ρ kn hi hp
  have hF : ρ.z.F = own.Φ := kn.F
  simp only [h_nil, h_cons, d_le, d_eq, d_not, d_var, d_lit, d_cel, d_leq, d_fn, d_and, d_iff, IE.den, LE.den, AL.den, lenV, true_and, and_true, hF, pb1, pb2, pb3, pi1, pi2, pl2] at hp
  obtain ⟨p1, p2, p3, p4, p5, p6, p7, p8, p9⟩ := hp
  refine (show ((guessN (ρ.i .i64 1) (ρ.i .i64 2) (ρ.i .i64 3) (ρ.z.rl 0) (ρ.z.rl 0).length = true ∧ ((ρ.z.rl 0).length : Int) = (ρ.i .i64 1) ∧ (ρ.i .i64 1) ≤ 64 ∧ 0 ≤ (ρ.i .i64 6) ∧ (ρ.i .i64 6) < (ρ.i .i64 1) ∧ 1 ≤ (ρ.i .i64 1)) ∧ 0 ≤ (0 : Int)) ∧ (((ρ.z.rl 0).length - (0 : Int).toNat : Nat) < (ρ.z.rl 0).length + 2) from ?_)
  exact ⟨⟨⟨by assumption, by omega, by omega, by omega, by omega, by omega⟩, by omega⟩, by omega⟩
theorem vcwayZ11_0 : VC (T own.Φ cWayZ1.roms [cRRight, cSi, cRHop]) invwayZ1 mswayZ1 1 twayZ11 wwayZ11_0 := by
  intro ρ kn hi hp
  exact all_nil
theorem vcwayZ11_1 : VC (T own.Φ cWayZ1.roms [cRRight, cSi, cRHop]) invwayZ1 mswayZ1 1 twayZ11 wwayZ11_1 := by
  intro ρ kn hi hp
  have hi : (guessN (ρ.i .i64 1) (ρ.i .i64 2) (ρ.i .i64 3) (ρ.z.rl 0) (ρ.z.rl 0).length = true ∧ ((ρ.z.rl 0).length : Int) = (ρ.i .i64 1) ∧ (ρ.i .i64 1) ≤ 64 ∧ 0 ≤ (ρ.i .i64 6) ∧ (ρ.i .i64 6) < (ρ.i .i64 1) ∧ 1 ≤ (ρ.i .i64 1)) ∧ 0 ≤ (ρ.i .i64 1000) := hi
  have hF : ρ.z.F = own.Φ := kn.F
  simp only [h_nil, h_cons, d_le, d_eq, d_not, d_var, d_lit, d_cel, d_leq, d_fn, d_and, d_iff, IE.den, LE.den, AL.den, lenV, true_and, and_true, hF, pb1, pb2, pb3, pi1, pi2, pl2] at hp
  obtain ⟨p1, p2, p3, p4, p5, p6, p7, p8, p9, p10, p11, p12, p13, p14, p15, p16, p17, p18⟩ := hp
  refine (show ((guessN (ρ.i .i64 1) (ρ.i .i64 2) (ρ.i .i64 3) (ρ.z.rl 0) (ρ.z.rl 0).length = true ∧ ((ρ.z.rl 0).length : Int) = (ρ.i .i64 1) ∧ (ρ.i .i64 1) ≤ 64 ∧ 0 ≤ (ρ.i .i64 6) ∧ (ρ.i .i64 6) < (ρ.i .i64 1) ∧ 1 ≤ (ρ.i .i64 1)) ∧ 0 ≤ ((ρ.i .i64 1000) + (1 : Int))) ∧ (((ρ.z.rl 0).length - ((ρ.i .i64 1000) + (1 : Int)).toNat : Nat) < (ρ.z.rl 0).length - (ρ.i .i64 1000).toNat) from ?_)
  exact ⟨⟨hi.1, by omega⟩, by omega⟩
theorem vcswayZ10 : ∀ v ∈ vwwayZ1 0, VC (T own.Φ cWayZ1.roms [cRRight, cSi, cRHop]) invwayZ1 mswayZ1 0 (startF 23 cWayZ1.pat (.lit true :: cWayZ1.pre)) v := all_cons vcwayZ10_0 (all_nil)
theorem okwayZ10 : cfgOk (startF 23 cWayZ1.pat (.lit true :: cWayZ1.pre)) = true := by kernel_rfl
theorem sgwayZ10 : segL cWayZ1.roms cWayZ1 (seg (T own.Φ cWayZ1.roms [cRRight, cSi, cRHop]) selwayZ1 1500 tmwayZ1 (startF 23 cWayZ1.pat (.lit true :: cWayZ1.pre))) = (true, codesR tmwayZ1 (views (seg (T own.Φ cWayZ1.roms [cRRight, cSi, cRHop]) selwayZ1 1500 tmwayZ1 (startF 23 cWayZ1.pat (.lit true :: cWayZ1.pre)))), vwwayZ1 0) := by kernel_rfl
theorem vcswayZ11 : ∀ v ∈ vwwayZ1 1, VC (T own.Φ cWayZ1.roms [cRRight, cSi, cRHop]) invwayZ1 mswayZ1 1 twayZ11 v := all_cons vcwayZ11_0 (all_cons vcwayZ11_1 (all_nil))
theorem okwayZ11 : cfgOk twayZ11 = true := by kernel_rfl
theorem sgwayZ11 : segL cWayZ1.roms cWayZ1 (seg (T own.Φ cWayZ1.roms [cRRight, cSi, cRHop]) selwayZ1 1500 tmwayZ1 twayZ11) = (true, codesR tmwayZ1 (views (seg (T own.Φ cWayZ1.roms [cRRight, cSi, cRHop]) selwayZ1 1500 tmwayZ1 twayZ11)), vwwayZ1 1) := by kernel_rfl
theorem lnwayZ10 : ∀ ρ, Known (T own.Φ cWayZ1.roms [cRRight, cSi, cRHop]) (startF 23 cWayZ1.pat (.lit true :: cWayZ1.pre)) ρ → invwayZ1 0 ρ.lt → Holds ρ (leanOf (Cfg.pc (startF 23 cWayZ1.pat (.lit true :: cWayZ1.pre)))) := by
  intro ρ _ _
  exact (show Holds ρ [] from fun p hp => by cases hp)
theorem lnwayZ11 : ∀ ρ, Known (T own.Φ cWayZ1.roms [cRRight, cSi, cRHop]) twayZ11 ρ → invwayZ1 1 ρ.lt → Holds ρ (leanOf (Cfg.pc twayZ11)) := by
  intro ρ kn hi
  refine (show Holds ρ [.le (.lit 0) (.cel .i64 (.rom 0) (.var .i64 1000) 0), .not (.le (.var .i64 1) (.cel .i64 (.rom 0) (.var .i64 1000) 0)), .fn 2 (.int .i64 (.cel .i64 (.rom 0) (.var .i64 1000) 1) .nil), .le (.lit 0) (.cel .i64 (.rom 0) (.var .i64 6) 0), .not (.le (.var .i64 1) (.cel .i64 (.rom 0) (.var .i64 6) 0)), .fn 2 (.int .i64 (.cel .i64 (.rom 0) (.var .i64 6) 1) .nil)] from ?_)
  have hi : (guessN (ρ.i .i64 1) (ρ.i .i64 2) (ρ.i .i64 3) (ρ.z.rl 0) (ρ.z.rl 0).length = true ∧ ((ρ.z.rl 0).length : Int) = (ρ.i .i64 1) ∧ (ρ.i .i64 1) ≤ 64 ∧ 0 ≤ (ρ.i .i64 6) ∧ (ρ.i .i64 6) < (ρ.i .i64 1) ∧ 1 ≤ (ρ.i .i64 1)) ∧ 0 ≤ (ρ.i .i64 1000) := hi
  have hF : ρ.z.F = own.Φ := kn.F
  simp only [h_nil, h_cons, d_le, d_eq, d_not, d_var, d_lit, d_cel, d_leq, d_fn, d_and, d_iff, IE.den, LE.den, AL.den, lenV, true_and, and_true, hF, pb1, pb2, pb3, pi1, pi2, pl2]
  obtain ⟨⟨v1, v2, v3, v4, v5, v6⟩, h0⟩ := hi
  obtain ⟨a1, a2, a3⟩ := el_ok (i := ρ.i .i64 1000) v1 v6 h0
  obtain ⟨b1, b2, b3⟩ := el_ok (i := ρ.i .i64 6) v1 v6 v4
  exact ⟨a1, a2, a3, b1, b2, b3⟩
theorem told_wayZ1 : Sx.Told own.Φ cWayZ1 := by
  refine told_of (cs := [cRRight, cSi, cRHop]) (all_cons told_rright (all_cons told_si (all_cons told_rhop (all_nil)))) (sel := selwayZ1) 1500 tmwayZ1 invwayZ1 mswayZ1 vwwayZ1 0 (pc0 := (.lit true :: cWayZ1.pre)) (by kernel_rfl) (by kernel_rfl) (by kernel_rfl) (post_nil rfl) ?_ ?_ ?_ rfl (fun ρ _ h => h.cons (p := .lit true) (by simp only [BE.den])) (fun _ _ _ _ => trivial) ?_
  · intro k C h
    have := lk_mem h
    simp only [tmwayZ1, List.mem_cons, Prod.mk.injEq, List.not_mem_nil, or_false] at this
    rcases this with ⟨rfl, rfl⟩ | ⟨rfl, rfl⟩
    · exact okwayZ10
    · exact okwayZ11
  · intro k C h
    have := lk_mem h
    simp only [tmwayZ1, List.mem_cons, Prod.mk.injEq, List.not_mem_nil, or_false] at this
    rcases this with ⟨rfl, rfl⟩ | ⟨rfl, rfl⟩
    · exact sgwayZ10
    · exact sgwayZ11
  · intro k C h
    have := lk_mem h
    simp only [tmwayZ1, List.mem_cons, Prod.mk.injEq, List.not_mem_nil, or_false] at this
    rcases this with ⟨rfl, rfl⟩ | ⟨rfl, rfl⟩
    · exact vcswayZ10
    · exact vcswayZ11
  · intro k C h
    have := lk_mem h
    simp only [tmwayZ1, List.mem_cons, Prod.mk.injEq, List.not_mem_nil, or_false] at this
    rcases this with ⟨rfl, rfl⟩ | ⟨rfl, rfl⟩
    · exact lnwayZ10
    · exact lnwayZ11
noncomputable section
def twayZ21 : Cfg := { top := ⟨23, over (opqS 10000 86) [(1, (SV.rom 0 (IE.lit 0) (IE.len (LE.rom 0)) none)), (3, (SV.ptr 0 0)), (5, (SV.ptr 1 0)), (8, (SV.int .i64 (IE.var .i64 1000)))], ogt (loopTodo (bodyOf (T own.Φ [] []) 23) 0), [], false, none⟩, rest := [], heap := [(0, .cells [(SV.int .i64 (IE.var .i64 1)), (SV.int .i64 (IE.var .i64 2)), (SV.int .i64 (IE.var .i64 3))] 23), (1, .cells [(SV.bool (BE.var 1)), (SV.int .i64 (IE.var .i64 4)), (SV.int .i64 (IE.var .i64 5)), (SV.int .i64 (IE.var .i64 6)), (SV.int .i64 (IE.var .i64 7))] 34)], next := 2, pc := .lit true :: ([] ++ [(BE.le (IE.cel .i64 (LE.rom 0) (IE.var .i64 6) 1) (IE.var .i64 7)), (BE.not (BE.eq (IE.cel .i64 (LE.rom 0) (IE.var .i64 6) 0) (IE.var .i64 6))), (BE.fn 3 (AL.lst (LE.rom 0) (AL.int .i64 (IE.var .i64 1) (AL.int .i64 (IE.var .i64 2) (AL.int .i64 (IE.var .i64 3) AL.nil))))), (BE.fn 2 (AL.int .i64 (IE.var .i64 7) AL.nil)), (BE.not (BE.le (IE.var .i64 1) (IE.var .i64 6))), (BE.le (IE.lit 0) (IE.var .i64 6)), (BE.eq (IE.len (LE.rom 0)) (IE.var .i64 1)), (BE.fn 1 (AL.int .i64 (IE.var .i64 2) (AL.int .i64 (IE.var .i64 3) AL.nil))), (BE.le (IE.var .i64 1) (IE.lit 64)), (BE.le (IE.lit 1) (IE.var .i64 1)), (BE.le (IE.lit 0) (IE.var .i64 1000)), (BE.le (IE.var .i64 1000) (IE.len (LE.rom 0)))] ++ (.and (.lit true) (.lit true)) :: [.le (.lit 0) (.cel .i64 (.rom 0) (.var .i64 1000) 0), .not (.le (.var .i64 1) (.cel .i64 (.rom 0) (.var .i64 1000) 0)), .fn 2 (.int .i64 (.cel .i64 (.rom 0) (.var .i64 1000) 1) .nil), .le (.lit 0) (.cel .i64 (.rom 0) (.var .i64 6) 0), .not (.le (.var .i64 1) (.cel .i64 (.rom 0) (.var .i64 6) 0)), .fn 2 (.int .i64 (.cel .i64 (.rom 0) (.var .i64 6) 1) .nil)]) }
def tmwayZ2 : List (Nat × Cfg) := [(0, startF 23 cWayZ2.pat (.lit true :: cWayZ2.pre)), (1, twayZ21)]
def selwayZ2 : Sel := [(23, 5000001, 0, 1)]
def wwayZ20_0 : VW := (VW.cut 1 [(BE.lit true), (BE.le (IE.lit 1) (IE.var .i64 1)), (BE.le (IE.var .i64 1) (IE.lit 64)), (BE.fn 1 (AL.int .i64 (IE.var .i64 2) (AL.int .i64 (IE.var .i64 3) AL.nil))), (BE.eq (IE.len (LE.rom 0)) (IE.var .i64 1)), (BE.le (IE.lit 0) (IE.var .i64 6)), (BE.not (BE.le (IE.var .i64 1) (IE.var .i64 6))), (BE.fn 2 (AL.int .i64 (IE.var .i64 7) AL.nil)), (BE.fn 3 (AL.lst (LE.rom 0) (AL.int .i64 (IE.var .i64 1) (AL.int .i64 (IE.var .i64 2) (AL.int .i64 (IE.var .i64 3) AL.nil))))), (BE.not (BE.eq (IE.cel .i64 (LE.rom 0) (IE.var .i64 6) 0) (IE.var .i64 6))), (BE.le (IE.cel .i64 (LE.rom 0) (IE.var .i64 6) 1) (IE.var .i64 7))] (Sx.Sub.mk [(.i64, (1000, (IE.lit 0)))] [] [] [] [] []))
def vwwayZ20 : List VW := [wwayZ20_0]
def wwayZ21_0 : VW := (VW.done [(BE.le (IE.len (LE.rom 0)) (IE.var .i64 1000)), (BE.lit true), (BE.le (IE.cel .i64 (LE.rom 0) (IE.var .i64 6) 1) (IE.var .i64 7)), (BE.not (BE.eq (IE.cel .i64 (LE.rom 0) (IE.var .i64 6) 0) (IE.var .i64 6))), (BE.fn 3 (AL.lst (LE.rom 0) (AL.int .i64 (IE.var .i64 1) (AL.int .i64 (IE.var .i64 2) (AL.int .i64 (IE.var .i64 3) AL.nil))))), (BE.fn 2 (AL.int .i64 (IE.var .i64 7) AL.nil)), (BE.not (BE.le (IE.var .i64 1) (IE.var .i64 6))), (BE.le (IE.lit 0) (IE.var .i64 6)), (BE.eq (IE.len (LE.rom 0)) (IE.var .i64 1)), (BE.fn 1 (AL.int .i64 (IE.var .i64 2) (AL.int .i64 (IE.var .i64 3) AL.nil))), (BE.le (IE.var .i64 1) (IE.lit 64)), (BE.le (IE.lit 1) (IE.var .i64 1)), (BE.le (IE.lit 0) (IE.var .i64 1000)), (BE.le (IE.var .i64 1000) (IE.len (LE.rom 0))), (BE.and (BE.lit true) (BE.lit true)), (BE.le (IE.lit 0) (IE.cel .i64 (LE.rom 0) (IE.var .i64 1000) 0)), (BE.not (BE.le (IE.var .i64 1) (IE.cel .i64 (LE.rom 0) (IE.var .i64 1000) 0))), (BE.fn 2 (AL.int .i64 (IE.cel .i64 (LE.rom 0) (IE.var .i64 1000) 1) AL.nil)), (BE.le (IE.lit 0) (IE.cel .i64 (LE.rom 0) (IE.var .i64 6) 0)), (BE.not (BE.le (IE.var .i64 1) (IE.cel .i64 (LE.rom 0) (IE.var .i64 6) 0))), (BE.fn 2 (AL.int .i64 (IE.cel .i64 (LE.rom 0) (IE.var .i64 6) 1) AL.nil))] (some []))
def wwayZ21_1 : VW := (VW.cut 1 [(BE.not (BE.le (IE.len (LE.rom 0)) (IE.var .i64 1000))), (BE.lit true), (BE.le (IE.cel .i64 (LE.rom 0) (IE.var .i64 6) 1) (IE.var .i64 7)), (BE.not (BE.eq (IE.cel .i64 (LE.rom 0) (IE.var .i64 6) 0) (IE.var .i64 6))), (BE.fn 3 (AL.lst (LE.rom 0) (AL.int .i64 (IE.var .i64 1) (AL.int .i64 (IE.var .i64 2) (AL.int .i64 (IE.var .i64 3) AL.nil))))), (BE.fn 2 (AL.int .i64 (IE.var .i64 7) AL.nil)), (BE.not (BE.le (IE.var .i64 1) (IE.var .i64 6))), (BE.le (IE.lit 0) (IE.var .i64 6)), (BE.eq (IE.len (LE.rom 0)) (IE.var .i64 1)), (BE.fn 1 (AL.int .i64 (IE.var .i64 2) (AL.int .i64 (IE.var .i64 3) AL.nil))), (BE.le (IE.var .i64 1) (IE.lit 64)), (BE.le (IE.lit 1) (IE.var .i64 1)), (BE.le (IE.lit 0) (IE.var .i64 1000)), (BE.le (IE.var .i64 1000) (IE.len (LE.rom 0))), (BE.and (BE.lit true) (BE.lit true)), (BE.le (IE.lit 0) (IE.cel .i64 (LE.rom 0) (IE.var .i64 1000) 0)), (BE.not (BE.le (IE.var .i64 1) (IE.cel .i64 (LE.rom 0) (IE.var .i64 1000) 0))), (BE.fn 2 (AL.int .i64 (IE.cel .i64 (LE.rom 0) (IE.var .i64 1000) 1) AL.nil)), (BE.le (IE.lit 0) (IE.cel .i64 (LE.rom 0) (IE.var .i64 6) 0)), (BE.not (BE.le (IE.var .i64 1) (IE.cel .i64 (LE.rom 0) (IE.var .i64 6) 0))), (BE.fn 2 (AL.int .i64 (IE.cel .i64 (LE.rom 0) (IE.var .i64 6) 1) AL.nil))] (Sx.Sub.mk [(.i64, (1000, (IE.add (IE.var .i64 1000) (IE.lit 1))))] [] [] [] [] []))
def vwwayZ21 : List VW := [wwayZ21_0, wwayZ21_1]
def vwwayZ2 : Nat → List VW
  | 0 => vwwayZ20
  | 1 => vwwayZ21
  | _ => []
end
def invwayZ2 : Nat → Lt → Prop
  | 1, l => (guessN (l.i .i64 1) (l.i .i64 2) (l.i .i64 3) (l.z.rl 0) (l.z.rl 0).length = true ∧ ((l.z.rl 0).length : Int) = (l.i .i64 1) ∧ (l.i .i64 1) ≤ 64 ∧ 0 ≤ (l.i .i64 6) ∧ (l.i .i64 6) < (l.i .i64 1) ∧ 1 ≤ (l.i .i64 1)) ∧ 0 ≤ (l.i .i64 1000)
  | _, _ => True
def mswayZ2 : Nat → Lt → Nat
  | 0, l => (l.z.rl 0).length + 2
  | 1, l => (l.z.rl 0).length - (l.i .i64 1000).toNat
  | _, _ => 0
theorem vcwayZ20_0 : VC (T own.Φ cWayZ2.roms [cRRight, cSi, cRHop]) invwayZ2 mswayZ2 0 (startF 23 cWayZ2.pat (.lit true :: cWayZ2.pre)) wwayZ20_0 := by
  intro ρ kn hi hp
  have hF : ρ.z.F = own.Φ := kn.F
  simp only [h_nil, h_cons, d_le, d_eq, d_not, d_var, d_lit, d_cel, d_leq, d_fn, d_and, d_iff, IE.den, LE.den, AL.den, lenV, true_and, and_true, hF, pb1, pb2, pb3, pi1, pi2, pl2] at hp
  obtain ⟨p1, p2, p3, p4, p5, p6, p7, p8, p9, p10⟩ := hp
  refine (show ((guessN (ρ.i .i64 1) (ρ.i .i64 2) (ρ.i .i64 3) (ρ.z.rl 0) (ρ.z.rl 0).length = true ∧ ((ρ.z.rl 0).length : Int) = (ρ.i .i64 1) ∧ (ρ.i .i64 1) ≤ 64 ∧ 0 ≤ (ρ.i .i64 6) ∧ (ρ.i .i64 6) < (ρ.i .i64 1) ∧ 1 ≤ (ρ.i .i64 1)) ∧ 0 ≤ (0 : Int)) ∧ (((ρ.z.rl 0).length - (0 : Int).toNat : Nat) < (ρ.z.rl 0).length + 2) from ?_)
  exact ⟨⟨⟨by assumption, by omega, by omega, by omega, by omega, by omega⟩, by omega⟩, by omega⟩
theorem vcwayZ21_0 : VC (T own.Φ cWayZ2.roms [cRRight, cSi, cRHop]) invwayZ2 mswayZ2 1 twayZ21 wwayZ21_0 := by
  intro ρ kn hi hp
  exact all_nil
theorem vcwayZ21_1 : VC (T own.Φ cWayZ2.roms [cRRight, cSi, cRHop]) invwayZ2 mswayZ2 1 twayZ21 wwayZ21_1 := by
  intro ρ kn hi hp
  have hi : (guessN (ρ.i .i64 1) (ρ.i .i64 2) (ρ.i .i64 3) (ρ.z.rl 0) (ρ.z.rl 0).length = true ∧ ((ρ.z.rl 0).length : Int) = (ρ.i .i64 1) ∧ (ρ.i .i64 1) ≤ 64 ∧ 0 ≤ (ρ.i .i64 6) ∧ (ρ.i .i64 6) < (ρ.i .i64 1) ∧ 1 ≤ (ρ.i .i64 1)) ∧ 0 ≤ (ρ.i .i64 1000) := hi
  have hF : ρ.z.F = own.Φ := kn.F
  simp only [h_nil, h_cons, d_le, d_eq, d_not, d_var, d_lit, d_cel, d_leq, d_fn, d_and, d_iff, IE.den, LE.den, AL.den, lenV, true_and, and_true, hF, pb1, pb2, pb3, pi1, pi2, pl2] at hp
  obtain ⟨p1, p2, p3, p4, p5, p6, p7, p8, p9, p10, p11, p12, p13, p14, p15, p16, p17, p18, p19⟩ := hp
  refine (show ((guessN (ρ.i .i64 1) (ρ.i .i64 2) (ρ.i .i64 3) (ρ.z.rl 0) (ρ.z.rl 0).length = true ∧ ((ρ.z.rl 0).length : Int) = (ρ.i .i64 1) ∧ (ρ.i .i64 1) ≤ 64 ∧ 0 ≤ (ρ.i .i64 6) ∧ (ρ.i .i64 6) < (ρ.i .i64 1) ∧ 1 ≤ (ρ.i .i64 1)) ∧ 0 ≤ ((ρ.i .i64 1000) + (1 : Int))) ∧ (((ρ.z.rl 0).length - ((ρ.i .i64 1000) + (1 : Int)).toNat : Nat) < (ρ.z.rl 0).length - (ρ.i .i64 1000).toNat) from ?_)
  exact ⟨⟨hi.1, by omega⟩, by omega⟩
theorem vcswayZ20 : ∀ v ∈ vwwayZ2 0, VC (T own.Φ cWayZ2.roms [cRRight, cSi, cRHop]) invwayZ2 mswayZ2 0 (startF 23 cWayZ2.pat (.lit true :: cWayZ2.pre)) v := all_cons vcwayZ20_0 (all_nil)
theorem okwayZ20 : cfgOk (startF 23 cWayZ2.pat (.lit true :: cWayZ2.pre)) = true := by kernel_rfl
theorem sgwayZ20 : segL cWayZ2.roms cWayZ2 (seg (T own.Φ cWayZ2.roms [cRRight, cSi, cRHop]) selwayZ2 1500 tmwayZ2 (startF 23 cWayZ2.pat (.lit true :: cWayZ2.pre))) = (true, codesR tmwayZ2 (views (seg (T own.Φ cWayZ2.roms [cRRight, cSi, cRHop]) selwayZ2 1500 tmwayZ2 (startF 23 cWayZ2.pat (.lit true :: cWayZ2.pre)))), vwwayZ2 0) := by kernel_rfl
theorem vcswayZ21 : ∀ v ∈ vwwayZ2 1, VC (T own.Φ cWayZ2.roms [cRRight, cSi, cRHop]) invwayZ2 mswayZ2 1 twayZ21 v := all_cons vcwayZ21_0 (all_cons vcwayZ21_1 (all_nil))
theorem okwayZ21 : cfgOk twayZ21 = true := by kernel_rfl
theorem sgwayZ21 : segL cWayZ2.roms cWayZ2 (seg (T own.Φ cWayZ2.roms [cRRight, cSi, cRHop]) selwayZ2 1500 tmwayZ2 twayZ21) = (true, codesR tmwayZ2 (views (seg (T own.Φ cWayZ2.roms [cRRight, cSi, cRHop]) selwayZ2 1500 tmwayZ2 twayZ21)), vwwayZ2 1) := by kernel_rfl
theorem lnwayZ20 : ∀ ρ, Known (T own.Φ cWayZ2.roms [cRRight, cSi, cRHop]) (startF 23 cWayZ2.pat (.lit true :: cWayZ2.pre)) ρ → invwayZ2 0 ρ.lt → Holds ρ (leanOf (Cfg.pc (startF 23 cWayZ2.pat (.lit true :: cWayZ2.pre)))) := by
  intro ρ _ _
  exact (show Holds ρ [] from fun p hp => by cases hp)
theorem lnwayZ21 : ∀ ρ, Known (T own.Φ cWayZ2.roms [cRRight, cSi, cRHop]) twayZ21 ρ → invwayZ2 1 ρ.lt → Holds ρ (leanOf (Cfg.pc twayZ21)) := by
  intro ρ kn hi
  refine (show Holds ρ [.le (.lit 0) (.cel .i64 (.rom 0) (.var .i64 1000) 0), .not (.le (.var .i64 1) (.cel .i64 (.rom 0) (.var .i64 1000) 0)), .fn 2 (.int .i64 (.cel .i64 (.rom 0) (.var .i64 1000) 1) .nil), .le (.lit 0) (.cel .i64 (.rom 0) (.var .i64 6) 0), .not (.le (.var .i64 1) (.cel .i64 (.rom 0) (.var .i64 6) 0)), .fn 2 (.int .i64 (.cel .i64 (.rom 0) (.var .i64 6) 1) .nil)] from ?_)
  have hi : (guessN (ρ.i .i64 1) (ρ.i .i64 2) (ρ.i .i64 3) (ρ.z.rl 0) (ρ.z.rl 0).length = true ∧ ((ρ.z.rl 0).length : Int) = (ρ.i .i64 1) ∧ (ρ.i .i64 1) ≤ 64 ∧ 0 ≤ (ρ.i .i64 6) ∧ (ρ.i .i64 6) < (ρ.i .i64 1) ∧ 1 ≤ (ρ.i .i64 1)) ∧ 0 ≤ (ρ.i .i64 1000) := hi
  have hF : ρ.z.F = own.Φ := kn.F
  simp only [h_nil, h_cons, d_le, d_eq, d_not, d_var, d_lit, d_cel, d_leq, d_fn, d_and, d_iff, IE.den, LE.den, AL.den, lenV, true_and, and_true, hF, pb1, pb2, pb3, pi1, pi2, pl2]
  obtain ⟨⟨v1, v2, v3, v4, v5, v6⟩, h0⟩ := hi
  obtain ⟨a1, a2, a3⟩ := el_ok (i := ρ.i .i64 1000) v1 v6 h0
  obtain ⟨b1, b2, b3⟩ := el_ok (i := ρ.i .i64 6) v1 v6 v4
  exact ⟨a1, a2, a3, b1, b2, b3⟩
theorem told_wayZ2 : Sx.Told own.Φ cWayZ2 := by
  refine told_of (cs := [cRRight, cSi, cRHop]) (all_cons told_rright (all_cons told_si (all_cons told_rhop (all_nil)))) (sel := selwayZ2) 1500 tmwayZ2 invwayZ2 mswayZ2 vwwayZ2 0 (pc0 := (.lit true :: cWayZ2.pre)) (by kernel_rfl) (by kernel_rfl) (by kernel_rfl) (post_nil rfl) ?_ ?_ ?_ rfl (fun ρ _ h => h.cons (p := .lit true) (by simp only [BE.den])) (fun _ _ _ _ => trivial) ?_
  · intro k C h
    have := lk_mem h
    simp only [tmwayZ2, List.mem_cons, Prod.mk.injEq, List.not_mem_nil, or_false] at this
    rcases this with ⟨rfl, rfl⟩ | ⟨rfl, rfl⟩
    · exact okwayZ20
    · exact okwayZ21
  · intro k C h
    have := lk_mem h
    simp only [tmwayZ2, List.mem_cons, Prod.mk.injEq, List.not_mem_nil, or_false] at this
    rcases this with ⟨rfl, rfl⟩ | ⟨rfl, rfl⟩
    · exact sgwayZ20
    · exact sgwayZ21
  · intro k C h
    have := lk_mem h
    simp only [tmwayZ2, List.mem_cons, Prod.mk.injEq, List.not_mem_nil, or_false] at this
    rcases this with ⟨rfl, rfl⟩ | ⟨rfl, rfl⟩
    · exact vcswayZ20
    · exact vcswayZ21
  · intro k C h
    have := lk_mem h
    simp only [tmwayZ2, List.mem_cons, Prod.mk.injEq, List.not_mem_nil, or_false] at this
    rcases this with ⟨rfl, rfl⟩ | ⟨rfl, rfl⟩
    · exact lnwayZ20
    · exact lnwayZ21
noncomputable section
def twayG1 : Cfg := { top := ⟨23, over (opqS 10000 86) [(1, (SV.rom 0 (IE.lit 0) (IE.len (LE.rom 0)) none)), (3, (SV.ptr 0 0)), (5, (SV.ptr 1 0)), (8, (SV.int .i64 (IE.var .i64 1000)))], ogt (loopTodo (bodyOf (T own.Φ [] []) 23) 0), [], false, none⟩, rest := [], heap := [(0, .cells [(SV.int .i64 (IE.var .i64 1)), (SV.int .i64 (IE.var .i64 2)), (SV.int .i64 (IE.var .i64 3))] 23), (1, .cells [(SV.bool (BE.var 1)), (SV.int .i64 (IE.var .i64 4)), (SV.int .i64 (IE.var .i64 5)), (SV.int .i64 (IE.var .i64 6)), (SV.int .i64 (IE.var .i64 7))] 34)], next := 2, pc := .lit true :: ([] ++ [(BE.not (BE.fn 3 (AL.lst (LE.rom 0) (AL.int .i64 (IE.var .i64 1) (AL.int .i64 (IE.var .i64 2) (AL.int .i64 (IE.var .i64 3) AL.nil)))))), (BE.fn 2 (AL.int .i64 (IE.var .i64 7) AL.nil)), (BE.not (BE.le (IE.var .i64 1) (IE.var .i64 6))), (BE.le (IE.lit 0) (IE.var .i64 6)), (BE.eq (IE.len (LE.rom 0)) (IE.var .i64 1)), (BE.fn 1 (AL.int .i64 (IE.var .i64 2) (AL.int .i64 (IE.var .i64 3) AL.nil))), (BE.le (IE.var .i64 1) (IE.lit 64)), (BE.le (IE.lit 1) (IE.var .i64 1)), (BE.le (IE.lit 0) (IE.var .i64 1000)), (BE.le (IE.var .i64 1000) (IE.len (LE.rom 0)))] ++ (.and (.lit true) (.lit true)) :: [.not (.le (.len (.rom 0)) (.var .i64 1000))]) }
def tmwayG : List (Nat × Cfg) := [(0, startF 23 cWayG.pat (.lit true :: cWayG.pre)), (1, twayG1)]
def selwayG : Sel := [(23, 5000001, 0, 1)]
def wwayG0_0 : VW := (VW.cut 1 [(BE.lit true), (BE.le (IE.lit 1) (IE.var .i64 1)), (BE.le (IE.var .i64 1) (IE.lit 64)), (BE.fn 1 (AL.int .i64 (IE.var .i64 2) (AL.int .i64 (IE.var .i64 3) AL.nil))), (BE.eq (IE.len (LE.rom 0)) (IE.var .i64 1)), (BE.le (IE.lit 0) (IE.var .i64 6)), (BE.not (BE.le (IE.var .i64 1) (IE.var .i64 6))), (BE.fn 2 (AL.int .i64 (IE.var .i64 7) AL.nil)), (BE.not (BE.fn 3 (AL.lst (LE.rom 0) (AL.int .i64 (IE.var .i64 1) (AL.int .i64 (IE.var .i64 2) (AL.int .i64 (IE.var .i64 3) AL.nil))))))] (Sx.Sub.mk [(.i64, (1000, (IE.lit 0)))] [] [] [] [] []))
def vwwayG0 : List VW := [wwayG0_0]
def wwayG1_0 : VW := (VW.done [(BE.le (IE.var .i64 1) (IE.cel .i64 (LE.rom 0) (IE.var .i64 1000) 0)), (BE.le (IE.lit 0) (IE.cel .i64 (LE.rom 0) (IE.var .i64 1000) 0)), (BE.lit true), (BE.not (BE.fn 3 (AL.lst (LE.rom 0) (AL.int .i64 (IE.var .i64 1) (AL.int .i64 (IE.var .i64 2) (AL.int .i64 (IE.var .i64 3) AL.nil)))))), (BE.fn 2 (AL.int .i64 (IE.var .i64 7) AL.nil)), (BE.not (BE.le (IE.var .i64 1) (IE.var .i64 6))), (BE.le (IE.lit 0) (IE.var .i64 6)), (BE.eq (IE.len (LE.rom 0)) (IE.var .i64 1)), (BE.fn 1 (AL.int .i64 (IE.var .i64 2) (AL.int .i64 (IE.var .i64 3) AL.nil))), (BE.le (IE.var .i64 1) (IE.lit 64)), (BE.le (IE.lit 1) (IE.var .i64 1)), (BE.le (IE.lit 0) (IE.var .i64 1000)), (BE.le (IE.var .i64 1000) (IE.len (LE.rom 0))), (BE.and (BE.lit true) (BE.lit true)), (BE.not (BE.le (IE.len (LE.rom 0)) (IE.var .i64 1000)))] (some []))
def wwayG1_1 : VW := (VW.cut 1 [(BE.fn 2 (AL.int .i64 (IE.cel .i64 (LE.rom 0) (IE.var .i64 1000) 1) AL.nil)), (BE.not (BE.le (IE.var .i64 1) (IE.cel .i64 (LE.rom 0) (IE.var .i64 1000) 0))), (BE.le (IE.lit 0) (IE.cel .i64 (LE.rom 0) (IE.var .i64 1000) 0)), (BE.lit true), (BE.not (BE.fn 3 (AL.lst (LE.rom 0) (AL.int .i64 (IE.var .i64 1) (AL.int .i64 (IE.var .i64 2) (AL.int .i64 (IE.var .i64 3) AL.nil)))))), (BE.fn 2 (AL.int .i64 (IE.var .i64 7) AL.nil)), (BE.not (BE.le (IE.var .i64 1) (IE.var .i64 6))), (BE.le (IE.lit 0) (IE.var .i64 6)), (BE.eq (IE.len (LE.rom 0)) (IE.var .i64 1)), (BE.fn 1 (AL.int .i64 (IE.var .i64 2) (AL.int .i64 (IE.var .i64 3) AL.nil))), (BE.le (IE.var .i64 1) (IE.lit 64)), (BE.le (IE.lit 1) (IE.var .i64 1)), (BE.le (IE.lit 0) (IE.var .i64 1000)), (BE.le (IE.var .i64 1000) (IE.len (LE.rom 0))), (BE.and (BE.lit true) (BE.lit true)), (BE.not (BE.le (IE.len (LE.rom 0)) (IE.var .i64 1000)))] (Sx.Sub.mk [(.i64, (1000, (IE.add (IE.var .i64 1000) (IE.lit 1))))] [] [] [] [] []))
def wwayG1_2 : VW := (VW.done [(BE.not (BE.fn 2 (AL.int .i64 (IE.cel .i64 (LE.rom 0) (IE.var .i64 1000) 1) AL.nil))), (BE.not (BE.le (IE.var .i64 1) (IE.cel .i64 (LE.rom 0) (IE.var .i64 1000) 0))), (BE.le (IE.lit 0) (IE.cel .i64 (LE.rom 0) (IE.var .i64 1000) 0)), (BE.lit true), (BE.not (BE.fn 3 (AL.lst (LE.rom 0) (AL.int .i64 (IE.var .i64 1) (AL.int .i64 (IE.var .i64 2) (AL.int .i64 (IE.var .i64 3) AL.nil)))))), (BE.fn 2 (AL.int .i64 (IE.var .i64 7) AL.nil)), (BE.not (BE.le (IE.var .i64 1) (IE.var .i64 6))), (BE.le (IE.lit 0) (IE.var .i64 6)), (BE.eq (IE.len (LE.rom 0)) (IE.var .i64 1)), (BE.fn 1 (AL.int .i64 (IE.var .i64 2) (AL.int .i64 (IE.var .i64 3) AL.nil))), (BE.le (IE.var .i64 1) (IE.lit 64)), (BE.le (IE.lit 1) (IE.var .i64 1)), (BE.le (IE.lit 0) (IE.var .i64 1000)), (BE.le (IE.var .i64 1000) (IE.len (LE.rom 0))), (BE.and (BE.lit true) (BE.lit true)), (BE.not (BE.le (IE.len (LE.rom 0)) (IE.var .i64 1000)))] (some []))
def wwayG1_3 : VW := (VW.done [(BE.not (BE.le (IE.lit 0) (IE.cel .i64 (LE.rom 0) (IE.var .i64 1000) 0))), (BE.lit true), (BE.not (BE.fn 3 (AL.lst (LE.rom 0) (AL.int .i64 (IE.var .i64 1) (AL.int .i64 (IE.var .i64 2) (AL.int .i64 (IE.var .i64 3) AL.nil)))))), (BE.fn 2 (AL.int .i64 (IE.var .i64 7) AL.nil)), (BE.not (BE.le (IE.var .i64 1) (IE.var .i64 6))), (BE.le (IE.lit 0) (IE.var .i64 6)), (BE.eq (IE.len (LE.rom 0)) (IE.var .i64 1)), (BE.fn 1 (AL.int .i64 (IE.var .i64 2) (AL.int .i64 (IE.var .i64 3) AL.nil))), (BE.le (IE.var .i64 1) (IE.lit 64)), (BE.le (IE.lit 1) (IE.var .i64 1)), (BE.le (IE.lit 0) (IE.var .i64 1000)), (BE.le (IE.var .i64 1000) (IE.len (LE.rom 0))), (BE.and (BE.lit true) (BE.lit true)), (BE.not (BE.le (IE.len (LE.rom 0)) (IE.var .i64 1000)))] (some []))
def vwwayG1 : List VW := [wwayG1_0, wwayG1_1, wwayG1_2, wwayG1_3]
def vwwayG : Nat → List VW
  | 0 => vwwayG0
  | 1 => vwwayG1
  | _ => []
end
def invwayG : Nat → Lt → Prop
  | 1, l => guessN (l.i .i64 1) (l.i .i64 2) (l.i .i64 3) (l.z.rl 0) (l.i .i64 1000).toNat = true ∧ ¬ guessN (l.i .i64 1) (l.i .i64 2) (l.i .i64 3) (l.z.rl 0) (l.z.rl 0).length = true ∧ 0 ≤ (l.i .i64 1000) ∧ (l.i .i64 1000) ≤ ((l.z.rl 0).length : Int)
  | _, _ => True
def mswayG : Nat → Lt → Nat
  | 0, l => (l.z.rl 0).length + 2
  | 1, l => (l.z.rl 0).length - (l.i .i64 1000).toNat
  | _, _ => 0
theorem vcwayG0_0 : VC (T own.Φ cWayG.roms [cRRight, cSi, cRHop]) invwayG mswayG 0 (startF 23 cWayG.pat (.lit true :: cWayG.pre)) wwayG0_0 := by
  intro ρ kn hi hp
  have hF : ρ.z.F = own.Φ := kn.F
  simp only [h_nil, h_cons, d_le, d_eq, d_not, d_var, d_lit, d_cel, d_leq, d_fn, d_and, d_iff, IE.den, LE.den, AL.den, lenV, true_and, and_true, hF, pb1, pb2, pb3, pi1, pi2, pl2] at hp
  obtain ⟨p1, p2, p3, p4, p5, p6, p7, p8⟩ := hp
  refine (show (guessN (ρ.i .i64 1) (ρ.i .i64 2) (ρ.i .i64 3) (ρ.z.rl 0) (0 : Int).toNat = true ∧ ¬ guessN (ρ.i .i64 1) (ρ.i .i64 2) (ρ.i .i64 3) (ρ.z.rl 0) (ρ.z.rl 0).length = true ∧ 0 ≤ (0 : Int) ∧ (0 : Int) ≤ ((ρ.z.rl 0).length : Int)) ∧ (((ρ.z.rl 0).length - (0 : Int).toNat : Nat) < (ρ.z.rl 0).length + 2) from ?_)
  exact ⟨⟨rfl, by assumption, by omega, by omega⟩, by omega⟩
theorem vcwayG1_0 : VC (T own.Φ cWayG.roms [cRRight, cSi, cRHop]) invwayG mswayG 1 twayG1 wwayG1_0 := by
  intro ρ kn hi hp
  exact all_nil
theorem vcwayG1_1 : VC (T own.Φ cWayG.roms [cRRight, cSi, cRHop]) invwayG mswayG 1 twayG1 wwayG1_1 := by
  intro ρ kn hi hp
  have hi : guessN (ρ.i .i64 1) (ρ.i .i64 2) (ρ.i .i64 3) (ρ.z.rl 0) (ρ.i .i64 1000).toNat = true ∧ ¬ guessN (ρ.i .i64 1) (ρ.i .i64 2) (ρ.i .i64 3) (ρ.z.rl 0) (ρ.z.rl 0).length = true ∧ 0 ≤ (ρ.i .i64 1000) ∧ (ρ.i .i64 1000) ≤ ((ρ.z.rl 0).length : Int) := hi
  have hF : ρ.z.F = own.Φ := kn.F
  simp only [h_nil, h_cons, d_le, d_eq, d_not, d_var, d_lit, d_cel, d_leq, d_fn, d_and, d_iff, IE.den, LE.den, AL.den, lenV, true_and, and_true, hF, pb1, pb2, pb3, pi1, pi2, pl2] at hp
  obtain ⟨p1, p2, p3, p4, p5, p6, p7, p8, p9, p10, p11, p12, p13, p14⟩ := hp
  refine (show (guessN (ρ.i .i64 1) (ρ.i .i64 2) (ρ.i .i64 3) (ρ.z.rl 0) ((ρ.i .i64 1000) + (1 : Int)).toNat = true ∧ ¬ guessN (ρ.i .i64 1) (ρ.i .i64 2) (ρ.i .i64 3) (ρ.z.rl 0) (ρ.z.rl 0).length = true ∧ 0 ≤ ((ρ.i .i64 1000) + (1 : Int)) ∧ ((ρ.i .i64 1000) + (1 : Int)) ≤ ((ρ.z.rl 0).length : Int)) ∧ (((ρ.z.rl 0).length - ((ρ.i .i64 1000) + (1 : Int)).toNat : Nat) < (ρ.z.rl 0).length - (ρ.i .i64 1000).toNat) from ?_)
  refine ⟨⟨?_, hi.2.1, by omega, by omega⟩, by omega⟩
  rw [guess_go (by omega), hi.1, decide_eq_true (show 1 ≤ ρ.i .i64 1 ∧ ρ.i .i64 1 ≤ 64 by omega), show lsN (ρ.i .i64 2) (ρ.i .i64 3) = true by assumption, decide_eq_true (show 0 ≤ clampK .i64 (intV (celV (ρ.z.rl 0) (ρ.i .i64 1000) 0)) ∧ clampK .i64 (intV (celV (ρ.z.rl 0) (ρ.i .i64 1000) 0)) < ρ.i .i64 1 by omega), show hopN (clampK .i64 (intV (celV (ρ.z.rl 0) (ρ.i .i64 1000) 1))) = true by assumption]
  rfl
theorem vcwayG1_2 : VC (T own.Φ cWayG.roms [cRRight, cSi, cRHop]) invwayG mswayG 1 twayG1 wwayG1_2 := by
  intro ρ kn hi hp
  exact all_nil
theorem vcwayG1_3 : VC (T own.Φ cWayG.roms [cRRight, cSi, cRHop]) invwayG mswayG 1 twayG1 wwayG1_3 := by
  intro ρ kn hi hp
  exact all_nil
theorem vcswayG0 : ∀ v ∈ vwwayG 0, VC (T own.Φ cWayG.roms [cRRight, cSi, cRHop]) invwayG mswayG 0 (startF 23 cWayG.pat (.lit true :: cWayG.pre)) v := all_cons vcwayG0_0 (all_nil)
theorem okwayG0 : cfgOk (startF 23 cWayG.pat (.lit true :: cWayG.pre)) = true := by kernel_rfl
theorem sgwayG0 : segL cWayG.roms cWayG (seg (T own.Φ cWayG.roms [cRRight, cSi, cRHop]) selwayG 1500 tmwayG (startF 23 cWayG.pat (.lit true :: cWayG.pre))) = (true, codesR tmwayG (views (seg (T own.Φ cWayG.roms [cRRight, cSi, cRHop]) selwayG 1500 tmwayG (startF 23 cWayG.pat (.lit true :: cWayG.pre)))), vwwayG 0) := by kernel_rfl
theorem vcswayG1 : ∀ v ∈ vwwayG 1, VC (T own.Φ cWayG.roms [cRRight, cSi, cRHop]) invwayG mswayG 1 twayG1 v := all_cons vcwayG1_0 (all_cons vcwayG1_1 (all_cons vcwayG1_2 (all_cons vcwayG1_3 (all_nil))))
theorem okwayG1 : cfgOk twayG1 = true := by kernel_rfl
theorem sgwayG1 : segL cWayG.roms cWayG (seg (T own.Φ cWayG.roms [cRRight, cSi, cRHop]) selwayG 1500 tmwayG twayG1) = (true, codesR tmwayG (views (seg (T own.Φ cWayG.roms [cRRight, cSi, cRHop]) selwayG 1500 tmwayG twayG1)), vwwayG 1) := by kernel_rfl
theorem lnwayG0 : ∀ ρ, Known (T own.Φ cWayG.roms [cRRight, cSi, cRHop]) (startF 23 cWayG.pat (.lit true :: cWayG.pre)) ρ → invwayG 0 ρ.lt → Holds ρ (leanOf (Cfg.pc (startF 23 cWayG.pat (.lit true :: cWayG.pre)))) := by
  intro ρ _ _
  exact (show Holds ρ [] from fun p hp => by cases hp)
theorem lnwayG1 : ∀ ρ, Known (T own.Φ cWayG.roms [cRRight, cSi, cRHop]) twayG1 ρ → invwayG 1 ρ.lt → Holds ρ (leanOf (Cfg.pc twayG1)) := by
  intro ρ kn hi
  refine (show Holds ρ [.not (.le (.len (.rom 0)) (.var .i64 1000))] from ?_)
  have hi : guessN (ρ.i .i64 1) (ρ.i .i64 2) (ρ.i .i64 3) (ρ.z.rl 0) (ρ.i .i64 1000).toNat = true ∧ ¬ guessN (ρ.i .i64 1) (ρ.i .i64 2) (ρ.i .i64 3) (ρ.z.rl 0) (ρ.z.rl 0).length = true ∧ 0 ≤ (ρ.i .i64 1000) ∧ (ρ.i .i64 1000) ≤ ((ρ.z.rl 0).length : Int) := hi
  have hF : ρ.z.F = own.Φ := kn.F
  simp only [h_nil, h_cons, d_le, d_eq, d_not, d_var, d_lit, d_cel, d_leq, d_fn, d_and, d_iff, IE.den, LE.den, AL.den, lenV, true_and, and_true, hF, pb1, pb2, pb3, pi1, pi2, pl2]
  intro h
  exact hi.2.1 (by rw [show (ρ.z.rl 0).length = (ρ.i .i64 1000).toNat by omega]; exact hi.1)
theorem told_wayG : Sx.Told own.Φ cWayG := by
  refine told_of (cs := [cRRight, cSi, cRHop]) (all_cons told_rright (all_cons told_si (all_cons told_rhop (all_nil)))) (sel := selwayG) 1500 tmwayG invwayG mswayG vwwayG 0 (pc0 := (.lit true :: cWayG.pre)) (by kernel_rfl) (by kernel_rfl) (by kernel_rfl) (post_nil rfl) ?_ ?_ ?_ rfl (fun ρ _ h => h.cons (p := .lit true) (by simp only [BE.den])) (fun _ _ _ _ => trivial) ?_
  · intro k C h
    have := lk_mem h
    simp only [tmwayG, List.mem_cons, Prod.mk.injEq, List.not_mem_nil, or_false] at this
    rcases this with ⟨rfl, rfl⟩ | ⟨rfl, rfl⟩
    · exact okwayG0
    · exact okwayG1
  · intro k C h
    have := lk_mem h
    simp only [tmwayG, List.mem_cons, Prod.mk.injEq, List.not_mem_nil, or_false] at this
    rcases this with ⟨rfl, rfl⟩ | ⟨rfl, rfl⟩
    · exact sgwayG0
    · exact sgwayG1
  · intro k C h
    have := lk_mem h
    simp only [tmwayG, List.mem_cons, Prod.mk.injEq, List.not_mem_nil, or_false] at this
    rcases this with ⟨rfl, rfl⟩ | ⟨rfl, rfl⟩
    · exact vcswayG0
    · exact vcswayG1
  · intro k C h
    have := lk_mem h
    simp only [tmwayG, List.mem_cons, Prod.mk.injEq, List.not_mem_nil, or_false] at this
    rcases this with ⟨rfl, rfl⟩ | ⟨rfl, rfl⟩
    · exact lnwayG0
    · exact lnwayG1
noncomputable section
def tends1 : Cfg := { top := ⟨86, over (opqS 10000 38) [(0, (SV.func (Go.Fn.yield 6) [] [])), (2, (SV.ptr 3 0)), (4, (SV.ptr 7 0))], ogt (loopTodo (bodyOf (T own.Φ [] []) 86) 0), [], false, none⟩, rest := [⟨24, over (opqS 30000 24) [(8, (SV.ptr 2 0))], ogt (rangeTodo (bodyOf (T own.Φ [] []) 24) 0 6), [5], false, none⟩], heap := [(6, .loop .ready none 24 (over (opqS 200000 24) [(8, (SV.ptr 2 0))]) [20, 21] ((rangeCode (bodyOf (T own.Φ [] []) 24) 0).getD (.skip, .skip)).1 ((rangeCode (bodyOf (T own.Φ [] []) 24) 0).getD (.skip, .skip)).2 5), (3, .cells [(SV.rom 0 (IE.lit 0) (IE.len (LE.rom 0)) none)] 48), (7, .cells [(SV.bool (BE.lit false)), (SV.int .i64 (IE.var .i64 1000)), (SV.int .i64 (IE.var .i64 1001)), (SV.int .i64 (IE.var .i64 6)), (SV.int .i64 (IE.var .i64 1002)), (SV.int .i64 (IE.var .i64 1003))] 107), (5, .defd true), (2, .cells [(SV.int .i64 (IE.var .i64 1003))] 3)], next := 8, pc := .lit true :: ([] ++ [(BE.fn 3 (AL.lst (LE.rom 0) (AL.int .i64 (IE.var .i64 1) (AL.int .i64 (IE.var .i64 2) (AL.int .i64 (IE.var .i64 3) AL.nil))))), (BE.fn 2 (AL.int .i64 (IE.var .i64 7) AL.nil)), (BE.not (BE.le (IE.var .i64 1) (IE.var .i64 6))), (BE.le (IE.lit 0) (IE.var .i64 6)), (BE.eq (IE.len (LE.rom 0)) (IE.var .i64 1)), (BE.fn 1 (AL.int .i64 (IE.var .i64 2) (AL.int .i64 (IE.var .i64 3) AL.nil))), (BE.le (IE.var .i64 1) (IE.lit 64)), (BE.le (IE.lit 1) (IE.var .i64 1))] ++ (.and (.lit true) (.lit true)) :: [.le (.lit 0) (.var .i64 1003), .not (.le (.len (.rom 0)) (.var .i64 1003))]) }
def tmends : List (Nat × Cfg) := [(0, startF 24 cEnds.pat (.lit true :: cEnds.pre)), (1, tends1)]
def selends : Sel := [(86, 1, 1, 1)]
def wends0_0 : VW := (VW.cut 1 [(BE.lit true), (BE.le (IE.lit 1) (IE.var .i64 1)), (BE.le (IE.var .i64 1) (IE.lit 64)), (BE.fn 1 (AL.int .i64 (IE.var .i64 2) (AL.int .i64 (IE.var .i64 3) AL.nil))), (BE.eq (IE.len (LE.rom 0)) (IE.var .i64 1)), (BE.le (IE.lit 0) (IE.var .i64 6)), (BE.not (BE.le (IE.var .i64 1) (IE.var .i64 6))), (BE.fn 2 (AL.int .i64 (IE.var .i64 7) AL.nil)), (BE.fn 3 (AL.lst (LE.rom 0) (AL.int .i64 (IE.var .i64 1) (AL.int .i64 (IE.var .i64 2) (AL.int .i64 (IE.var .i64 3) AL.nil)))))] (Sx.Sub.mk [(.i64, (1003, (IE.var .i64 6))), (.i64, (1002, (IE.var .i64 7))), (.i64, (1001, (IE.var .i64 5))), (.i64, (1000, (IE.var .i64 4)))] [] [] [] [] []))
def vwends0 : List VW := [wends0_0]
def wends1_0 : VW := (VW.done [(BE.eq (IE.cel .i64 (LE.rom 0) (IE.var .i64 1003) 0) (IE.var .i64 1003)), (BE.lit true), (BE.fn 3 (AL.lst (LE.rom 0) (AL.int .i64 (IE.var .i64 1) (AL.int .i64 (IE.var .i64 2) (AL.int .i64 (IE.var .i64 3) AL.nil))))), (BE.fn 2 (AL.int .i64 (IE.var .i64 7) AL.nil)), (BE.not (BE.le (IE.var .i64 1) (IE.var .i64 6))), (BE.le (IE.lit 0) (IE.var .i64 6)), (BE.eq (IE.len (LE.rom 0)) (IE.var .i64 1)), (BE.fn 1 (AL.int .i64 (IE.var .i64 2) (AL.int .i64 (IE.var .i64 3) AL.nil))), (BE.le (IE.var .i64 1) (IE.lit 64)), (BE.le (IE.lit 1) (IE.var .i64 1)), (BE.and (BE.lit true) (BE.lit true)), (BE.le (IE.lit 0) (IE.var .i64 1003)), (BE.not (BE.le (IE.len (LE.rom 0)) (IE.var .i64 1003)))] (some [(G.i (IE.fn .i64 1 (AL.lst (LE.rom 0) (AL.int .i64 (IE.var .i64 6) (AL.int .i64 (IE.var .i64 7) AL.nil)))) (IE.var .i64 1003))]))
def wends1_1 : VW := (VW.done [(BE.eq (IE.cel .i64 (LE.rom 0) (IE.var .i64 1003) 0) (IE.var .i64 6)), (BE.not (BE.eq (IE.cel .i64 (LE.rom 0) (IE.var .i64 1003) 0) (IE.var .i64 1003))), (BE.lit true), (BE.fn 3 (AL.lst (LE.rom 0) (AL.int .i64 (IE.var .i64 1) (AL.int .i64 (IE.var .i64 2) (AL.int .i64 (IE.var .i64 3) AL.nil))))), (BE.fn 2 (AL.int .i64 (IE.var .i64 7) AL.nil)), (BE.not (BE.le (IE.var .i64 1) (IE.var .i64 6))), (BE.le (IE.lit 0) (IE.var .i64 6)), (BE.eq (IE.len (LE.rom 0)) (IE.var .i64 1)), (BE.fn 1 (AL.int .i64 (IE.var .i64 2) (AL.int .i64 (IE.var .i64 3) AL.nil))), (BE.le (IE.var .i64 1) (IE.lit 64)), (BE.le (IE.lit 1) (IE.var .i64 1)), (BE.and (BE.lit true) (BE.lit true)), (BE.le (IE.lit 0) (IE.var .i64 1003)), (BE.not (BE.le (IE.len (LE.rom 0)) (IE.var .i64 1003)))] (some [(G.i (IE.fn .i64 1 (AL.lst (LE.rom 0) (AL.int .i64 (IE.var .i64 6) (AL.int .i64 (IE.var .i64 7) AL.nil)))) (IE.var .i64 1003))]))
def wends1_2 : VW := (VW.done [(BE.le (IE.cel .i64 (LE.rom 0) (IE.var .i64 1003) 1) (IE.var .i64 1002)), (BE.not (BE.eq (IE.cel .i64 (LE.rom 0) (IE.var .i64 1003) 0) (IE.var .i64 6))), (BE.not (BE.eq (IE.cel .i64 (LE.rom 0) (IE.var .i64 1003) 0) (IE.var .i64 1003))), (BE.lit true), (BE.fn 3 (AL.lst (LE.rom 0) (AL.int .i64 (IE.var .i64 1) (AL.int .i64 (IE.var .i64 2) (AL.int .i64 (IE.var .i64 3) AL.nil))))), (BE.fn 2 (AL.int .i64 (IE.var .i64 7) AL.nil)), (BE.not (BE.le (IE.var .i64 1) (IE.var .i64 6))), (BE.le (IE.lit 0) (IE.var .i64 6)), (BE.eq (IE.len (LE.rom 0)) (IE.var .i64 1)), (BE.fn 1 (AL.int .i64 (IE.var .i64 2) (AL.int .i64 (IE.var .i64 3) AL.nil))), (BE.le (IE.var .i64 1) (IE.lit 64)), (BE.le (IE.lit 1) (IE.var .i64 1)), (BE.and (BE.lit true) (BE.lit true)), (BE.le (IE.lit 0) (IE.var .i64 1003)), (BE.not (BE.le (IE.len (LE.rom 0)) (IE.var .i64 1003)))] (some [(G.i (IE.fn .i64 1 (AL.lst (LE.rom 0) (AL.int .i64 (IE.var .i64 6) (AL.int .i64 (IE.var .i64 7) AL.nil)))) (IE.var .i64 1003))]))
def wends1_3 : VW := (VW.cut 1 [(BE.not (BE.le (IE.cel .i64 (LE.rom 0) (IE.var .i64 1003) 1) (IE.var .i64 1002))), (BE.not (BE.eq (IE.cel .i64 (LE.rom 0) (IE.var .i64 1003) 0) (IE.var .i64 6))), (BE.not (BE.eq (IE.cel .i64 (LE.rom 0) (IE.var .i64 1003) 0) (IE.var .i64 1003))), (BE.lit true), (BE.fn 3 (AL.lst (LE.rom 0) (AL.int .i64 (IE.var .i64 1) (AL.int .i64 (IE.var .i64 2) (AL.int .i64 (IE.var .i64 3) AL.nil))))), (BE.fn 2 (AL.int .i64 (IE.var .i64 7) AL.nil)), (BE.not (BE.le (IE.var .i64 1) (IE.var .i64 6))), (BE.le (IE.lit 0) (IE.var .i64 6)), (BE.eq (IE.len (LE.rom 0)) (IE.var .i64 1)), (BE.fn 1 (AL.int .i64 (IE.var .i64 2) (AL.int .i64 (IE.var .i64 3) AL.nil))), (BE.le (IE.var .i64 1) (IE.lit 64)), (BE.le (IE.lit 1) (IE.var .i64 1)), (BE.and (BE.lit true) (BE.lit true)), (BE.le (IE.lit 0) (IE.var .i64 1003)), (BE.not (BE.le (IE.len (LE.rom 0)) (IE.var .i64 1003)))] (Sx.Sub.mk [(.i64, (1003, (IE.cel .i64 (LE.rom 0) (IE.var .i64 1003) 0))), (.i64, (1002, (IE.cel .i64 (LE.rom 0) (IE.var .i64 1003) 1))), (.i64, (1001, (IE.cel .i64 (LE.rom 0) (IE.var .i64 1003) 1))), (.i64, (1000, (IE.cel .i64 (LE.rom 0) (IE.var .i64 1003) 0)))] [] [] [] [] []))
def vwends1 : List VW := [wends1_0, wends1_1, wends1_2, wends1_3]
def vwends : Nat → List VW
  | 0 => vwends0
  | 1 => vwends1
  | _ => []
end
def invends : Nat → Lt → Prop
  | 1, l => (guessN (l.i .i64 1) (l.i .i64 2) (l.i .i64 3) (l.z.rl 0) (l.z.rl 0).length = true ∧ ((l.z.rl 0).length : Int) = (l.i .i64 1) ∧ (l.i .i64 1) ≤ 64 ∧ 0 ≤ (l.i .i64 6) ∧ (l.i .i64 6) < (l.i .i64 1) ∧ 1 ≤ (l.i .i64 1)) ∧ ∃ t : Nat, (l.i .i64 1003) = (stP (l.z.rl 0) (l.i .i64 6) (l.i .i64 7) t).1 ∧ (l.i .i64 1002) = (stP (l.z.rl 0) (l.i .i64 6) (l.i .i64 7) t).2 ∧ firstP (stayP (l.z.rl 0) (l.i .i64 6) (l.i .i64 7)) t = t
  | _, _ => True
def msends : Nat → Lt → Nat
  | 0, l => (l.z.rl 0).length + 1
  | 1, l => (l.z.rl 0).length - lowC (l.z.rl 0) (l.i .i64 1002) (l.z.rl 0).length
  | _, _ => 0
theorem vcends0_0 : VC (T own.Φ cEnds.roms [cWorks, cRight, cRRight, cSi, cHop, cRHop, cSeeks]) invends msends 0 (startF 24 cEnds.pat (.lit true :: cEnds.pre)) wends0_0 := by
  intro ρ kn hi hp
  have hF : ρ.z.F = own.Φ := kn.F
  simp only [h_nil, h_cons, d_le, d_eq, d_not, d_var, d_lit, d_cel, d_leq, d_fn, d_and, d_iff, IE.den, LE.den, AL.den, lenV, true_and, and_true, hF, pb1, pb2, pb3, pi1, pi2, pl2] at hp
  obtain ⟨p1, p2, p3, p4, p5, p6, p7, p8⟩ := hp
  refine (show ((guessN (ρ.i .i64 1) (ρ.i .i64 2) (ρ.i .i64 3) (ρ.z.rl 0) (ρ.z.rl 0).length = true ∧ ((ρ.z.rl 0).length : Int) = (ρ.i .i64 1) ∧ (ρ.i .i64 1) ≤ 64 ∧ 0 ≤ (ρ.i .i64 6) ∧ (ρ.i .i64 6) < (ρ.i .i64 1) ∧ 1 ≤ (ρ.i .i64 1)) ∧ ∃ t : Nat, (ρ.i .i64 6) = (stP (ρ.z.rl 0) (ρ.i .i64 6) (ρ.i .i64 7) t).1 ∧ (ρ.i .i64 7) = (stP (ρ.z.rl 0) (ρ.i .i64 6) (ρ.i .i64 7) t).2 ∧ firstP (stayP (ρ.z.rl 0) (ρ.i .i64 6) (ρ.i .i64 7)) t = t) ∧ (((ρ.z.rl 0).length - lowC (ρ.z.rl 0) (ρ.i .i64 7) (ρ.z.rl 0).length : Nat) < (ρ.z.rl 0).length + 1) from ?_)
  exact ⟨⟨⟨by assumption, by omega, by omega, by omega, by omega, by omega⟩, 0, rfl, rfl, rfl⟩, by omega⟩
theorem vcends1_0 : VC (T own.Φ cEnds.roms [cWorks, cRight, cRRight, cSi, cHop, cRHop, cSeeks]) invends msends 1 tends1 wends1_0 := by
  intro ρ kn hi hp
  have hi : (guessN (ρ.i .i64 1) (ρ.i .i64 2) (ρ.i .i64 3) (ρ.z.rl 0) (ρ.z.rl 0).length = true ∧ ((ρ.z.rl 0).length : Int) = (ρ.i .i64 1) ∧ (ρ.i .i64 1) ≤ 64 ∧ 0 ≤ (ρ.i .i64 6) ∧ (ρ.i .i64 6) < (ρ.i .i64 1) ∧ 1 ≤ (ρ.i .i64 1)) ∧ ∃ t : Nat, (ρ.i .i64 1003) = (stP (ρ.z.rl 0) (ρ.i .i64 6) (ρ.i .i64 7) t).1 ∧ (ρ.i .i64 1002) = (stP (ρ.z.rl 0) (ρ.i .i64 6) (ρ.i .i64 7) t).2 ∧ firstP (stayP (ρ.z.rl 0) (ρ.i .i64 6) (ρ.i .i64 7)) t = t := hi
  have hF : ρ.z.F = own.Φ := kn.F
  simp only [h_nil, h_cons, d_le, d_eq, d_not, d_var, d_lit, d_cel, d_leq, d_fn, d_and, d_iff, IE.den, LE.den, AL.den, lenV, true_and, and_true, hF, pb1, pb2, pb3, pi1, pi2, pl2] at hp
  obtain ⟨p1, p2, p3, p4, p5, p6, p7, p8, p9, p10, p11⟩ := hp
  refine all_cons (show (clampK .i64 (ρ.z.F.i 1 [.lst (ρ.z.rl 0), .int .i64 (ρ.i .i64 6), .int .i64 (ρ.i .i64 7)])) = (ρ.i .i64 1003) from ?_) (all_nil)
  all_goals try simp only [hF, pb1, pb2, pb3, pi1, pi2, pl2]
  obtain ⟨⟨v1, v2, v3, v4, v5, v6⟩, t, hm, hc, hf⟩ := hi
  have rl := run_le v1 v2 v4 v5 hf
  have rg := st_rng v1 v2 v4 v5 (h := ρ.i .i64 7) t
  have hs : stayP (ρ.z.rl 0) (ρ.i .i64 6) (ρ.i .i64 7) t = true := (stay_t hm hc).trans (stay_1 (by assumption))
  rw [end_eq hf hs (by omega), ← hm]
  exact clampS (by omega) (by omega)
theorem vcends1_1 : VC (T own.Φ cEnds.roms [cWorks, cRight, cRRight, cSi, cHop, cRHop, cSeeks]) invends msends 1 tends1 wends1_1 := by
  intro ρ kn hi hp
  have hi : (guessN (ρ.i .i64 1) (ρ.i .i64 2) (ρ.i .i64 3) (ρ.z.rl 0) (ρ.z.rl 0).length = true ∧ ((ρ.z.rl 0).length : Int) = (ρ.i .i64 1) ∧ (ρ.i .i64 1) ≤ 64 ∧ 0 ≤ (ρ.i .i64 6) ∧ (ρ.i .i64 6) < (ρ.i .i64 1) ∧ 1 ≤ (ρ.i .i64 1)) ∧ ∃ t : Nat, (ρ.i .i64 1003) = (stP (ρ.z.rl 0) (ρ.i .i64 6) (ρ.i .i64 7) t).1 ∧ (ρ.i .i64 1002) = (stP (ρ.z.rl 0) (ρ.i .i64 6) (ρ.i .i64 7) t).2 ∧ firstP (stayP (ρ.z.rl 0) (ρ.i .i64 6) (ρ.i .i64 7)) t = t := hi
  have hF : ρ.z.F = own.Φ := kn.F
  simp only [h_nil, h_cons, d_le, d_eq, d_not, d_var, d_lit, d_cel, d_leq, d_fn, d_and, d_iff, IE.den, LE.den, AL.den, lenV, true_and, and_true, hF, pb1, pb2, pb3, pi1, pi2, pl2] at hp
  obtain ⟨p1, p2, p3, p4, p5, p6, p7, p8, p9, p10, p11, p12⟩ := hp
  refine all_cons (show (clampK .i64 (ρ.z.F.i 1 [.lst (ρ.z.rl 0), .int .i64 (ρ.i .i64 6), .int .i64 (ρ.i .i64 7)])) = (ρ.i .i64 1003) from ?_) (all_nil)
  all_goals try simp only [hF, pb1, pb2, pb3, pi1, pi2, pl2]
  obtain ⟨⟨v1, v2, v3, v4, v5, v6⟩, t, hm, hc, hf⟩ := hi
  have rl := run_le v1 v2 v4 v5 hf
  have rg := st_rng v1 v2 v4 v5 (h := ρ.i .i64 7) t
  have hs : stayP (ρ.z.rl 0) (ρ.i .i64 6) (ρ.i .i64 7) t = true := (stay_t hm hc).trans (stay_2 (by assumption))
  rw [end_eq hf hs (by omega), ← hm]
  exact clampS (by omega) (by omega)
theorem vcends1_2 : VC (T own.Φ cEnds.roms [cWorks, cRight, cRRight, cSi, cHop, cRHop, cSeeks]) invends msends 1 tends1 wends1_2 := by
  intro ρ kn hi hp
  have hi : (guessN (ρ.i .i64 1) (ρ.i .i64 2) (ρ.i .i64 3) (ρ.z.rl 0) (ρ.z.rl 0).length = true ∧ ((ρ.z.rl 0).length : Int) = (ρ.i .i64 1) ∧ (ρ.i .i64 1) ≤ 64 ∧ 0 ≤ (ρ.i .i64 6) ∧ (ρ.i .i64 6) < (ρ.i .i64 1) ∧ 1 ≤ (ρ.i .i64 1)) ∧ ∃ t : Nat, (ρ.i .i64 1003) = (stP (ρ.z.rl 0) (ρ.i .i64 6) (ρ.i .i64 7) t).1 ∧ (ρ.i .i64 1002) = (stP (ρ.z.rl 0) (ρ.i .i64 6) (ρ.i .i64 7) t).2 ∧ firstP (stayP (ρ.z.rl 0) (ρ.i .i64 6) (ρ.i .i64 7)) t = t := hi
  have hF : ρ.z.F = own.Φ := kn.F
  simp only [h_nil, h_cons, d_le, d_eq, d_not, d_var, d_lit, d_cel, d_leq, d_fn, d_and, d_iff, IE.den, LE.den, AL.den, lenV, true_and, and_true, hF, pb1, pb2, pb3, pi1, pi2, pl2] at hp
  obtain ⟨p1, p2, p3, p4, p5, p6, p7, p8, p9, p10, p11, p12, p13⟩ := hp
  refine all_cons (show (clampK .i64 (ρ.z.F.i 1 [.lst (ρ.z.rl 0), .int .i64 (ρ.i .i64 6), .int .i64 (ρ.i .i64 7)])) = (ρ.i .i64 1003) from ?_) (all_nil)
  all_goals try simp only [hF, pb1, pb2, pb3, pi1, pi2, pl2]
  obtain ⟨⟨v1, v2, v3, v4, v5, v6⟩, t, hm, hc, hf⟩ := hi
  have rl := run_le v1 v2 v4 v5 hf
  have rg := st_rng v1 v2 v4 v5 (h := ρ.i .i64 7) t
  have hs : stayP (ρ.z.rl 0) (ρ.i .i64 6) (ρ.i .i64 7) t = true := (stay_t hm hc).trans (stay_3 (by assumption))
  rw [end_eq hf hs (by omega), ← hm]
  exact clampS (by omega) (by omega)
theorem vcends1_3 : VC (T own.Φ cEnds.roms [cWorks, cRight, cRRight, cSi, cHop, cRHop, cSeeks]) invends msends 1 tends1 wends1_3 := by
  intro ρ kn hi hp
  have hi : (guessN (ρ.i .i64 1) (ρ.i .i64 2) (ρ.i .i64 3) (ρ.z.rl 0) (ρ.z.rl 0).length = true ∧ ((ρ.z.rl 0).length : Int) = (ρ.i .i64 1) ∧ (ρ.i .i64 1) ≤ 64 ∧ 0 ≤ (ρ.i .i64 6) ∧ (ρ.i .i64 6) < (ρ.i .i64 1) ∧ 1 ≤ (ρ.i .i64 1)) ∧ ∃ t : Nat, (ρ.i .i64 1003) = (stP (ρ.z.rl 0) (ρ.i .i64 6) (ρ.i .i64 7) t).1 ∧ (ρ.i .i64 1002) = (stP (ρ.z.rl 0) (ρ.i .i64 6) (ρ.i .i64 7) t).2 ∧ firstP (stayP (ρ.z.rl 0) (ρ.i .i64 6) (ρ.i .i64 7)) t = t := hi
  have hF : ρ.z.F = own.Φ := kn.F
  simp only [h_nil, h_cons, d_le, d_eq, d_not, d_var, d_lit, d_cel, d_leq, d_fn, d_and, d_iff, IE.den, LE.den, AL.den, lenV, true_and, and_true, hF, pb1, pb2, pb3, pi1, pi2, pl2] at hp
  obtain ⟨p1, p2, p3, p4, p5, p6, p7, p8, p9, p10, p11, p12, p13⟩ := hp
  refine (show ((guessN (ρ.i .i64 1) (ρ.i .i64 2) (ρ.i .i64 3) (ρ.z.rl 0) (ρ.z.rl 0).length = true ∧ ((ρ.z.rl 0).length : Int) = (ρ.i .i64 1) ∧ (ρ.i .i64 1) ≤ 64 ∧ 0 ≤ (ρ.i .i64 6) ∧ (ρ.i .i64 6) < (ρ.i .i64 1) ∧ 1 ≤ (ρ.i .i64 1)) ∧ ∃ t : Nat, (clampK .i64 (intV (celV (ρ.z.rl 0) (ρ.i .i64 1003) 0))) = (stP (ρ.z.rl 0) (ρ.i .i64 6) (ρ.i .i64 7) t).1 ∧ (clampK .i64 (intV (celV (ρ.z.rl 0) (ρ.i .i64 1003) 1))) = (stP (ρ.z.rl 0) (ρ.i .i64 6) (ρ.i .i64 7) t).2 ∧ firstP (stayP (ρ.z.rl 0) (ρ.i .i64 6) (ρ.i .i64 7)) t = t) ∧ (((ρ.z.rl 0).length - lowC (ρ.z.rl 0) (clampK .i64 (intV (celV (ρ.z.rl 0) (ρ.i .i64 1003) 1))) (ρ.z.rl 0).length : Nat) < (ρ.z.rl 0).length - lowC (ρ.z.rl 0) (ρ.i .i64 1002) (ρ.z.rl 0).length) from ?_)
  obtain ⟨⟨v1, v2, v3, v4, v5, v6⟩, t, hm, hc, hf⟩ := hi
  have rl := run_le v1 v2 v4 v5 hf
  have rg := st_rng v1 v2 v4 v5 (h := ρ.i .i64 7) t
  have hs : stayP (ρ.z.rl 0) (ρ.i .i64 6) (ρ.i .i64 7) t = false := (stay_t hm hc).trans (stay_no (by assumption) (by assumption) (by assumption))
  have l1 : lowC (ρ.z.rl 0) (ρ.i .i64 1002) (ρ.z.rl 0).length < lowC (ρ.z.rl 0) (clampK .i64 (intV (celV (ρ.z.rl 0) (ρ.i .i64 1003) 1))) (ρ.z.rl 0).length := low_lt (by omega) (by omega) (by assumption)
  have l2 := low_le (ρ.z.rl 0) (clampK .i64 (intV (celV (ρ.z.rl 0) (ρ.i .i64 1003) 1))) (ρ.z.rl 0).length
  refine ⟨⟨⟨v1, v2, v3, v4, v5, v6⟩, t + 1, ?_, ?_, first_no hf hs⟩, by omega⟩
  · show _ = ndI (ρ.z.rl 0) (stP (ρ.z.rl 0) (ρ.i .i64 6) (ρ.i .i64 7) t).1
    rw [← hm]; rfl
  · show _ = hpI (ρ.z.rl 0) (stP (ρ.z.rl 0) (ρ.i .i64 6) (ρ.i .i64 7) t).1
    rw [← hm]; rfl
theorem vcsends0 : ∀ v ∈ vwends 0, VC (T own.Φ cEnds.roms [cWorks, cRight, cRRight, cSi, cHop, cRHop, cSeeks]) invends msends 0 (startF 24 cEnds.pat (.lit true :: cEnds.pre)) v := all_cons vcends0_0 (all_nil)
theorem okends0 : cfgOk (startF 24 cEnds.pat (.lit true :: cEnds.pre)) = true := by kernel_rfl
theorem sgends0 : segL cEnds.roms cEnds (seg (T own.Φ cEnds.roms [cWorks, cRight, cRRight, cSi, cHop, cRHop, cSeeks]) selends 1500 tmends (startF 24 cEnds.pat (.lit true :: cEnds.pre))) = (true, codesR tmends (views (seg (T own.Φ cEnds.roms [cWorks, cRight, cRRight, cSi, cHop, cRHop, cSeeks]) selends 1500 tmends (startF 24 cEnds.pat (.lit true :: cEnds.pre)))), vwends 0) := by kernel_rfl
theorem vcsends1 : ∀ v ∈ vwends 1, VC (T own.Φ cEnds.roms [cWorks, cRight, cRRight, cSi, cHop, cRHop, cSeeks]) invends msends 1 tends1 v := all_cons vcends1_0 (all_cons vcends1_1 (all_cons vcends1_2 (all_cons vcends1_3 (all_nil))))
theorem okends1 : cfgOk tends1 = true := by kernel_rfl
theorem sgends1 : segL cEnds.roms cEnds (seg (T own.Φ cEnds.roms [cWorks, cRight, cRRight, cSi, cHop, cRHop, cSeeks]) selends 1500 tmends tends1) = (true, codesR tmends (views (seg (T own.Φ cEnds.roms [cWorks, cRight, cRRight, cSi, cHop, cRHop, cSeeks]) selends 1500 tmends tends1)), vwends 1) := by kernel_rfl
theorem lnends0 : ∀ ρ, Known (T own.Φ cEnds.roms [cWorks, cRight, cRRight, cSi, cHop, cRHop, cSeeks]) (startF 24 cEnds.pat (.lit true :: cEnds.pre)) ρ → invends 0 ρ.lt → Holds ρ (leanOf (Cfg.pc (startF 24 cEnds.pat (.lit true :: cEnds.pre)))) := by
  intro ρ _ _
  exact (show Holds ρ [] from fun p hp => by cases hp)
theorem lnends1 : ∀ ρ, Known (T own.Φ cEnds.roms [cWorks, cRight, cRRight, cSi, cHop, cRHop, cSeeks]) tends1 ρ → invends 1 ρ.lt → Holds ρ (leanOf (Cfg.pc tends1)) := by
  intro ρ kn hi
  refine (show Holds ρ [.le (.lit 0) (.var .i64 1003), .not (.le (.len (.rom 0)) (.var .i64 1003))] from ?_)
  have hi : (guessN (ρ.i .i64 1) (ρ.i .i64 2) (ρ.i .i64 3) (ρ.z.rl 0) (ρ.z.rl 0).length = true ∧ ((ρ.z.rl 0).length : Int) = (ρ.i .i64 1) ∧ (ρ.i .i64 1) ≤ 64 ∧ 0 ≤ (ρ.i .i64 6) ∧ (ρ.i .i64 6) < (ρ.i .i64 1) ∧ 1 ≤ (ρ.i .i64 1)) ∧ ∃ t : Nat, (ρ.i .i64 1003) = (stP (ρ.z.rl 0) (ρ.i .i64 6) (ρ.i .i64 7) t).1 ∧ (ρ.i .i64 1002) = (stP (ρ.z.rl 0) (ρ.i .i64 6) (ρ.i .i64 7) t).2 ∧ firstP (stayP (ρ.z.rl 0) (ρ.i .i64 6) (ρ.i .i64 7)) t = t := hi
  have hF : ρ.z.F = own.Φ := kn.F
  simp only [h_nil, h_cons, d_le, d_eq, d_not, d_var, d_lit, d_cel, d_leq, d_fn, d_and, d_iff, IE.den, LE.den, AL.den, lenV, true_and, and_true, hF, pb1, pb2, pb3, pi1, pi2, pl2]
  obtain ⟨⟨v1, v2, v3, v4, v5, v6⟩, t, hm, hc, hf⟩ := hi
  have := st_rng v1 v2 v4 v5 (h := ρ.i .i64 7) t
  rw [hm]
  omega
theorem told_ends : Sx.Told own.Φ cEnds := by
  refine told_of (cs := [cWorks, cRight, cRRight, cSi, cHop, cRHop, cSeeks]) (all_cons told_works (all_cons told_right (all_cons told_rright (all_cons told_si (all_cons told_hop (all_cons told_rhop (all_cons told_seeks (all_nil)))))))) (sel := selends) 1500 tmends invends msends vwends 0 (pc0 := (.lit true :: cEnds.pre)) (by kernel_rfl) (by kernel_rfl) (by kernel_rfl) (post_nil rfl) ?_ ?_ ?_ rfl (fun ρ _ h => h.cons (p := .lit true) (by simp only [BE.den])) (fun _ _ _ _ => trivial) ?_
  · intro k C h
    have := lk_mem h
    simp only [tmends, List.mem_cons, Prod.mk.injEq, List.not_mem_nil, or_false] at this
    rcases this with ⟨rfl, rfl⟩ | ⟨rfl, rfl⟩
    · exact okends0
    · exact okends1
  · intro k C h
    have := lk_mem h
    simp only [tmends, List.mem_cons, Prod.mk.injEq, List.not_mem_nil, or_false] at this
    rcases this with ⟨rfl, rfl⟩ | ⟨rfl, rfl⟩
    · exact sgends0
    · exact sgends1
  · intro k C h
    have := lk_mem h
    simp only [tmends, List.mem_cons, Prod.mk.injEq, List.not_mem_nil, or_false] at this
    rcases this with ⟨rfl, rfl⟩ | ⟨rfl, rfl⟩
    · exact vcsends0
    · exact vcsends1
  · intro k C h
    have := lk_mem h
    simp only [tmends, List.mem_cons, Prod.mk.injEq, List.not_mem_nil, or_false] at this
    rcases this with ⟨rfl, rfl⟩ | ⟨rfl, rfl⟩
    · exact lnends0
    · exact lnends1
end Go.Proofs.Ytepodgakaajcmaa.own
