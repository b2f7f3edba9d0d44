/- Layer stat: the law StatHolds. No condition. -/
import Derived.Test.YtjgkaimgocnkmabGb
set_option linter.unusedVariables false
set_option linter.unusedSimpArgs false
set_option linter.deprecated false
namespace Go.Proofs.Ytjgkaimgocnkmab.stat
open Go Go.Proofs.Ytjgkaimgocnkmab.Sx
noncomputable section
abbrev TTholds : Tab := T stat.Φ cHolds.roms [cWorks, cRight, cSi, cFrame, cFold, cSites1, cSites2, cRightL, cSame, cNew, cLearnA, cLearnB, cLearnC, cLearnD]
def tholds1 : Cfg := { top := ⟨7, over (opqS 10000 211) [(1, (SV.rom 0 (IE.lit 0) (IE.len (LE.rom 0)) none)), (2, (SV.rom 1 (IE.lit 0) (IE.len (LE.rom 1)) none)), (3, (SV.ptr 0 0)), (7, (SV.sll 1 2 4 (IE.lit 0) (IE.len (LE.var 1002)) none)), (9, (SV.sll 3 4 4 (IE.lit 0) (IE.len (LE.fn 4 (AL.int .i64 (IE.wrap .i64 (IE.mul (IE.var .i64 1) (IE.var .i64 3))) AL.nil))) none)), (11, (SV.int .i64 (IE.var .i64 1000)))], ogt (loopTodo (bodyOf (T stat.Φ [] []) 7) 0), [], false, none⟩, rest := [], heap := [(0, .cells [(SV.int .i64 (IE.var .i64 1)), (SV.int .i64 (IE.var .i64 2)), (SV.int .i64 (IE.var .i64 3))] 23), (1, .rowl (LE.var 1002) (IE.len (LE.var 1002)) [(CK.int .i64), CK.bool, (CK.int .i64), (CK.int .i64)] 26 2 4), (3, .rowl (LE.fn 4 (AL.int .i64 (IE.wrap .i64 (IE.mul (IE.var .i64 1) (IE.var .i64 3))) AL.nil)) (IE.len (LE.fn 4 (AL.int .i64 (IE.wrap .i64 (IE.mul (IE.var .i64 1) (IE.var .i64 3))) AL.nil))) [(CK.int .i64), CK.bool, (CK.int .i64), (CK.int .i64)] 26 4 4)], next := 5, pc := .lit true :: ([shapeF 1 2 3, .le manyC (.lit 20), .eq (.len (.var 1002)) manyC, allF (.var 1002), .le (.lit 0) (.var .i64 1000), .le (.var .i64 1000) (ln 0)] ++ [(BE.fn 2 (AL.int .i64 (IE.var .i64 1) (AL.int .i64 (IE.var .i64 2) (AL.int .i64 (IE.var .i64 3) AL.nil)))), (BE.le (IE.wrap .i64 (IE.mul (IE.var .i64 1) (IE.var .i64 3))) (IE.lit 20)), (BE.le (IE.len (LE.rom 0)) (IE.lit 40)), (BE.le (IE.len (LE.rom 1)) (IE.lit 80)), (BE.eq (IE.len (LE.fn 4 (AL.int .i64 (IE.wrap .i64 (IE.mul (IE.var .i64 1) (IE.var .i64 3))) AL.nil))) (IE.wrap .i64 (IE.mul (IE.var .i64 1) (IE.var .i64 3)))), (BE.fn 1 (AL.lst (LE.fn 4 (AL.int .i64 (IE.wrap .i64 (IE.mul (IE.var .i64 1) (IE.var .i64 3))) AL.nil)) AL.nil)), (BE.eq (IE.len (LE.fn 4 (AL.int .i64 (IE.wrap .i64 (IE.mul (IE.var .i64 1) (IE.var .i64 3))) AL.nil))) (IE.wrap .i64 (IE.mul (IE.var .i64 1) (IE.var .i64 3)))), (BE.fn 1 (AL.lst (LE.fn 4 (AL.int .i64 (IE.wrap .i64 (IE.mul (IE.var .i64 1) (IE.var .i64 3))) AL.nil)) AL.nil)), (BE.le (IE.lit 0) (IE.var .i64 1000)), (BE.le (IE.var .i64 1000) (IE.len (LE.rom 0))), (BE.eq (IE.len (LE.var 1002)) (IE.wrap .i64 (IE.mul (IE.var .i64 1) (IE.var .i64 3)))), (BE.fn 1 (AL.lst (LE.var 1002) AL.nil))]) }
def tholds2 : Cfg := { top := ⟨7, over (opqS 10000 211) [(1, (SV.rom 0 (IE.lit 0) (IE.len (LE.rom 0)) none)), (2, (SV.rom 1 (IE.lit 0) (IE.len (LE.rom 1)) none)), (3, (SV.ptr 0 0)), (7, (SV.sll 1 2 4 (IE.lit 0) (IE.len (LE.var 1002)) none)), (9, (SV.sll 3 4 4 (IE.lit 0) (IE.len (LE.fn 4 (AL.int .i64 (IE.wrap .i64 (IE.mul (IE.var .i64 1) (IE.var .i64 3))) AL.nil))) none)), (11, (SV.int .i64 (IE.var .i64 1000))), (12, (SV.int .i64 (IE.var .i64 1001)))], ogt (loopTodo (bodyOf (T stat.Φ [] []) 7) 1), [], false, none⟩, rest := [], heap := [(0, .cells [(SV.int .i64 (IE.var .i64 1)), (SV.int .i64 (IE.var .i64 2)), (SV.int .i64 (IE.var .i64 3))] 23), (1, .rowl (LE.var 1002) (IE.len (LE.var 1002)) [(CK.int .i64), CK.bool, (CK.int .i64), (CK.int .i64)] 26 2 4), (3, .rowl (LE.fn 4 (AL.int .i64 (IE.wrap .i64 (IE.mul (IE.var .i64 1) (IE.var .i64 3))) AL.nil)) (IE.len (LE.fn 4 (AL.int .i64 (IE.wrap .i64 (IE.mul (IE.var .i64 1) (IE.var .i64 3))) AL.nil))) [(CK.int .i64), CK.bool, (CK.int .i64), (CK.int .i64)] 26 4 4)], next := 5, pc := .lit true :: ([shapeF 1 2 3, .le manyC (.lit 20), .eq (.len (.var 1002)) manyC, allF (.var 1002), .le (.lit 0) (.var .i64 1000), .not (.le (ln 0) (.var .i64 1000)), .le (.lit 0) (.var .i64 1001), .le (.var .i64 1001) (.var .i64 1000)] ++ [(BE.fn 1 (AL.lst (LE.fn 4 (AL.int .i64 (IE.wrap .i64 (IE.mul (IE.var .i64 1) (IE.var .i64 3))) AL.nil)) AL.nil)), (BE.eq (IE.len (LE.fn 4 (AL.int .i64 (IE.wrap .i64 (IE.mul (IE.var .i64 1) (IE.var .i64 3))) AL.nil))) (IE.wrap .i64 (IE.mul (IE.var .i64 1) (IE.var .i64 3)))), (BE.fn 1 (AL.lst (LE.fn 4 (AL.int .i64 (IE.wrap .i64 (IE.mul (IE.var .i64 1) (IE.var .i64 3))) AL.nil)) AL.nil)), (BE.eq (IE.len (LE.fn 4 (AL.int .i64 (IE.wrap .i64 (IE.mul (IE.var .i64 1) (IE.var .i64 3))) AL.nil))) (IE.wrap .i64 (IE.mul (IE.var .i64 1) (IE.var .i64 3)))), (BE.le (IE.len (LE.rom 1)) (IE.lit 80)), (BE.le (IE.len (LE.rom 0)) (IE.lit 40)), (BE.le (IE.wrap .i64 (IE.mul (IE.var .i64 1) (IE.var .i64 3))) (IE.lit 20)), (BE.fn 2 (AL.int .i64 (IE.var .i64 1) (AL.int .i64 (IE.var .i64 2) (AL.int .i64 (IE.var .i64 3) AL.nil)))), (BE.le (IE.wrap .i64 (IE.mul (IE.var .i64 1) (IE.var .i64 3))) (IE.lit 20)), (BE.fn 2 (AL.int .i64 (IE.var .i64 1) (AL.int .i64 (IE.var .i64 2) (AL.int .i64 (IE.var .i64 3) AL.nil)))), (BE.not (BE.le (IE.len (LE.rom 0)) (IE.var .i64 1000))), (BE.le (IE.lit 0) (IE.var .i64 1000)), (BE.le (IE.lit 0) (IE.var .i64 1001)), (BE.not (BE.le (IE.len (LE.rom 0)) (IE.var .i64 1001))), (BE.eq (IE.len (LE.var 1002)) (IE.wrap .i64 (IE.mul (IE.var .i64 1) (IE.var .i64 3)))), (BE.fn 1 (AL.lst (LE.var 1002) AL.nil))]) }
def tholds3 : Cfg := { top := ⟨7, over (opqS 10000 211) [(1, (SV.rom 0 (IE.lit 0) (IE.len (LE.rom 0)) none)), (2, (SV.rom 1 (IE.lit 0) (IE.len (LE.rom 1)) none)), (3, (SV.ptr 0 0)), (7, (SV.sll 1 2 4 (IE.lit 0) (IE.len (LE.var 1002)) none)), (9, (SV.sll 3 4 4 (IE.lit 0) (IE.len (LE.var 1004)) none)), (18, (SV.int .i64 (IE.var .i64 1003)))], ogt (loopTodo (bodyOf (T stat.Φ [] []) 7) 2), [], false, none⟩, rest := [], heap := [(0, .cells [(SV.int .i64 (IE.var .i64 1)), (SV.int .i64 (IE.var .i64 2)), (SV.int .i64 (IE.var .i64 3))] 23), (1, .rowl (LE.var 1002) (IE.len (LE.var 1002)) [(CK.int .i64), CK.bool, (CK.int .i64), (CK.int .i64)] 26 2 4), (3, .rowl (LE.var 1004) (IE.len (LE.var 1004)) [(CK.int .i64), CK.bool, (CK.int .i64), (CK.int .i64)] 26 4 4)], next := 5, pc := .lit true :: ([shapeF 1 2 3, .le manyC (.lit 20), .eq (.len (.var 1002)) manyC, allF (.var 1002), .eq (.len (.var 1004)) manyC, allF (.var 1004), .le (.lit 0) (.var .i64 1003), .le (.var .i64 1003) (ln 1)] ++ [(BE.fn 1 (AL.lst (LE.fn 4 (AL.int .i64 (IE.wrap .i64 (IE.mul (IE.var .i64 1) (IE.var .i64 3))) AL.nil)) AL.nil)), (BE.eq (IE.len (LE.fn 4 (AL.int .i64 (IE.wrap .i64 (IE.mul (IE.var .i64 1) (IE.var .i64 3))) AL.nil))) (IE.wrap .i64 (IE.mul (IE.var .i64 1) (IE.var .i64 3)))), (BE.fn 1 (AL.lst (LE.fn 4 (AL.int .i64 (IE.wrap .i64 (IE.mul (IE.var .i64 1) (IE.var .i64 3))) AL.nil)) AL.nil)), (BE.eq (IE.len (LE.fn 4 (AL.int .i64 (IE.wrap .i64 (IE.mul (IE.var .i64 1) (IE.var .i64 3))) AL.nil))) (IE.wrap .i64 (IE.mul (IE.var .i64 1) (IE.var .i64 3)))), (BE.le (IE.len (LE.rom 1)) (IE.lit 80)), (BE.le (IE.len (LE.rom 0)) (IE.lit 40)), (BE.le (IE.wrap .i64 (IE.mul (IE.var .i64 1) (IE.var .i64 3))) (IE.lit 20)), (BE.fn 2 (AL.int .i64 (IE.var .i64 1) (AL.int .i64 (IE.var .i64 2) (AL.int .i64 (IE.var .i64 3) AL.nil)))), (BE.le (IE.wrap .i64 (IE.mul (IE.var .i64 1) (IE.var .i64 3))) (IE.lit 20)), (BE.fn 2 (AL.int .i64 (IE.var .i64 1) (AL.int .i64 (IE.var .i64 2) (AL.int .i64 (IE.var .i64 3) AL.nil)))), (BE.eq (IE.len (LE.var 1002)) (IE.wrap .i64 (IE.mul (IE.var .i64 1) (IE.var .i64 3)))), (BE.fn 1 (AL.lst (LE.var 1002) AL.nil)), (BE.le (IE.lit 0) (IE.var .i64 1003)), (BE.le (IE.var .i64 1003) (IE.len (LE.rom 1)))]) }
def tholds4 : Cfg := { top := ⟨7, over (opqS 10000 211) [(1, (SV.rom 0 (IE.lit 0) (IE.len (LE.rom 0)) none)), (3, (SV.ptr 0 0)), (7, (SV.sll 1 2 4 (IE.lit 0) (IE.len (LE.var 1002)) none)), (9, (SV.sll 3 4 4 (IE.lit 0) (IE.len (LE.var 1004)) none)), (23, (SV.int .i64 (IE.var .i64 1005)))], ogt (loopTodo (bodyOf (T stat.Φ [] []) 7) 3), [], false, none⟩, rest := [], heap := [(0, .cells [(SV.int .i64 (IE.var .i64 1)), (SV.int .i64 (IE.var .i64 2)), (SV.int .i64 (IE.var .i64 3))] 23), (1, .rowl (LE.var 1002) (IE.len (LE.var 1002)) [(CK.int .i64), CK.bool, (CK.int .i64), (CK.int .i64)] 26 2 4), (3, .rowl (LE.var 1004) (IE.len (LE.var 1004)) [(CK.int .i64), CK.bool, (CK.int .i64), (CK.int .i64)] 26 4 4)], next := 5, pc := .lit true :: ([shapeF 1 2 3, .le manyC (.lit 20), .eq (.len (.var 1002)) manyC, allF (.var 1002), .eq (.len (.var 1004)) manyC, allF (.var 1004), .le (.lit (-1)) (.var .i64 1005), .not (.le (ln 0) (.var .i64 1005))] ++ [(BE.fn 2 (AL.int .i64 (IE.var .i64 1) (AL.int .i64 (IE.var .i64 2) (AL.int .i64 (IE.var .i64 3) AL.nil)))), (BE.le (IE.wrap .i64 (IE.mul (IE.var .i64 1) (IE.var .i64 3))) (IE.lit 20)), (BE.fn 2 (AL.int .i64 (IE.var .i64 1) (AL.int .i64 (IE.var .i64 2) (AL.int .i64 (IE.var .i64 3) AL.nil)))), (BE.le (IE.wrap .i64 (IE.mul (IE.var .i64 1) (IE.var .i64 3))) (IE.lit 20)), (BE.le (IE.len (LE.rom 0)) (IE.lit 40)), (BE.le (IE.len (LE.rom 1)) (IE.lit 80)), (BE.eq (IE.len (LE.fn 4 (AL.int .i64 (IE.wrap .i64 (IE.mul (IE.var .i64 1) (IE.var .i64 3))) AL.nil))) (IE.wrap .i64 (IE.mul (IE.var .i64 1) (IE.var .i64 3)))), (BE.fn 1 (AL.lst (LE.fn 4 (AL.int .i64 (IE.wrap .i64 (IE.mul (IE.var .i64 1) (IE.var .i64 3))) AL.nil)) AL.nil)), (BE.eq (IE.len (LE.fn 4 (AL.int .i64 (IE.wrap .i64 (IE.mul (IE.var .i64 1) (IE.var .i64 3))) AL.nil))) (IE.wrap .i64 (IE.mul (IE.var .i64 1) (IE.var .i64 3)))), (BE.fn 1 (AL.lst (LE.fn 4 (AL.int .i64 (IE.wrap .i64 (IE.mul (IE.var .i64 1) (IE.var .i64 3))) AL.nil)) AL.nil)), (BE.le (IE.wrap .i64 (IE.mul (IE.var .i64 1) (IE.var .i64 3))) (IE.lit 20)), (BE.fn 2 (AL.int .i64 (IE.var .i64 1) (AL.int .i64 (IE.var .i64 2) (AL.int .i64 (IE.var .i64 3) AL.nil)))), (BE.eq (IE.len (LE.var 1002)) (IE.wrap .i64 (IE.mul (IE.var .i64 1) (IE.var .i64 3)))), (BE.fn 1 (AL.lst (LE.var 1002) AL.nil)), (BE.eq (IE.len (LE.var 1004)) (IE.wrap .i64 (IE.mul (IE.var .i64 1) (IE.var .i64 3)))), (BE.fn 1 (AL.lst (LE.var 1004) AL.nil)), (BE.not (BE.le (IE.len (LE.rom 0)) (IE.var .i64 1005)))]) }
def tmholds : List (Nat × Cfg) := [(0, startF 7 cHolds.pat [.lit true]), (1, tholds1), (2, tholds2), (3, tholds3), (4, tholds4)]
def selholds : Sel := [(7, 9000001, 0, 1), (7, 2, 0, 2), (7, 21000001, 0, 3), (7, 29000001, 0, 4)]
def pcholds0_0 : List BE := [(BE.lit true)]
def pcholds0_1 : List BE := ((BE.fn 2 (AL.int .i64 (IE.var .i64 1) (AL.int .i64 (IE.var .i64 2) (AL.int .i64 (IE.var .i64 3) AL.nil)))) :: pcholds0_0)
def pcholds0_2 : List BE := ((BE.le (IE.wrap .i64 (IE.mul (IE.var .i64 1) (IE.var .i64 3))) (IE.lit 20)) :: pcholds0_1)
def pcholds0_3 : List BE := ((BE.le (IE.len (LE.rom 0)) (IE.lit 40)) :: pcholds0_2)
def wholds0_0 : VW := (VW.cut 1 ((BE.fn 1 (AL.lst (LE.fn 4 (AL.int .i64 (IE.wrap .i64 (IE.mul (IE.var .i64 1) (IE.var .i64 3))) AL.nil)) AL.nil)) :: (BE.eq (IE.len (LE.fn 4 (AL.int .i64 (IE.wrap .i64 (IE.mul (IE.var .i64 1) (IE.var .i64 3))) AL.nil))) (IE.wrap .i64 (IE.mul (IE.var .i64 1) (IE.var .i64 3)))) :: (BE.fn 1 (AL.lst (LE.fn 4 (AL.int .i64 (IE.wrap .i64 (IE.mul (IE.var .i64 1) (IE.var .i64 3))) AL.nil)) AL.nil)) :: (BE.eq (IE.len (LE.fn 4 (AL.int .i64 (IE.wrap .i64 (IE.mul (IE.var .i64 1) (IE.var .i64 3))) AL.nil))) (IE.wrap .i64 (IE.mul (IE.var .i64 1) (IE.var .i64 3)))) :: (BE.le (IE.len (LE.rom 1)) (IE.lit 80)) :: pcholds0_3) (Sx.Sub.mk [(.i64, (1000, (IE.lit 0)))] [] [(1002, (LE.fn 4 (AL.int .i64 (IE.wrap .i64 (IE.mul (IE.var .i64 1) (IE.var .i64 3))) AL.nil)))] [] [] []))
def wholds0_1 : VW := (VW.done ((BE.not (BE.le (IE.len (LE.rom 1)) (IE.lit 80))) :: pcholds0_3) (some []))
def wholds0_2 : VW := (VW.done ((BE.not (BE.le (IE.len (LE.rom 0)) (IE.lit 40))) :: pcholds0_2) (some []))
def wholds0_3 : VW := (VW.done ((BE.not (BE.le (IE.wrap .i64 (IE.mul (IE.var .i64 1) (IE.var .i64 3))) (IE.lit 20))) :: pcholds0_1) (some []))
def wholds0_4 : VW := (VW.done ((BE.not (BE.fn 2 (AL.int .i64 (IE.var .i64 1) (AL.int .i64 (IE.var .i64 2) (AL.int .i64 (IE.var .i64 3) AL.nil))))) :: pcholds0_0) (some []))
def vwholds0 : List VW := [wholds0_0, wholds0_1, wholds0_2, wholds0_3, wholds0_4]
def pcholds1_0 : List BE := [(BE.lit true), (BE.fn 2 (AL.int .i64 (IE.var .i64 1) (AL.int .i64 (IE.var .i64 2) (AL.int .i64 (IE.var .i64 3) AL.nil)))), (BE.le (IE.wrap .i64 (IE.mul (IE.var .i64 1) (IE.var .i64 3))) (IE.lit 20)), (BE.eq (IE.len (LE.var 1002)) (IE.wrap .i64 (IE.mul (IE.var .i64 1) (IE.var .i64 3)))), (BE.fn 1 (AL.lst (LE.var 1002) AL.nil)), (BE.le (IE.lit 0) (IE.var .i64 1000)), (BE.le (IE.var .i64 1000) (IE.len (LE.rom 0))), (BE.fn 2 (AL.int .i64 (IE.var .i64 1) (AL.int .i64 (IE.var .i64 2) (AL.int .i64 (IE.var .i64 3) AL.nil)))), (BE.le (IE.wrap .i64 (IE.mul (IE.var .i64 1) (IE.var .i64 3))) (IE.lit 20)), (BE.le (IE.len (LE.rom 0)) (IE.lit 40)), (BE.le (IE.len (LE.rom 1)) (IE.lit 80)), (BE.eq (IE.len (LE.fn 4 (AL.int .i64 (IE.wrap .i64 (IE.mul (IE.var .i64 1) (IE.var .i64 3))) AL.nil))) (IE.wrap .i64 (IE.mul (IE.var .i64 1) (IE.var .i64 3)))), (BE.fn 1 (AL.lst (LE.fn 4 (AL.int .i64 (IE.wrap .i64 (IE.mul (IE.var .i64 1) (IE.var .i64 3))) AL.nil)) AL.nil)), (BE.eq (IE.len (LE.fn 4 (AL.int .i64 (IE.wrap .i64 (IE.mul (IE.var .i64 1) (IE.var .i64 3))) AL.nil))) (IE.wrap .i64 (IE.mul (IE.var .i64 1) (IE.var .i64 3)))), (BE.fn 1 (AL.lst (LE.fn 4 (AL.int .i64 (IE.wrap .i64 (IE.mul (IE.var .i64 1) (IE.var .i64 3))) AL.nil)) AL.nil)), (BE.le (IE.lit 0) (IE.var .i64 1000)), (BE.le (IE.var .i64 1000) (IE.len (LE.rom 0))), (BE.eq (IE.len (LE.var 1002)) (IE.wrap .i64 (IE.mul (IE.var .i64 1) (IE.var .i64 3)))), (BE.fn 1 (AL.lst (LE.var 1002) AL.nil))]
def wholds1_0 : VW := (VW.cut 3 ((BE.le (IE.len (LE.rom 0)) (IE.var .i64 1000)) :: pcholds1_0) (Sx.Sub.mk [(.i64, (1003, (IE.lit 0)))] [] [(1004, (LE.fn 4 (AL.int .i64 (IE.wrap .i64 (IE.mul (IE.var .i64 1) (IE.var .i64 3))) AL.nil))), (1002, (LE.var 1002))] [] [] []))
def wholds1_1 : VW := (VW.cut 2 ((BE.not (BE.le (IE.len (LE.rom 0)) (IE.var .i64 1000))) :: pcholds1_0) (Sx.Sub.mk [(.i64, (1001, (IE.lit 0))), (.i64, (1000, (IE.var .i64 1000)))] [] [(1002, (LE.var 1002))] [] [] []))
def vwholds1 : List VW := [wholds1_0, wholds1_1]
def pcholds2_0 : List BE := [(BE.lit true), (BE.fn 2 (AL.int .i64 (IE.var .i64 1) (AL.int .i64 (IE.var .i64 2) (AL.int .i64 (IE.var .i64 3) AL.nil)))), (BE.le (IE.wrap .i64 (IE.mul (IE.var .i64 1) (IE.var .i64 3))) (IE.lit 20)), (BE.eq (IE.len (LE.var 1002)) (IE.wrap .i64 (IE.mul (IE.var .i64 1) (IE.var .i64 3)))), (BE.fn 1 (AL.lst (LE.var 1002) AL.nil)), (BE.le (IE.lit 0) (IE.var .i64 1000)), (BE.not (BE.le (IE.len (LE.rom 0)) (IE.var .i64 1000))), (BE.le (IE.lit 0) (IE.var .i64 1001)), (BE.le (IE.var .i64 1001) (IE.var .i64 1000)), (BE.fn 1 (AL.lst (LE.fn 4 (AL.int .i64 (IE.wrap .i64 (IE.mul (IE.var .i64 1) (IE.var .i64 3))) AL.nil)) AL.nil)), (BE.eq (IE.len (LE.fn 4 (AL.int .i64 (IE.wrap .i64 (IE.mul (IE.var .i64 1) (IE.var .i64 3))) AL.nil))) (IE.wrap .i64 (IE.mul (IE.var .i64 1) (IE.var .i64 3)))), (BE.fn 1 (AL.lst (LE.fn 4 (AL.int .i64 (IE.wrap .i64 (IE.mul (IE.var .i64 1) (IE.var .i64 3))) AL.nil)) AL.nil)), (BE.eq (IE.len (LE.fn 4 (AL.int .i64 (IE.wrap .i64 (IE.mul (IE.var .i64 1) (IE.var .i64 3))) AL.nil))) (IE.wrap .i64 (IE.mul (IE.var .i64 1) (IE.var .i64 3)))), (BE.le (IE.len (LE.rom 1)) (IE.lit 80)), (BE.le (IE.len (LE.rom 0)) (IE.lit 40)), (BE.le (IE.wrap .i64 (IE.mul (IE.var .i64 1) (IE.var .i64 3))) (IE.lit 20)), (BE.fn 2 (AL.int .i64 (IE.var .i64 1) (AL.int .i64 (IE.var .i64 2) (AL.int .i64 (IE.var .i64 3) AL.nil)))), (BE.le (IE.wrap .i64 (IE.mul (IE.var .i64 1) (IE.var .i64 3))) (IE.lit 20)), (BE.fn 2 (AL.int .i64 (IE.var .i64 1) (AL.int .i64 (IE.var .i64 2) (AL.int .i64 (IE.var .i64 3) AL.nil)))), (BE.not (BE.le (IE.len (LE.rom 0)) (IE.var .i64 1000))), (BE.le (IE.lit 0) (IE.var .i64 1000)), (BE.le (IE.lit 0) (IE.var .i64 1001)), (BE.not (BE.le (IE.len (LE.rom 0)) (IE.var .i64 1001))), (BE.eq (IE.len (LE.var 1002)) (IE.wrap .i64 (IE.mul (IE.var .i64 1) (IE.var .i64 3)))), (BE.fn 1 (AL.lst (LE.var 1002) AL.nil))]
def pcholds2_1 : List BE := ((BE.le (IE.var .i64 1000) (IE.var .i64 1001)) :: pcholds2_0)
def pcholds2_2 : List BE := ((BE.not (BE.le (IE.var .i64 1000) (IE.var .i64 1001))) :: pcholds2_0)
def pcholds2_3 : List BE := ((BE.fn 3 (AL.int .i64 (IE.cel .i64 (LE.rom 0) (IE.var .i64 1000) 1) (AL.bool (BE.cel (LE.rom 0) (IE.var .i64 1000) 2) (AL.int .i64 (IE.cel .i64 (LE.rom 0) (IE.var .i64 1000) 3) (AL.int .i64 (IE.cel .i64 (LE.rom 0) (IE.var .i64 1000) 4) AL.nil))))) :: pcholds2_1)
def pcholds2_4 : List BE := ((BE.eq (IE.cel .i64 (LE.rom 0) (IE.var .i64 1000) 0) (IE.cel .i64 (LE.rom 0) (IE.var .i64 1001) 0)) :: pcholds2_2)
def pcholds2_5 : List BE := ((BE.le (IE.lit 0) (IE.cel .i64 (LE.rom 0) (IE.var .i64 1000) 0)) :: pcholds2_3)
def pcholds2_6 : List BE := ((BE.eq (IE.cel .i64 (LE.rom 0) (IE.var .i64 1000) 1) (IE.cel .i64 (LE.rom 0) (IE.var .i64 1001) 1)) :: pcholds2_4)
def pcholds2_7 : List BE := ((BE.cel (LE.rom 0) (IE.var .i64 1000) 2) :: pcholds2_6)
def pcholds2_8 : List BE := ((BE.not (BE.cel (LE.rom 0) (IE.var .i64 1000) 2)) :: pcholds2_6)
def pcholds2_9 : List BE := ((BE.cel (LE.rom 0) (IE.var .i64 1001) 2) :: pcholds2_7)
def pcholds2_10 : List BE := ((BE.not (BE.cel (LE.rom 0) (IE.var .i64 1001) 2)) :: pcholds2_8)
def pcholds2_11 : List BE := ((BE.eq (IE.cel .i64 (LE.rom 0) (IE.var .i64 1000) 3) (IE.cel .i64 (LE.rom 0) (IE.var .i64 1001) 3)) :: pcholds2_9)
def pcholds2_12 : List BE := ((BE.eq (IE.cel .i64 (LE.rom 0) (IE.var .i64 1000) 3) (IE.cel .i64 (LE.rom 0) (IE.var .i64 1001) 3)) :: pcholds2_10)
def wholds2_0 : VW := (VW.cut 1 ((BE.le (IE.wrap .i64 (IE.mul (IE.var .i64 1) (IE.var .i64 3))) (IE.cel .i64 (LE.rom 0) (IE.var .i64 1000) 0)) :: pcholds2_5) (Sx.Sub.mk [(.i64, (1000, (IE.add (IE.var .i64 1000) (IE.lit 1))))] [] [(1002, (LE.var 1002))] [] [] []))
def wholds2_1 : VW := (VW.cut 1 ((BE.eq (IE.len (LE.fn 2 (AL.lst (LE.var 1002) (AL.int .i64 (IE.cel .i64 (LE.rom 0) (IE.var .i64 1000) 0) (AL.int .i64 (IE.cel .i64 (LE.rom 0) (IE.var .i64 1000) 1) (AL.bool (BE.cel (LE.rom 0) (IE.var .i64 1000) 2) (AL.int .i64 (IE.cel .i64 (LE.rom 0) (IE.var .i64 1000) 3) (AL.int .i64 (IE.cel .i64 (LE.rom 0) (IE.var .i64 1000) 4) AL.nil)))))))) (IE.len (LE.var 1002))) :: (BE.fn 1 (AL.lst (LE.fn 2 (AL.lst (LE.var 1002) (AL.int .i64 (IE.cel .i64 (LE.rom 0) (IE.var .i64 1000) 0) (AL.int .i64 (IE.cel .i64 (LE.rom 0) (IE.var .i64 1000) 1) (AL.bool (BE.cel (LE.rom 0) (IE.var .i64 1000) 2) (AL.int .i64 (IE.cel .i64 (LE.rom 0) (IE.var .i64 1000) 3) (AL.int .i64 (IE.cel .i64 (LE.rom 0) (IE.var .i64 1000) 4) AL.nil))))))) AL.nil)) :: (BE.not (BE.le (IE.wrap .i64 (IE.mul (IE.var .i64 1) (IE.var .i64 3))) (IE.cel .i64 (LE.rom 0) (IE.var .i64 1000) 0))) :: pcholds2_5) (Sx.Sub.mk [(.i64, (1000, (IE.add (IE.var .i64 1000) (IE.lit 1))))] [] [(1002, (LE.fn 2 (AL.lst (LE.var 1002) (AL.int .i64 (IE.cel .i64 (LE.rom 0) (IE.var .i64 1000) 0) (AL.int .i64 (IE.cel .i64 (LE.rom 0) (IE.var .i64 1000) 1) (AL.bool (BE.cel (LE.rom 0) (IE.var .i64 1000) 2) (AL.int .i64 (IE.cel .i64 (LE.rom 0) (IE.var .i64 1000) 3) (AL.int .i64 (IE.cel .i64 (LE.rom 0) (IE.var .i64 1000) 4) AL.nil))))))))] [] [] []))
def wholds2_2 : VW := (VW.cut 1 ((BE.not (BE.le (IE.lit 0) (IE.cel .i64 (LE.rom 0) (IE.var .i64 1000) 0))) :: pcholds2_3) (Sx.Sub.mk [(.i64, (1000, (IE.add (IE.var .i64 1000) (IE.lit 1))))] [] [(1002, (LE.var 1002))] [] [] []))
def wholds2_3 : VW := (VW.cut 1 ((BE.not (BE.fn 3 (AL.int .i64 (IE.cel .i64 (LE.rom 0) (IE.var .i64 1000) 1) (AL.bool (BE.cel (LE.rom 0) (IE.var .i64 1000) 2) (AL.int .i64 (IE.cel .i64 (LE.rom 0) (IE.var .i64 1000) 3) (AL.int .i64 (IE.cel .i64 (LE.rom 0) (IE.var .i64 1000) 4) AL.nil)))))) :: pcholds2_1) (Sx.Sub.mk [(.i64, (1000, (IE.add (IE.var .i64 1000) (IE.lit 1))))] [] [(1002, (LE.var 1002))] [] [] []))
def wholds2_4 : VW := (VW.cut 2 ((BE.eq (IE.cel .i64 (LE.rom 0) (IE.var .i64 1000) 4) (IE.cel .i64 (LE.rom 0) (IE.var .i64 1001) 4)) :: pcholds2_11) (Sx.Sub.mk [(.i64, (1001, (IE.add (IE.var .i64 1001) (IE.lit 1)))), (.i64, (1000, (IE.var .i64 1000)))] [] [(1002, (LE.var 1002))] [] [] []))
def wholds2_5 : VW := (VW.done ((BE.not (BE.eq (IE.cel .i64 (LE.rom 0) (IE.var .i64 1000) 4) (IE.cel .i64 (LE.rom 0) (IE.var .i64 1001) 4))) :: pcholds2_11) (some []))
def wholds2_6 : VW := (VW.done ((BE.not (BE.eq (IE.cel .i64 (LE.rom 0) (IE.var .i64 1000) 3) (IE.cel .i64 (LE.rom 0) (IE.var .i64 1001) 3))) :: pcholds2_9) (some []))
def wholds2_7 : VW := (VW.cut 2 ((BE.not (BE.cel (LE.rom 0) (IE.var .i64 1001) 2)) :: pcholds2_7) (Sx.Sub.mk [(.i64, (1001, (IE.add (IE.var .i64 1001) (IE.lit 1)))), (.i64, (1000, (IE.var .i64 1000)))] [] [(1002, (LE.var 1002))] [] [] []))
def wholds2_8 : VW := (VW.cut 2 ((BE.cel (LE.rom 0) (IE.var .i64 1001) 2) :: pcholds2_8) (Sx.Sub.mk [(.i64, (1001, (IE.add (IE.var .i64 1001) (IE.lit 1)))), (.i64, (1000, (IE.var .i64 1000)))] [] [(1002, (LE.var 1002))] [] [] []))
def wholds2_9 : VW := (VW.cut 2 ((BE.eq (IE.cel .i64 (LE.rom 0) (IE.var .i64 1000) 4) (IE.cel .i64 (LE.rom 0) (IE.var .i64 1001) 4)) :: pcholds2_12) (Sx.Sub.mk [(.i64, (1001, (IE.add (IE.var .i64 1001) (IE.lit 1)))), (.i64, (1000, (IE.var .i64 1000)))] [] [(1002, (LE.var 1002))] [] [] []))
def wholds2_10 : VW := (VW.done ((BE.not (BE.eq (IE.cel .i64 (LE.rom 0) (IE.var .i64 1000) 4) (IE.cel .i64 (LE.rom 0) (IE.var .i64 1001) 4))) :: pcholds2_12) (some []))
def wholds2_11 : VW := (VW.done ((BE.not (BE.eq (IE.cel .i64 (LE.rom 0) (IE.var .i64 1000) 3) (IE.cel .i64 (LE.rom 0) (IE.var .i64 1001) 3))) :: pcholds2_10) (some []))
def wholds2_12 : VW := (VW.cut 2 ((BE.not (BE.eq (IE.cel .i64 (LE.rom 0) (IE.var .i64 1000) 1) (IE.cel .i64 (LE.rom 0) (IE.var .i64 1001) 1))) :: pcholds2_4) (Sx.Sub.mk [(.i64, (1001, (IE.add (IE.var .i64 1001) (IE.lit 1)))), (.i64, (1000, (IE.var .i64 1000)))] [] [(1002, (LE.var 1002))] [] [] []))
def wholds2_13 : VW := (VW.cut 2 ((BE.not (BE.eq (IE.cel .i64 (LE.rom 0) (IE.var .i64 1000) 0) (IE.cel .i64 (LE.rom 0) (IE.var .i64 1001) 0))) :: pcholds2_2) (Sx.Sub.mk [(.i64, (1001, (IE.add (IE.var .i64 1001) (IE.lit 1)))), (.i64, (1000, (IE.var .i64 1000)))] [] [(1002, (LE.var 1002))] [] [] []))
def vwholds2 : List VW := [wholds2_0, wholds2_1, wholds2_2, wholds2_3, wholds2_4, wholds2_5, wholds2_6, wholds2_7, wholds2_8, wholds2_9, wholds2_10, wholds2_11, wholds2_12, wholds2_13]
def pcholds3_0 : List BE := [(BE.lit true), (BE.fn 2 (AL.int .i64 (IE.var .i64 1) (AL.int .i64 (IE.var .i64 2) (AL.int .i64 (IE.var .i64 3) AL.nil)))), (BE.le (IE.wrap .i64 (IE.mul (IE.var .i64 1) (IE.var .i64 3))) (IE.lit 20)), (BE.eq (IE.len (LE.var 1002)) (IE.wrap .i64 (IE.mul (IE.var .i64 1) (IE.var .i64 3)))), (BE.fn 1 (AL.lst (LE.var 1002) AL.nil)), (BE.eq (IE.len (LE.var 1004)) (IE.wrap .i64 (IE.mul (IE.var .i64 1) (IE.var .i64 3)))), (BE.fn 1 (AL.lst (LE.var 1004) AL.nil)), (BE.le (IE.lit 0) (IE.var .i64 1003)), (BE.le (IE.var .i64 1003) (IE.len (LE.rom 1))), (BE.fn 1 (AL.lst (LE.fn 4 (AL.int .i64 (IE.wrap .i64 (IE.mul (IE.var .i64 1) (IE.var .i64 3))) AL.nil)) AL.nil)), (BE.eq (IE.len (LE.fn 4 (AL.int .i64 (IE.wrap .i64 (IE.mul (IE.var .i64 1) (IE.var .i64 3))) AL.nil))) (IE.wrap .i64 (IE.mul (IE.var .i64 1) (IE.var .i64 3)))), (BE.fn 1 (AL.lst (LE.fn 4 (AL.int .i64 (IE.wrap .i64 (IE.mul (IE.var .i64 1) (IE.var .i64 3))) AL.nil)) AL.nil)), (BE.eq (IE.len (LE.fn 4 (AL.int .i64 (IE.wrap .i64 (IE.mul (IE.var .i64 1) (IE.var .i64 3))) AL.nil))) (IE.wrap .i64 (IE.mul (IE.var .i64 1) (IE.var .i64 3)))), (BE.le (IE.len (LE.rom 1)) (IE.lit 80)), (BE.le (IE.len (LE.rom 0)) (IE.lit 40)), (BE.le (IE.wrap .i64 (IE.mul (IE.var .i64 1) (IE.var .i64 3))) (IE.lit 20)), (BE.fn 2 (AL.int .i64 (IE.var .i64 1) (AL.int .i64 (IE.var .i64 2) (AL.int .i64 (IE.var .i64 3) AL.nil)))), (BE.le (IE.wrap .i64 (IE.mul (IE.var .i64 1) (IE.var .i64 3))) (IE.lit 20)), (BE.fn 2 (AL.int .i64 (IE.var .i64 1) (AL.int .i64 (IE.var .i64 2) (AL.int .i64 (IE.var .i64 3) AL.nil)))), (BE.eq (IE.len (LE.var 1002)) (IE.wrap .i64 (IE.mul (IE.var .i64 1) (IE.var .i64 3)))), (BE.fn 1 (AL.lst (LE.var 1002) AL.nil)), (BE.le (IE.lit 0) (IE.var .i64 1003)), (BE.le (IE.var .i64 1003) (IE.len (LE.rom 1)))]
def pcholds3_1 : List BE := ((BE.not (BE.le (IE.len (LE.rom 1)) (IE.var .i64 1003))) :: pcholds3_0)
def pcholds3_2 : List BE := ((BE.le (IE.lit 0) (IE.cel .i64 (LE.rom 1) (IE.var .i64 1003) 0)) :: pcholds3_1)
def pcholds3_3 : List BE := ((BE.not (BE.le (IE.len (LE.rom 0)) (IE.cel .i64 (LE.rom 1) (IE.var .i64 1003) 0))) :: pcholds3_2)
def pcholds3_4 : List BE := ((BE.fn 3 (AL.int .i64 (IE.cel .i64 (LE.rom 0) (IE.cel .i64 (LE.rom 1) (IE.var .i64 1003) 0) 1) (AL.bool (BE.cel (LE.rom 0) (IE.cel .i64 (LE.rom 1) (IE.var .i64 1003) 0) 2) (AL.int .i64 (IE.cel .i64 (LE.rom 0) (IE.cel .i64 (LE.rom 1) (IE.var .i64 1003) 0) 3) (AL.int .i64 (IE.cel .i64 (LE.rom 0) (IE.cel .i64 (LE.rom 1) (IE.var .i64 1003) 0) 4) AL.nil))))) :: pcholds3_3)
def pcholds3_5 : List BE := ((BE.le (IE.lit 0) (IE.cel .i64 (LE.rom 0) (IE.cel .i64 (LE.rom 1) (IE.var .i64 1003) 0) 0)) :: pcholds3_4)
def wholds3_0 : VW := (VW.cut 4 ((BE.le (IE.len (LE.rom 1)) (IE.var .i64 1003)) :: pcholds3_0) (Sx.Sub.mk [(.i64, (1005, (IE.sub (IE.len (LE.rom 0)) (IE.lit 1))))] [] [(1004, (LE.var 1004)), (1002, (LE.var 1002))] [] [] []))
def wholds3_1 : VW := (VW.cut 3 ((BE.le (IE.len (LE.rom 0)) (IE.cel .i64 (LE.rom 1) (IE.var .i64 1003) 0)) :: pcholds3_2) (Sx.Sub.mk [(.i64, (1003, (IE.add (IE.var .i64 1003) (IE.lit 1))))] [] [(1004, (LE.var 1004)), (1002, (LE.var 1002))] [] [] []))
def wholds3_2 : VW := (VW.cut 3 ((BE.le (IE.wrap .i64 (IE.mul (IE.var .i64 1) (IE.var .i64 3))) (IE.cel .i64 (LE.rom 0) (IE.cel .i64 (LE.rom 1) (IE.var .i64 1003) 0) 0)) :: pcholds3_5) (Sx.Sub.mk [(.i64, (1003, (IE.add (IE.var .i64 1003) (IE.lit 1))))] [] [(1004, (LE.var 1004)), (1002, (LE.var 1002))] [] [] []))
def wholds3_3 : VW := (VW.cut 3 ((BE.eq (IE.len (LE.fn 2 (AL.lst (LE.var 1004) (AL.int .i64 (IE.cel .i64 (LE.rom 0) (IE.cel .i64 (LE.rom 1) (IE.var .i64 1003) 0) 0) (AL.int .i64 (IE.cel .i64 (LE.rom 0) (IE.cel .i64 (LE.rom 1) (IE.var .i64 1003) 0) 1) (AL.bool (BE.cel (LE.rom 0) (IE.cel .i64 (LE.rom 1) (IE.var .i64 1003) 0) 2) (AL.int .i64 (IE.cel .i64 (LE.rom 0) (IE.cel .i64 (LE.rom 1) (IE.var .i64 1003) 0) 3) (AL.int .i64 (IE.cel .i64 (LE.rom 0) (IE.cel .i64 (LE.rom 1) (IE.var .i64 1003) 0) 4) AL.nil)))))))) (IE.len (LE.var 1004))) :: (BE.fn 1 (AL.lst (LE.fn 2 (AL.lst (LE.var 1004) (AL.int .i64 (IE.cel .i64 (LE.rom 0) (IE.cel .i64 (LE.rom 1) (IE.var .i64 1003) 0) 0) (AL.int .i64 (IE.cel .i64 (LE.rom 0) (IE.cel .i64 (LE.rom 1) (IE.var .i64 1003) 0) 1) (AL.bool (BE.cel (LE.rom 0) (IE.cel .i64 (LE.rom 1) (IE.var .i64 1003) 0) 2) (AL.int .i64 (IE.cel .i64 (LE.rom 0) (IE.cel .i64 (LE.rom 1) (IE.var .i64 1003) 0) 3) (AL.int .i64 (IE.cel .i64 (LE.rom 0) (IE.cel .i64 (LE.rom 1) (IE.var .i64 1003) 0) 4) AL.nil))))))) AL.nil)) :: (BE.not (BE.le (IE.wrap .i64 (IE.mul (IE.var .i64 1) (IE.var .i64 3))) (IE.cel .i64 (LE.rom 0) (IE.cel .i64 (LE.rom 1) (IE.var .i64 1003) 0) 0))) :: pcholds3_5) (Sx.Sub.mk [(.i64, (1003, (IE.add (IE.var .i64 1003) (IE.lit 1))))] [] [(1004, (LE.fn 2 (AL.lst (LE.var 1004) (AL.int .i64 (IE.cel .i64 (LE.rom 0) (IE.cel .i64 (LE.rom 1) (IE.var .i64 1003) 0) 0) (AL.int .i64 (IE.cel .i64 (LE.rom 0) (IE.cel .i64 (LE.rom 1) (IE.var .i64 1003) 0) 1) (AL.bool (BE.cel (LE.rom 0) (IE.cel .i64 (LE.rom 1) (IE.var .i64 1003) 0) 2) (AL.int .i64 (IE.cel .i64 (LE.rom 0) (IE.cel .i64 (LE.rom 1) (IE.var .i64 1003) 0) 3) (AL.int .i64 (IE.cel .i64 (LE.rom 0) (IE.cel .i64 (LE.rom 1) (IE.var .i64 1003) 0) 4) AL.nil)))))))), (1002, (LE.var 1002))] [] [] []))
def wholds3_4 : VW := (VW.cut 3 ((BE.not (BE.le (IE.lit 0) (IE.cel .i64 (LE.rom 0) (IE.cel .i64 (LE.rom 1) (IE.var .i64 1003) 0) 0))) :: pcholds3_4) (Sx.Sub.mk [(.i64, (1003, (IE.add (IE.var .i64 1003) (IE.lit 1))))] [] [(1004, (LE.var 1004)), (1002, (LE.var 1002))] [] [] []))
def wholds3_5 : VW := (VW.cut 3 ((BE.not (BE.fn 3 (AL.int .i64 (IE.cel .i64 (LE.rom 0) (IE.cel .i64 (LE.rom 1) (IE.var .i64 1003) 0) 1) (AL.bool (BE.cel (LE.rom 0) (IE.cel .i64 (LE.rom 1) (IE.var .i64 1003) 0) 2) (AL.int .i64 (IE.cel .i64 (LE.rom 0) (IE.cel .i64 (LE.rom 1) (IE.var .i64 1003) 0) 3) (AL.int .i64 (IE.cel .i64 (LE.rom 0) (IE.cel .i64 (LE.rom 1) (IE.var .i64 1003) 0) 4) AL.nil)))))) :: pcholds3_3) (Sx.Sub.mk [(.i64, (1003, (IE.add (IE.var .i64 1003) (IE.lit 1))))] [] [(1004, (LE.var 1004)), (1002, (LE.var 1002))] [] [] []))
def wholds3_6 : VW := (VW.cut 3 ((BE.not (BE.le (IE.lit 0) (IE.cel .i64 (LE.rom 1) (IE.var .i64 1003) 0))) :: pcholds3_1) (Sx.Sub.mk [(.i64, (1003, (IE.add (IE.var .i64 1003) (IE.lit 1))))] [] [(1004, (LE.var 1004)), (1002, (LE.var 1002))] [] [] []))
def vwholds3 : List VW := [wholds3_0, wholds3_1, wholds3_2, wholds3_3, wholds3_4, wholds3_5, wholds3_6]
def pcholds4_0 : List BE := [(BE.lit true), (BE.fn 2 (AL.int .i64 (IE.var .i64 1) (AL.int .i64 (IE.var .i64 2) (AL.int .i64 (IE.var .i64 3) AL.nil)))), (BE.le (IE.wrap .i64 (IE.mul (IE.var .i64 1) (IE.var .i64 3))) (IE.lit 20)), (BE.eq (IE.len (LE.var 1002)) (IE.wrap .i64 (IE.mul (IE.var .i64 1) (IE.var .i64 3)))), (BE.fn 1 (AL.lst (LE.var 1002) AL.nil)), (BE.eq (IE.len (LE.var 1004)) (IE.wrap .i64 (IE.mul (IE.var .i64 1) (IE.var .i64 3)))), (BE.fn 1 (AL.lst (LE.var 1004) AL.nil)), (BE.le (IE.lit (-1)) (IE.var .i64 1005)), (BE.not (BE.le (IE.len (LE.rom 0)) (IE.var .i64 1005))), (BE.fn 2 (AL.int .i64 (IE.var .i64 1) (AL.int .i64 (IE.var .i64 2) (AL.int .i64 (IE.var .i64 3) AL.nil)))), (BE.le (IE.wrap .i64 (IE.mul (IE.var .i64 1) (IE.var .i64 3))) (IE.lit 20)), (BE.fn 2 (AL.int .i64 (IE.var .i64 1) (AL.int .i64 (IE.var .i64 2) (AL.int .i64 (IE.var .i64 3) AL.nil)))), (BE.le (IE.wrap .i64 (IE.mul (IE.var .i64 1) (IE.var .i64 3))) (IE.lit 20)), (BE.le (IE.len (LE.rom 0)) (IE.lit 40)), (BE.le (IE.len (LE.rom 1)) (IE.lit 80)), (BE.eq (IE.len (LE.fn 4 (AL.int .i64 (IE.wrap .i64 (IE.mul (IE.var .i64 1) (IE.var .i64 3))) AL.nil))) (IE.wrap .i64 (IE.mul (IE.var .i64 1) (IE.var .i64 3)))), (BE.fn 1 (AL.lst (LE.fn 4 (AL.int .i64 (IE.wrap .i64 (IE.mul (IE.var .i64 1) (IE.var .i64 3))) AL.nil)) AL.nil)), (BE.eq (IE.len (LE.fn 4 (AL.int .i64 (IE.wrap .i64 (IE.mul (IE.var .i64 1) (IE.var .i64 3))) AL.nil))) (IE.wrap .i64 (IE.mul (IE.var .i64 1) (IE.var .i64 3)))), (BE.fn 1 (AL.lst (LE.fn 4 (AL.int .i64 (IE.wrap .i64 (IE.mul (IE.var .i64 1) (IE.var .i64 3))) AL.nil)) AL.nil)), (BE.le (IE.wrap .i64 (IE.mul (IE.var .i64 1) (IE.var .i64 3))) (IE.lit 20)), (BE.fn 2 (AL.int .i64 (IE.var .i64 1) (AL.int .i64 (IE.var .i64 2) (AL.int .i64 (IE.var .i64 3) AL.nil)))), (BE.eq (IE.len (LE.var 1002)) (IE.wrap .i64 (IE.mul (IE.var .i64 1) (IE.var .i64 3)))), (BE.fn 1 (AL.lst (LE.var 1002) AL.nil)), (BE.eq (IE.len (LE.var 1004)) (IE.wrap .i64 (IE.mul (IE.var .i64 1) (IE.var .i64 3)))), (BE.fn 1 (AL.lst (LE.var 1004) AL.nil)), (BE.not (BE.le (IE.len (LE.rom 0)) (IE.var .i64 1005)))]
def pcholds4_1 : List BE := ((BE.le (IE.lit 0) (IE.var .i64 1005)) :: pcholds4_0)
def pcholds4_2 : List BE := ((BE.not (BE.le (IE.lit 0) (IE.var .i64 1005))) :: pcholds4_0)
def pcholds4_3 : List BE := ((BE.fn 3 (AL.int .i64 (IE.cel .i64 (LE.rom 0) (IE.var .i64 1005) 1) (AL.bool (BE.cel (LE.rom 0) (IE.var .i64 1005) 2) (AL.int .i64 (IE.cel .i64 (LE.rom 0) (IE.var .i64 1005) 3) (AL.int .i64 (IE.cel .i64 (LE.rom 0) (IE.var .i64 1005) 4) AL.nil))))) :: pcholds4_1)
def pcholds4_4 : List BE := ((BE.le (IE.lit 0) (IE.cel .i64 (LE.rom 0) (IE.var .i64 1005) 0)) :: pcholds4_3)
def wholds4_0 : VW := (VW.cut 4 ((BE.le (IE.wrap .i64 (IE.mul (IE.var .i64 1) (IE.var .i64 3))) (IE.cel .i64 (LE.rom 0) (IE.var .i64 1005) 0)) :: pcholds4_4) (Sx.Sub.mk [(.i64, (1005, (IE.sub (IE.var .i64 1005) (IE.lit 1))))] [] [(1004, (LE.var 1004)), (1002, (LE.var 1002))] [] [] []))
def wholds4_1 : VW := (VW.cut 4 ((BE.eq (IE.len (LE.fn 2 (AL.lst (LE.var 1004) (AL.int .i64 (IE.cel .i64 (LE.rom 0) (IE.var .i64 1005) 0) (AL.int .i64 (IE.cel .i64 (LE.rom 0) (IE.var .i64 1005) 1) (AL.bool (BE.cel (LE.rom 0) (IE.var .i64 1005) 2) (AL.int .i64 (IE.cel .i64 (LE.rom 0) (IE.var .i64 1005) 3) (AL.int .i64 (IE.cel .i64 (LE.rom 0) (IE.var .i64 1005) 4) AL.nil)))))))) (IE.len (LE.var 1004))) :: (BE.fn 1 (AL.lst (LE.fn 2 (AL.lst (LE.var 1004) (AL.int .i64 (IE.cel .i64 (LE.rom 0) (IE.var .i64 1005) 0) (AL.int .i64 (IE.cel .i64 (LE.rom 0) (IE.var .i64 1005) 1) (AL.bool (BE.cel (LE.rom 0) (IE.var .i64 1005) 2) (AL.int .i64 (IE.cel .i64 (LE.rom 0) (IE.var .i64 1005) 3) (AL.int .i64 (IE.cel .i64 (LE.rom 0) (IE.var .i64 1005) 4) AL.nil))))))) AL.nil)) :: (BE.not (BE.le (IE.wrap .i64 (IE.mul (IE.var .i64 1) (IE.var .i64 3))) (IE.cel .i64 (LE.rom 0) (IE.var .i64 1005) 0))) :: pcholds4_4) (Sx.Sub.mk [(.i64, (1005, (IE.sub (IE.var .i64 1005) (IE.lit 1))))] [] [(1004, (LE.fn 2 (AL.lst (LE.var 1004) (AL.int .i64 (IE.cel .i64 (LE.rom 0) (IE.var .i64 1005) 0) (AL.int .i64 (IE.cel .i64 (LE.rom 0) (IE.var .i64 1005) 1) (AL.bool (BE.cel (LE.rom 0) (IE.var .i64 1005) 2) (AL.int .i64 (IE.cel .i64 (LE.rom 0) (IE.var .i64 1005) 3) (AL.int .i64 (IE.cel .i64 (LE.rom 0) (IE.var .i64 1005) 4) AL.nil)))))))), (1002, (LE.var 1002))] [] [] []))
def wholds4_2 : VW := (VW.cut 4 ((BE.not (BE.le (IE.lit 0) (IE.cel .i64 (LE.rom 0) (IE.var .i64 1005) 0))) :: pcholds4_3) (Sx.Sub.mk [(.i64, (1005, (IE.sub (IE.var .i64 1005) (IE.lit 1))))] [] [(1004, (LE.var 1004)), (1002, (LE.var 1002))] [] [] []))
def wholds4_3 : VW := (VW.cut 4 ((BE.not (BE.fn 3 (AL.int .i64 (IE.cel .i64 (LE.rom 0) (IE.var .i64 1005) 1) (AL.bool (BE.cel (LE.rom 0) (IE.var .i64 1005) 2) (AL.int .i64 (IE.cel .i64 (LE.rom 0) (IE.var .i64 1005) 3) (AL.int .i64 (IE.cel .i64 (LE.rom 0) (IE.var .i64 1005) 4) AL.nil)))))) :: pcholds4_1) (Sx.Sub.mk [(.i64, (1005, (IE.sub (IE.var .i64 1005) (IE.lit 1))))] [] [(1004, (LE.var 1004)), (1002, (LE.var 1002))] [] [] []))
def wholds4_4 : VW := (VW.done ((BE.leq (LE.var 1002) (LE.var 1004)) :: pcholds4_2) (some []))
def wholds4_5 : VW := (VW.done ((BE.not (BE.leq (LE.var 1002) (LE.var 1004))) :: pcholds4_2) (some [(G.b (BE.lit true) (BE.lit false))]))
def vwholds4 : List VW := [wholds4_0, wholds4_1, wholds4_2, wholds4_3, wholds4_4, wholds4_5]
def vwholds : Nat → List VW
  | 0 => vwholds0
  | 1 => vwholds1
  | 2 => vwholds2
  | 3 => vwholds3
  | 4 => vwholds4
  | _ => []
end
def invholds : Nat → Lt → Prop
  | 1, l => Kn (l.z.rl 0) (IntKind.wrap .i64 ((l.i .i64 1) * (l.i .i64 3))) (l.l 1002) (fun j => j < (l.i .i64 1000)) ∧ (∀ x y : Int, 0 ≤ y → y < x → x < (l.i .i64 1000) → ¬ Conf (l.z.rl 0) x y) ∧ (l.z.rl 0).length ≤ 40 ∧ (l.z.rl 1).length ≤ 80
  | 2, l => Kn (l.z.rl 0) (IntKind.wrap .i64 ((l.i .i64 1) * (l.i .i64 3))) (l.l 1002) (fun j => j < (l.i .i64 1000)) ∧ (∀ x y : Int, 0 ≤ y → y < x → x < (l.i .i64 1000) → ¬ Conf (l.z.rl 0) x y) ∧ (∀ y : Int, 0 ≤ y → y < (l.i .i64 1001) → ¬ Conf (l.z.rl 0) (l.i .i64 1000) y) ∧ (l.z.rl 0).length ≤ 40 ∧ (l.z.rl 1).length ≤ 80
  | 3, l => Kn (l.z.rl 0) (IntKind.wrap .i64 ((l.i .i64 1) * (l.i .i64 3))) (l.l 1002) (fun j => j < ((l.z.rl 0).length : Int)) ∧ (∀ x y : Int, 0 ≤ y → y < x → x < ((l.z.rl 0).length : Int) → ¬ Conf (l.z.rl 0) x y) ∧ Kn (l.z.rl 0) (IntKind.wrap .i64 ((l.i .i64 1) * (l.i .i64 3))) (l.l 1004) (fun j => False) ∧ (l.z.rl 0).length ≤ 40 ∧ (l.z.rl 1).length ≤ 80
  | 4, l => Kn (l.z.rl 0) (IntKind.wrap .i64 ((l.i .i64 1) * (l.i .i64 3))) (l.l 1002) (fun j => j < ((l.z.rl 0).length : Int)) ∧ (∀ x y : Int, 0 ≤ y → y < x → x < ((l.z.rl 0).length : Int) → ¬ Conf (l.z.rl 0) x y) ∧ Kn (l.z.rl 0) (IntKind.wrap .i64 ((l.i .i64 1) * (l.i .i64 3))) (l.l 1004) (fun j => (l.i .i64 1005) < j) ∧ (l.z.rl 0).length ≤ 40 ∧ (l.z.rl 1).length ≤ 80
  | _, _ => True
def msholds : Nat → Lt → Nat
  | 0, l => 100 * (l.z.rl 0).length + (l.z.rl 0).length + (l.z.rl 1).length + 5
  | 1, l => 100 * ((l.z.rl 0).length - (l.i .i64 1000).toNat) + (l.z.rl 0).length + (l.z.rl 1).length + 4
  | 2, l => 100 * ((l.z.rl 0).length - (l.i .i64 1000).toNat) + (l.z.rl 0).length + (l.z.rl 1).length + 3 - (l.i .i64 1001).toNat
  | 3, l => (l.z.rl 0).length + 2 + ((l.z.rl 1).length - (l.i .i64 1003).toNat)
  | 4, l => ((l.i .i64 1005) + 1).toNat
  | _, _ => 0
theorem vcholds0_0 : VC TTholds invholds msholds 0 (startF 7 cHolds.pat [.lit true]) wholds0_0 := by
  intro ρ kn hi hp
  have hF : ρ.z.F = stat.Φ := kn.F
  simp only [h_nil, h_cons, d_le, d_eq, d_not, d_var, d_lit, d_cel, d_leq, d_fn, d_and, d_iff, IE.den, LE.den, AL.den, lenV, true_and, and_true, pcholds0_3, pcholds0_2, pcholds0_1, pcholds0_0, hF, pb1, pb2, pb3, pb4, pl2, pl4] at hp
  obtain ⟨p1, p2, p3, p4, p5, p6, p7, p8⟩ := hp
  refine (show (Kn (ρ.z.rl 0) (IntKind.wrap .i64 ((ρ.i .i64 1) * (ρ.i .i64 3))) (ρ.z.F.l 4 [.int .i64 (IntKind.wrap .i64 ((ρ.i .i64 1) * (ρ.i .i64 3)))]) (fun j => j < (0 : Int)) ∧ (∀ x y : Int, 0 ≤ y → y < x → x < (0 : Int) → ¬ Conf (ρ.z.rl 0) x y) ∧ (ρ.z.rl 0).length ≤ 40 ∧ (ρ.z.rl 1).length ≤ 80) ∧ ((100 * ((ρ.z.rl 0).length - (0 : Int).toNat) + (ρ.z.rl 0).length + (ρ.z.rl 1).length + 4 : Nat) < 100 * (ρ.z.rl 0).length + (ρ.z.rl 0).length + (ρ.z.rl 1).length + 5) from ?_)
  simp only [hF, pb1, pb2, pb3, pb4, pl2, pl4]
  exact ⟨⟨kn_mono (kn_zero (by omega)) (fun j a b c => by omega), fun x y a b c => by omega, by omega, by omega⟩, by omega⟩
def ivholds1 (ρ : Rho) : Prop := Kn (ρ.z.rl 0) (IntKind.wrap .i64 ((ρ.i .i64 1) * (ρ.i .i64 3))) (ρ.l 1002) (fun j => j < (ρ.i .i64 1000)) ∧ (∀ x y : Int, 0 ≤ y → y < x → x < (ρ.i .i64 1000) → ¬ Conf (ρ.z.rl 0) x y) ∧ (ρ.z.rl 0).length ≤ 40 ∧ (ρ.z.rl 1).length ≤ 80
theorem vcholds1_0 : VC TTholds invholds msholds 1 tholds1 wholds1_0 := by
  intro ρ kn hi hp
  have hi : ivholds1 ρ := hi
  unfold ivholds1 at hi
  have hF : ρ.z.F = stat.Φ := kn.F
  simp only [h_nil, h_cons, d_le, d_eq, d_not, d_var, d_lit, d_cel, d_leq, d_fn, d_and, d_iff, IE.den, LE.den, AL.den, lenV, true_and, and_true, pcholds1_0, hF, pb1, pb2, pb3, pb4, pl2, pl4] at hp
  obtain ⟨p1, p2, p3, p4, p5, p6, p7, p8, p9, p10, p11, p12, p13, p14, p15, p16, p17, p18, p19⟩ := hp
  refine (show (Kn (ρ.z.rl 0) (IntKind.wrap .i64 ((ρ.i .i64 1) * (ρ.i .i64 3))) (ρ.l 1002) (fun j => j < ((ρ.z.rl 0).length : Int)) ∧ (∀ x y : Int, 0 ≤ y → y < x → x < ((ρ.z.rl 0).length : Int) → ¬ Conf (ρ.z.rl 0) x y) ∧ Kn (ρ.z.rl 0) (IntKind.wrap .i64 ((ρ.i .i64 1) * (ρ.i .i64 3))) (ρ.z.F.l 4 [.int .i64 (IntKind.wrap .i64 ((ρ.i .i64 1) * (ρ.i .i64 3)))]) (fun j => False) ∧ (ρ.z.rl 0).length ≤ 40 ∧ (ρ.z.rl 1).length ≤ 80) ∧ (((ρ.z.rl 0).length + 2 + ((ρ.z.rl 1).length - (0 : Int).toNat) : Nat) < 100 * ((ρ.z.rl 0).length - (ρ.i .i64 1000).toNat) + (ρ.z.rl 0).length + (ρ.z.rl 1).length + 4) from ?_)
  simp only [hF, pb1, pb2, pb3, pb4, pl2, pl4]
  obtain ⟨k, c, b1, b2⟩ := hi
  exact ⟨⟨kn_mono k (fun j a b d => by omega), fun x y a b d => c x y a b (by omega), kn_zero (by omega), b1, b2⟩, by omega⟩
theorem vcholds1_1 : VC TTholds invholds msholds 1 tholds1 wholds1_1 := by
  intro ρ kn hi hp
  have hi : ivholds1 ρ := hi
  unfold ivholds1 at hi
  have hF : ρ.z.F = stat.Φ := kn.F
  simp only [h_nil, h_cons, d_le, d_eq, d_not, d_var, d_lit, d_cel, d_leq, d_fn, d_and, d_iff, IE.den, LE.den, AL.den, lenV, true_and, and_true, pcholds1_0, hF, pb1, pb2, pb3, pb4, pl2, pl4] at hp
  obtain ⟨p1, p2, p3, p4, p5, p6, p7, p8, p9, p10, p11, p12, p13, p14, p15, p16, p17, p18, p19⟩ := hp
  refine (show (Kn (ρ.z.rl 0) (IntKind.wrap .i64 ((ρ.i .i64 1) * (ρ.i .i64 3))) (ρ.l 1002) (fun j => j < (ρ.i .i64 1000)) ∧ (∀ x y : Int, 0 ≤ y → y < x → x < (ρ.i .i64 1000) → ¬ Conf (ρ.z.rl 0) x y) ∧ (∀ y : Int, 0 ≤ y → y < (0 : Int) → ¬ Conf (ρ.z.rl 0) (ρ.i .i64 1000) y) ∧ (ρ.z.rl 0).length ≤ 40 ∧ (ρ.z.rl 1).length ≤ 80) ∧ ((100 * ((ρ.z.rl 0).length - (ρ.i .i64 1000).toNat) + (ρ.z.rl 0).length + (ρ.z.rl 1).length + 3 - (0 : Int).toNat : Nat) < 100 * ((ρ.z.rl 0).length - (ρ.i .i64 1000).toNat) + (ρ.z.rl 0).length + (ρ.z.rl 1).length + 4) from ?_)
  obtain ⟨k, c, b1, b2⟩ := hi
  exact ⟨⟨k, c, fun y a b => by omega, b1, b2⟩, by omega⟩
def ivholds2 (ρ : Rho) : Prop := Kn (ρ.z.rl 0) (IntKind.wrap .i64 ((ρ.i .i64 1) * (ρ.i .i64 3))) (ρ.l 1002) (fun j => j < (ρ.i .i64 1000)) ∧ (∀ x y : Int, 0 ≤ y → y < x → x < (ρ.i .i64 1000) → ¬ Conf (ρ.z.rl 0) x y) ∧ (∀ y : Int, 0 ≤ y → y < (ρ.i .i64 1001) → ¬ Conf (ρ.z.rl 0) (ρ.i .i64 1000) y) ∧ (ρ.z.rl 0).length ≤ 40 ∧ (ρ.z.rl 1).length ≤ 80
theorem vcholds2_0 : VC TTholds invholds msholds 2 tholds2 wholds2_0 := by
  intro ρ kn hi hp
  have hi : ivholds2 ρ := hi
  unfold ivholds2 at hi
  have hF : ρ.z.F = stat.Φ := kn.F
  simp only [h_nil, h_cons, d_le, d_eq, d_not, d_var, d_lit, d_cel, d_leq, d_fn, d_and, d_iff, IE.den, LE.den, AL.den, lenV, true_and, and_true, pcholds2_5, pcholds2_3, pcholds2_1, pcholds2_0, hF, pb1, pb2, pb3, pb4, pl2, pl4] at hp
  obtain ⟨p1, p2, p3, p4, p5, p6, p7, p8, p9, p10, p11, p12, p13, p14, p15, p16, p17, p18, p19, p20, p21, p22, p23, p24, p25, p26, p27, p28⟩ := hp
  refine (show (Kn (ρ.z.rl 0) (IntKind.wrap .i64 ((ρ.i .i64 1) * (ρ.i .i64 3))) (ρ.l 1002) (fun j => j < ((ρ.i .i64 1000) + (1 : Int))) ∧ (∀ x y : Int, 0 ≤ y → y < x → x < ((ρ.i .i64 1000) + (1 : Int)) → ¬ Conf (ρ.z.rl 0) x y) ∧ (ρ.z.rl 0).length ≤ 40 ∧ (ρ.z.rl 1).length ≤ 80) ∧ ((100 * ((ρ.z.rl 0).length - ((ρ.i .i64 1000) + (1 : Int)).toNat) + (ρ.z.rl 0).length + (ρ.z.rl 1).length + 4 : Nat) < 100 * ((ρ.z.rl 0).length - (ρ.i .i64 1000).toNat) + (ρ.z.rl 0).length + (ρ.z.rl 1).length + 3 - (ρ.i .i64 1001).toNat) from ?_)
  obtain ⟨k, c, n, b1, b2⟩ := hi
  have h : ∀ x y : Int, 0 ≤ y → y < x → x < ρ.i .i64 1000 + 1 → ¬ Conf (ρ.z.rl 0) x y := fun x y a b d => by
    by_cases e : x = ρ.i .i64 1000
    · subst e; exact n y a (by omega)
    · exact c x y a b (by omega)
  refine ⟨⟨?_, h, b1, b2⟩, by omega⟩
  first
    | exact kn_mono (kn_learn2 (i := ρ.i .i64 1000) k (by omega) (by omega) (by assumption) (by omega) (by omega)) (fun j a b d => by omega)
    | (refine kn_mono (kn_skip2 (i := ρ.i .i64 1000) k ?_) (fun j a b d => by omega)
       rintro ⟨o1, o2, o3⟩
       first | omega | contradiction)
theorem vcholds2_1 : VC TTholds invholds msholds 2 tholds2 wholds2_1 := by
  intro ρ kn hi hp
  have hi : ivholds2 ρ := hi
  unfold ivholds2 at hi
  have hF : ρ.z.F = stat.Φ := kn.F
  simp only [h_nil, h_cons, d_le, d_eq, d_not, d_var, d_lit, d_cel, d_leq, d_fn, d_and, d_iff, IE.den, LE.den, AL.den, lenV, true_and, and_true, pcholds2_5, pcholds2_3, pcholds2_1, pcholds2_0, hF, pb1, pb2, pb3, pb4, pl2, pl4] at hp
  obtain ⟨p1, p2, p3, p4, p5, p6, p7, p8, p9, p10, p11, p12, p13, p14, p15, p16, p17, p18, p19, p20, p21, p22, p23, p24, p25, p26, p27, p28, p29, p30⟩ := hp
  refine (show (Kn (ρ.z.rl 0) (IntKind.wrap .i64 ((ρ.i .i64 1) * (ρ.i .i64 3))) (ρ.z.F.l 2 [.lst (ρ.l 1002), .int .i64 (clampK .i64 (intV (celV (ρ.z.rl 0) (ρ.i .i64 1000) 0))), .int .i64 (clampK .i64 (intV (celV (ρ.z.rl 0) (ρ.i .i64 1000) 1))), .bool (boolV (celV (ρ.z.rl 0) (ρ.i .i64 1000) 2)), .int .i64 (clampK .i64 (intV (celV (ρ.z.rl 0) (ρ.i .i64 1000) 3))), .int .i64 (clampK .i64 (intV (celV (ρ.z.rl 0) (ρ.i .i64 1000) 4)))]) (fun j => j < ((ρ.i .i64 1000) + (1 : Int))) ∧ (∀ x y : Int, 0 ≤ y → y < x → x < ((ρ.i .i64 1000) + (1 : Int)) → ¬ Conf (ρ.z.rl 0) x y) ∧ (ρ.z.rl 0).length ≤ 40 ∧ (ρ.z.rl 1).length ≤ 80) ∧ ((100 * ((ρ.z.rl 0).length - ((ρ.i .i64 1000) + (1 : Int)).toNat) + (ρ.z.rl 0).length + (ρ.z.rl 1).length + 4 : Nat) < 100 * ((ρ.z.rl 0).length - (ρ.i .i64 1000).toNat) + (ρ.z.rl 0).length + (ρ.z.rl 1).length + 3 - (ρ.i .i64 1001).toNat) from ?_)
  simp only [hF, pb1, pb2, pb3, pb4, pl2, pl4]
  obtain ⟨k, c, n, b1, b2⟩ := hi
  have h : ∀ x y : Int, 0 ≤ y → y < x → x < ρ.i .i64 1000 + 1 → ¬ Conf (ρ.z.rl 0) x y := fun x y a b d => by
    by_cases e : x = ρ.i .i64 1000
    · subst e; exact n y a (by omega)
    · exact c x y a b (by omega)
  refine ⟨⟨?_, h, b1, b2⟩, by omega⟩
  first
    | exact kn_mono (kn_learn2 (i := ρ.i .i64 1000) k (by omega) (by omega) (by assumption) (by omega) (by omega)) (fun j a b d => by omega)
    | (refine kn_mono (kn_skip2 (i := ρ.i .i64 1000) k ?_) (fun j a b d => by omega)
       rintro ⟨o1, o2, o3⟩
       first | omega | contradiction)
theorem vcholds2_2 : VC TTholds invholds msholds 2 tholds2 wholds2_2 := by
  intro ρ kn hi hp
  have hi : ivholds2 ρ := hi
  unfold ivholds2 at hi
  have hF : ρ.z.F = stat.Φ := kn.F
  simp only [h_nil, h_cons, d_le, d_eq, d_not, d_var, d_lit, d_cel, d_leq, d_fn, d_and, d_iff, IE.den, LE.den, AL.den, lenV, true_and, and_true, pcholds2_3, pcholds2_1, pcholds2_0, hF, pb1, pb2, pb3, pb4, pl2, pl4] at hp
  obtain ⟨p1, p2, p3, p4, p5, p6, p7, p8, p9, p10, p11, p12, p13, p14, p15, p16, p17, p18, p19, p20, p21, p22, p23, p24, p25, p26, p27⟩ := hp
  refine (show (Kn (ρ.z.rl 0) (IntKind.wrap .i64 ((ρ.i .i64 1) * (ρ.i .i64 3))) (ρ.l 1002) (fun j => j < ((ρ.i .i64 1000) + (1 : Int))) ∧ (∀ x y : Int, 0 ≤ y → y < x → x < ((ρ.i .i64 1000) + (1 : Int)) → ¬ Conf (ρ.z.rl 0) x y) ∧ (ρ.z.rl 0).length ≤ 40 ∧ (ρ.z.rl 1).length ≤ 80) ∧ ((100 * ((ρ.z.rl 0).length - ((ρ.i .i64 1000) + (1 : Int)).toNat) + (ρ.z.rl 0).length + (ρ.z.rl 1).length + 4 : Nat) < 100 * ((ρ.z.rl 0).length - (ρ.i .i64 1000).toNat) + (ρ.z.rl 0).length + (ρ.z.rl 1).length + 3 - (ρ.i .i64 1001).toNat) from ?_)
  obtain ⟨k, c, n, b1, b2⟩ := hi
  have h : ∀ x y : Int, 0 ≤ y → y < x → x < ρ.i .i64 1000 + 1 → ¬ Conf (ρ.z.rl 0) x y := fun x y a b d => by
    by_cases e : x = ρ.i .i64 1000
    · subst e; exact n y a (by omega)
    · exact c x y a b (by omega)
  refine ⟨⟨?_, h, b1, b2⟩, by omega⟩
  first
    | exact kn_mono (kn_learn2 (i := ρ.i .i64 1000) k (by omega) (by omega) (by assumption) (by omega) (by omega)) (fun j a b d => by omega)
    | (refine kn_mono (kn_skip2 (i := ρ.i .i64 1000) k ?_) (fun j a b d => by omega)
       rintro ⟨o1, o2, o3⟩
       first | omega | contradiction)
theorem vcholds2_3 : VC TTholds invholds msholds 2 tholds2 wholds2_3 := by
  intro ρ kn hi hp
  have hi : ivholds2 ρ := hi
  unfold ivholds2 at hi
  have hF : ρ.z.F = stat.Φ := kn.F
  simp only [h_nil, h_cons, d_le, d_eq, d_not, d_var, d_lit, d_cel, d_leq, d_fn, d_and, d_iff, IE.den, LE.den, AL.den, lenV, true_and, and_true, pcholds2_1, pcholds2_0, hF, pb1, pb2, pb3, pb4, pl2, pl4] at hp
  obtain ⟨p1, p2, p3, p4, p5, p6, p7, p8, p9, p10, p11, p12, p13, p14, p15, p16, p17, p18, p19, p20, p21, p22, p23, p24, p25, p26⟩ := hp
  refine (show (Kn (ρ.z.rl 0) (IntKind.wrap .i64 ((ρ.i .i64 1) * (ρ.i .i64 3))) (ρ.l 1002) (fun j => j < ((ρ.i .i64 1000) + (1 : Int))) ∧ (∀ x y : Int, 0 ≤ y → y < x → x < ((ρ.i .i64 1000) + (1 : Int)) → ¬ Conf (ρ.z.rl 0) x y) ∧ (ρ.z.rl 0).length ≤ 40 ∧ (ρ.z.rl 1).length ≤ 80) ∧ ((100 * ((ρ.z.rl 0).length - ((ρ.i .i64 1000) + (1 : Int)).toNat) + (ρ.z.rl 0).length + (ρ.z.rl 1).length + 4 : Nat) < 100 * ((ρ.z.rl 0).length - (ρ.i .i64 1000).toNat) + (ρ.z.rl 0).length + (ρ.z.rl 1).length + 3 - (ρ.i .i64 1001).toNat) from ?_)
  obtain ⟨k, c, n, b1, b2⟩ := hi
  have h : ∀ x y : Int, 0 ≤ y → y < x → x < ρ.i .i64 1000 + 1 → ¬ Conf (ρ.z.rl 0) x y := fun x y a b d => by
    by_cases e : x = ρ.i .i64 1000
    · subst e; exact n y a (by omega)
    · exact c x y a b (by omega)
  refine ⟨⟨?_, h, b1, b2⟩, by omega⟩
  first
    | exact kn_mono (kn_learn2 (i := ρ.i .i64 1000) k (by omega) (by omega) (by assumption) (by omega) (by omega)) (fun j a b d => by omega)
    | (refine kn_mono (kn_skip2 (i := ρ.i .i64 1000) k ?_) (fun j a b d => by omega)
       rintro ⟨o1, o2, o3⟩
       first | omega | contradiction)
theorem vcholds2_4 : VC TTholds invholds msholds 2 tholds2 wholds2_4 := by
  intro ρ kn hi hp
  have hi : ivholds2 ρ := hi
  unfold ivholds2 at hi
  have hF : ρ.z.F = stat.Φ := kn.F
  simp only [h_nil, h_cons, d_le, d_eq, d_not, d_var, d_lit, d_cel, d_leq, d_fn, d_and, d_iff, IE.den, LE.den, AL.den, lenV, true_and, and_true, pcholds2_11, pcholds2_9, pcholds2_7, pcholds2_6, pcholds2_4, pcholds2_2, pcholds2_0, hF, pb1, pb2, pb3, pb4, pl2, pl4] at hp
  obtain ⟨p1, p2, p3, p4, p5, p6, p7, p8, p9, p10, p11, p12, p13, p14, p15, p16, p17, p18, p19, p20, p21, p22, p23, p24, p25, p26, p27, p28, p29, p30, p31⟩ := hp
  refine (show (Kn (ρ.z.rl 0) (IntKind.wrap .i64 ((ρ.i .i64 1) * (ρ.i .i64 3))) (ρ.l 1002) (fun j => j < (ρ.i .i64 1000)) ∧ (∀ x y : Int, 0 ≤ y → y < x → x < (ρ.i .i64 1000) → ¬ Conf (ρ.z.rl 0) x y) ∧ (∀ y : Int, 0 ≤ y → y < ((ρ.i .i64 1001) + (1 : Int)) → ¬ Conf (ρ.z.rl 0) (ρ.i .i64 1000) y) ∧ (ρ.z.rl 0).length ≤ 40 ∧ (ρ.z.rl 1).length ≤ 80) ∧ ((100 * ((ρ.z.rl 0).length - (ρ.i .i64 1000).toNat) + (ρ.z.rl 0).length + (ρ.z.rl 1).length + 3 - ((ρ.i .i64 1001) + (1 : Int)).toNat : Nat) < 100 * ((ρ.z.rl 0).length - (ρ.i .i64 1000).toNat) + (ρ.z.rl 0).length + (ρ.z.rl 1).length + 3 - (ρ.i .i64 1001).toNat) from ?_)
  obtain ⟨k, c, n, b1, b2⟩ := hi
  refine ⟨⟨k, c, fun y a b => ?_, b1, b2⟩, by omega⟩
  by_cases e : y = ρ.i .i64 1001
  · subst e
    rintro ⟨c1, c2, c3, c4⟩
    unfold atI at c1 c2 c4
    unfold atB at c3
    first
      | omega
      | simp_all
      | (exfalso; apply c4; simp_all)
  · exact n y a (by omega)
theorem vcholds2_7 : VC TTholds invholds msholds 2 tholds2 wholds2_7 := by
  intro ρ kn hi hp
  have hi : ivholds2 ρ := hi
  unfold ivholds2 at hi
  have hF : ρ.z.F = stat.Φ := kn.F
  simp only [h_nil, h_cons, d_le, d_eq, d_not, d_var, d_lit, d_cel, d_leq, d_fn, d_and, d_iff, IE.den, LE.den, AL.den, lenV, true_and, and_true, pcholds2_7, pcholds2_6, pcholds2_4, pcholds2_2, pcholds2_0, hF, pb1, pb2, pb3, pb4, pl2, pl4] at hp
  obtain ⟨p1, p2, p3, p4, p5, p6, p7, p8, p9, p10, p11, p12, p13, p14, p15, p16, p17, p18, p19, p20, p21, p22, p23, p24, p25, p26, p27, p28, p29⟩ := hp
  refine (show (Kn (ρ.z.rl 0) (IntKind.wrap .i64 ((ρ.i .i64 1) * (ρ.i .i64 3))) (ρ.l 1002) (fun j => j < (ρ.i .i64 1000)) ∧ (∀ x y : Int, 0 ≤ y → y < x → x < (ρ.i .i64 1000) → ¬ Conf (ρ.z.rl 0) x y) ∧ (∀ y : Int, 0 ≤ y → y < ((ρ.i .i64 1001) + (1 : Int)) → ¬ Conf (ρ.z.rl 0) (ρ.i .i64 1000) y) ∧ (ρ.z.rl 0).length ≤ 40 ∧ (ρ.z.rl 1).length ≤ 80) ∧ ((100 * ((ρ.z.rl 0).length - (ρ.i .i64 1000).toNat) + (ρ.z.rl 0).length + (ρ.z.rl 1).length + 3 - ((ρ.i .i64 1001) + (1 : Int)).toNat : Nat) < 100 * ((ρ.z.rl 0).length - (ρ.i .i64 1000).toNat) + (ρ.z.rl 0).length + (ρ.z.rl 1).length + 3 - (ρ.i .i64 1001).toNat) from ?_)
  obtain ⟨k, c, n, b1, b2⟩ := hi
  refine ⟨⟨k, c, fun y a b => ?_, b1, b2⟩, by omega⟩
  by_cases e : y = ρ.i .i64 1001
  · subst e
    rintro ⟨c1, c2, c3, c4⟩
    unfold atI at c1 c2 c4
    unfold atB at c3
    first
      | omega
      | simp_all
      | (exfalso; apply c4; simp_all)
  · exact n y a (by omega)
theorem vcholds2_8 : VC TTholds invholds msholds 2 tholds2 wholds2_8 := by
  intro ρ kn hi hp
  have hi : ivholds2 ρ := hi
  unfold ivholds2 at hi
  have hF : ρ.z.F = stat.Φ := kn.F
  simp only [h_nil, h_cons, d_le, d_eq, d_not, d_var, d_lit, d_cel, d_leq, d_fn, d_and, d_iff, IE.den, LE.den, AL.den, lenV, true_and, and_true, pcholds2_8, pcholds2_6, pcholds2_4, pcholds2_2, pcholds2_0, hF, pb1, pb2, pb3, pb4, pl2, pl4] at hp
  obtain ⟨p1, p2, p3, p4, p5, p6, p7, p8, p9, p10, p11, p12, p13, p14, p15, p16, p17, p18, p19, p20, p21, p22, p23, p24, p25, p26, p27, p28, p29⟩ := hp
  refine (show (Kn (ρ.z.rl 0) (IntKind.wrap .i64 ((ρ.i .i64 1) * (ρ.i .i64 3))) (ρ.l 1002) (fun j => j < (ρ.i .i64 1000)) ∧ (∀ x y : Int, 0 ≤ y → y < x → x < (ρ.i .i64 1000) → ¬ Conf (ρ.z.rl 0) x y) ∧ (∀ y : Int, 0 ≤ y → y < ((ρ.i .i64 1001) + (1 : Int)) → ¬ Conf (ρ.z.rl 0) (ρ.i .i64 1000) y) ∧ (ρ.z.rl 0).length ≤ 40 ∧ (ρ.z.rl 1).length ≤ 80) ∧ ((100 * ((ρ.z.rl 0).length - (ρ.i .i64 1000).toNat) + (ρ.z.rl 0).length + (ρ.z.rl 1).length + 3 - ((ρ.i .i64 1001) + (1 : Int)).toNat : Nat) < 100 * ((ρ.z.rl 0).length - (ρ.i .i64 1000).toNat) + (ρ.z.rl 0).length + (ρ.z.rl 1).length + 3 - (ρ.i .i64 1001).toNat) from ?_)
  obtain ⟨k, c, n, b1, b2⟩ := hi
  refine ⟨⟨k, c, fun y a b => ?_, b1, b2⟩, by omega⟩
  by_cases e : y = ρ.i .i64 1001
  · subst e
    rintro ⟨c1, c2, c3, c4⟩
    unfold atI at c1 c2 c4
    unfold atB at c3
    first
      | omega
      | simp_all
      | (exfalso; apply c4; simp_all)
  · exact n y a (by omega)
theorem vcholds2_9 : VC TTholds invholds msholds 2 tholds2 wholds2_9 := by
  intro ρ kn hi hp
  have hi : ivholds2 ρ := hi
  unfold ivholds2 at hi
  have hF : ρ.z.F = stat.Φ := kn.F
  simp only [h_nil, h_cons, d_le, d_eq, d_not, d_var, d_lit, d_cel, d_leq, d_fn, d_and, d_iff, IE.den, LE.den, AL.den, lenV, true_and, and_true, pcholds2_12, pcholds2_10, pcholds2_8, pcholds2_6, pcholds2_4, pcholds2_2, pcholds2_0, hF, pb1, pb2, pb3, pb4, pl2, pl4] at hp
  obtain ⟨p1, p2, p3, p4, p5, p6, p7, p8, p9, p10, p11, p12, p13, p14, p15, p16, p17, p18, p19, p20, p21, p22, p23, p24, p25, p26, p27, p28, p29, p30, p31⟩ := hp
  refine (show (Kn (ρ.z.rl 0) (IntKind.wrap .i64 ((ρ.i .i64 1) * (ρ.i .i64 3))) (ρ.l 1002) (fun j => j < (ρ.i .i64 1000)) ∧ (∀ x y : Int, 0 ≤ y → y < x → x < (ρ.i .i64 1000) → ¬ Conf (ρ.z.rl 0) x y) ∧ (∀ y : Int, 0 ≤ y → y < ((ρ.i .i64 1001) + (1 : Int)) → ¬ Conf (ρ.z.rl 0) (ρ.i .i64 1000) y) ∧ (ρ.z.rl 0).length ≤ 40 ∧ (ρ.z.rl 1).length ≤ 80) ∧ ((100 * ((ρ.z.rl 0).length - (ρ.i .i64 1000).toNat) + (ρ.z.rl 0).length + (ρ.z.rl 1).length + 3 - ((ρ.i .i64 1001) + (1 : Int)).toNat : Nat) < 100 * ((ρ.z.rl 0).length - (ρ.i .i64 1000).toNat) + (ρ.z.rl 0).length + (ρ.z.rl 1).length + 3 - (ρ.i .i64 1001).toNat) from ?_)
  obtain ⟨k, c, n, b1, b2⟩ := hi
  refine ⟨⟨k, c, fun y a b => ?_, b1, b2⟩, by omega⟩
  by_cases e : y = ρ.i .i64 1001
  · subst e
    rintro ⟨c1, c2, c3, c4⟩
    unfold atI at c1 c2 c4
    unfold atB at c3
    first
      | omega
      | simp_all
      | (exfalso; apply c4; simp_all)
  · exact n y a (by omega)
theorem vcholds2_12 : VC TTholds invholds msholds 2 tholds2 wholds2_12 := by
  intro ρ kn hi hp
  have hi : ivholds2 ρ := hi
  unfold ivholds2 at hi
  have hF : ρ.z.F = stat.Φ := kn.F
  simp only [h_nil, h_cons, d_le, d_eq, d_not, d_var, d_lit, d_cel, d_leq, d_fn, d_and, d_iff, IE.den, LE.den, AL.den, lenV, true_and, and_true, pcholds2_4, pcholds2_2, pcholds2_0, hF, pb1, pb2, pb3, pb4, pl2, pl4] at hp
  obtain ⟨p1, p2, p3, p4, p5, p6, p7, p8, p9, p10, p11, p12, p13, p14, p15, p16, p17, p18, p19, p20, p21, p22, p23, p24, p25, p26, p27⟩ := hp
  refine (show (Kn (ρ.z.rl 0) (IntKind.wrap .i64 ((ρ.i .i64 1) * (ρ.i .i64 3))) (ρ.l 1002) (fun j => j < (ρ.i .i64 1000)) ∧ (∀ x y : Int, 0 ≤ y → y < x → x < (ρ.i .i64 1000) → ¬ Conf (ρ.z.rl 0) x y) ∧ (∀ y : Int, 0 ≤ y → y < ((ρ.i .i64 1001) + (1 : Int)) → ¬ Conf (ρ.z.rl 0) (ρ.i .i64 1000) y) ∧ (ρ.z.rl 0).length ≤ 40 ∧ (ρ.z.rl 1).length ≤ 80) ∧ ((100 * ((ρ.z.rl 0).length - (ρ.i .i64 1000).toNat) + (ρ.z.rl 0).length + (ρ.z.rl 1).length + 3 - ((ρ.i .i64 1001) + (1 : Int)).toNat : Nat) < 100 * ((ρ.z.rl 0).length - (ρ.i .i64 1000).toNat) + (ρ.z.rl 0).length + (ρ.z.rl 1).length + 3 - (ρ.i .i64 1001).toNat) from ?_)
  obtain ⟨k, c, n, b1, b2⟩ := hi
  refine ⟨⟨k, c, fun y a b => ?_, b1, b2⟩, by omega⟩
  by_cases e : y = ρ.i .i64 1001
  · subst e
    rintro ⟨c1, c2, c3, c4⟩
    unfold atI at c1 c2 c4
    unfold atB at c3
    first
      | omega
      | simp_all
      | (exfalso; apply c4; simp_all)
  · exact n y a (by omega)
theorem vcholds2_13 : VC TTholds invholds msholds 2 tholds2 wholds2_13 := by
  intro ρ kn hi hp
  have hi : ivholds2 ρ := hi
  unfold ivholds2 at hi
  have hF : ρ.z.F = stat.Φ := kn.F
  simp only [h_nil, h_cons, d_le, d_eq, d_not, d_var, d_lit, d_cel, d_leq, d_fn, d_and, d_iff, IE.den, LE.den, AL.den, lenV, true_and, and_true, pcholds2_2, pcholds2_0, hF, pb1, pb2, pb3, pb4, pl2, pl4] at hp
  obtain ⟨p1, p2, p3, p4, p5, p6, p7, p8, p9, p10, p11, p12, p13, p14, p15, p16, p17, p18, p19, p20, p21, p22, p23, p24, p25, p26⟩ := hp
  refine (show (Kn (ρ.z.rl 0) (IntKind.wrap .i64 ((ρ.i .i64 1) * (ρ.i .i64 3))) (ρ.l 1002) (fun j => j < (ρ.i .i64 1000)) ∧ (∀ x y : Int, 0 ≤ y → y < x → x < (ρ.i .i64 1000) → ¬ Conf (ρ.z.rl 0) x y) ∧ (∀ y : Int, 0 ≤ y → y < ((ρ.i .i64 1001) + (1 : Int)) → ¬ Conf (ρ.z.rl 0) (ρ.i .i64 1000) y) ∧ (ρ.z.rl 0).length ≤ 40 ∧ (ρ.z.rl 1).length ≤ 80) ∧ ((100 * ((ρ.z.rl 0).length - (ρ.i .i64 1000).toNat) + (ρ.z.rl 0).length + (ρ.z.rl 1).length + 3 - ((ρ.i .i64 1001) + (1 : Int)).toNat : Nat) < 100 * ((ρ.z.rl 0).length - (ρ.i .i64 1000).toNat) + (ρ.z.rl 0).length + (ρ.z.rl 1).length + 3 - (ρ.i .i64 1001).toNat) from ?_)
  obtain ⟨k, c, n, b1, b2⟩ := hi
  refine ⟨⟨k, c, fun y a b => ?_, b1, b2⟩, by omega⟩
  by_cases e : y = ρ.i .i64 1001
  · subst e
    rintro ⟨c1, c2, c3, c4⟩
    unfold atI at c1 c2 c4
    unfold atB at c3
    first
      | omega
      | simp_all
      | (exfalso; apply c4; simp_all)
  · exact n y a (by omega)
def ivholds3 (ρ : Rho) : Prop := Kn (ρ.z.rl 0) (IntKind.wrap .i64 ((ρ.i .i64 1) * (ρ.i .i64 3))) (ρ.l 1002) (fun j => j < ((ρ.z.rl 0).length : Int)) ∧ (∀ x y : Int, 0 ≤ y → y < x → x < ((ρ.z.rl 0).length : Int) → ¬ Conf (ρ.z.rl 0) x y) ∧ Kn (ρ.z.rl 0) (IntKind.wrap .i64 ((ρ.i .i64 1) * (ρ.i .i64 3))) (ρ.l 1004) (fun j => False) ∧ (ρ.z.rl 0).length ≤ 40 ∧ (ρ.z.rl 1).length ≤ 80
theorem vcholds3_0 : VC TTholds invholds msholds 3 tholds3 wholds3_0 := by
  intro ρ kn hi hp
  have hi : ivholds3 ρ := hi
  unfold ivholds3 at hi
  have hF : ρ.z.F = stat.Φ := kn.F
  simp only [h_nil, h_cons, d_le, d_eq, d_not, d_var, d_lit, d_cel, d_leq, d_fn, d_and, d_iff, IE.den, LE.den, AL.den, lenV, true_and, and_true, pcholds3_0, hF, pb1, pb2, pb3, pb4, pl2, pl4] at hp
  obtain ⟨p1, p2, p3, p4, p5, p6, p7, p8, p9, p10, p11, p12, p13, p14, p15, p16, p17, p18, p19, p20, p21, p22, p23⟩ := hp
  refine (show (Kn (ρ.z.rl 0) (IntKind.wrap .i64 ((ρ.i .i64 1) * (ρ.i .i64 3))) (ρ.l 1002) (fun j => j < ((ρ.z.rl 0).length : Int)) ∧ (∀ x y : Int, 0 ≤ y → y < x → x < ((ρ.z.rl 0).length : Int) → ¬ Conf (ρ.z.rl 0) x y) ∧ Kn (ρ.z.rl 0) (IntKind.wrap .i64 ((ρ.i .i64 1) * (ρ.i .i64 3))) (ρ.l 1004) (fun j => ((((ρ.z.rl 0).length : Nat) : Int) - (1 : Int)) < j) ∧ (ρ.z.rl 0).length ≤ 40 ∧ (ρ.z.rl 1).length ≤ 80) ∧ (((((((ρ.z.rl 0).length : Nat) : Int) - (1 : Int)) + 1).toNat : Nat) < (ρ.z.rl 0).length + 2 + ((ρ.z.rl 1).length - (ρ.i .i64 1003).toNat)) from ?_)
  obtain ⟨ka, c, k, b1, b2⟩ := hi
  exact ⟨⟨ka, c, kn_mono k (fun j a b d => by omega), b1, b2⟩, by omega⟩
theorem vcholds3_1 : VC TTholds invholds msholds 3 tholds3 wholds3_1 := by
  intro ρ kn hi hp
  have hi : ivholds3 ρ := hi
  unfold ivholds3 at hi
  have hF : ρ.z.F = stat.Φ := kn.F
  simp only [h_nil, h_cons, d_le, d_eq, d_not, d_var, d_lit, d_cel, d_leq, d_fn, d_and, d_iff, IE.den, LE.den, AL.den, lenV, true_and, and_true, pcholds3_2, pcholds3_1, pcholds3_0, hF, pb1, pb2, pb3, pb4, pl2, pl4] at hp
  obtain ⟨p1, p2, p3, p4, p5, p6, p7, p8, p9, p10, p11, p12, p13, p14, p15, p16, p17, p18, p19, p20, p21, p22, p23, p24, p25⟩ := hp
  refine (show (Kn (ρ.z.rl 0) (IntKind.wrap .i64 ((ρ.i .i64 1) * (ρ.i .i64 3))) (ρ.l 1002) (fun j => j < ((ρ.z.rl 0).length : Int)) ∧ (∀ x y : Int, 0 ≤ y → y < x → x < ((ρ.z.rl 0).length : Int) → ¬ Conf (ρ.z.rl 0) x y) ∧ Kn (ρ.z.rl 0) (IntKind.wrap .i64 ((ρ.i .i64 1) * (ρ.i .i64 3))) (ρ.l 1004) (fun j => False) ∧ (ρ.z.rl 0).length ≤ 40 ∧ (ρ.z.rl 1).length ≤ 80) ∧ (((ρ.z.rl 0).length + 2 + ((ρ.z.rl 1).length - ((ρ.i .i64 1003) + (1 : Int)).toNat) : Nat) < (ρ.z.rl 0).length + 2 + ((ρ.z.rl 1).length - (ρ.i .i64 1003).toNat)) from ?_)
  obtain ⟨ka, c, k, b1, b2⟩ := hi
  refine ⟨⟨ka, c, ?_, b1, b2⟩, by omega⟩
  first
    | exact k
    | exact kn_mono (kn_learn2 (i := (clampK .i64 (intV (celV (ρ.z.rl 1) (ρ.i .i64 1003) 0)))) k (by omega) (by omega) (by assumption) (by omega) (by omega)) (fun j a b d => d.elim)
    | (refine kn_mono (kn_skip2 (i := (clampK .i64 (intV (celV (ρ.z.rl 1) (ρ.i .i64 1003) 0)))) k ?_) (fun j a b d => d.elim)
       rintro ⟨o1, o2, o3⟩
       first | omega | contradiction)
theorem vcholds3_2 : VC TTholds invholds msholds 3 tholds3 wholds3_2 := by
  intro ρ kn hi hp
  have hi : ivholds3 ρ := hi
  unfold ivholds3 at hi
  have hF : ρ.z.F = stat.Φ := kn.F
  simp only [h_nil, h_cons, d_le, d_eq, d_not, d_var, d_lit, d_cel, d_leq, d_fn, d_and, d_iff, IE.den, LE.den, AL.den, lenV, true_and, and_true, pcholds3_5, pcholds3_4, pcholds3_3, pcholds3_2, pcholds3_1, pcholds3_0, hF, pb1, pb2, pb3, pb4, pl2, pl4] at hp
  obtain ⟨p1, p2, p3, p4, p5, p6, p7, p8, p9, p10, p11, p12, p13, p14, p15, p16, p17, p18, p19, p20, p21, p22, p23, p24, p25, p26, p27, p28⟩ := hp
  refine (show (Kn (ρ.z.rl 0) (IntKind.wrap .i64 ((ρ.i .i64 1) * (ρ.i .i64 3))) (ρ.l 1002) (fun j => j < ((ρ.z.rl 0).length : Int)) ∧ (∀ x y : Int, 0 ≤ y → y < x → x < ((ρ.z.rl 0).length : Int) → ¬ Conf (ρ.z.rl 0) x y) ∧ Kn (ρ.z.rl 0) (IntKind.wrap .i64 ((ρ.i .i64 1) * (ρ.i .i64 3))) (ρ.l 1004) (fun j => False) ∧ (ρ.z.rl 0).length ≤ 40 ∧ (ρ.z.rl 1).length ≤ 80) ∧ (((ρ.z.rl 0).length + 2 + ((ρ.z.rl 1).length - ((ρ.i .i64 1003) + (1 : Int)).toNat) : Nat) < (ρ.z.rl 0).length + 2 + ((ρ.z.rl 1).length - (ρ.i .i64 1003).toNat)) from ?_)
  obtain ⟨ka, c, k, b1, b2⟩ := hi
  refine ⟨⟨ka, c, ?_, b1, b2⟩, by omega⟩
  first
    | exact k
    | exact kn_mono (kn_learn2 (i := (clampK .i64 (intV (celV (ρ.z.rl 1) (ρ.i .i64 1003) 0)))) k (by omega) (by omega) (by assumption) (by omega) (by omega)) (fun j a b d => d.elim)
    | (refine kn_mono (kn_skip2 (i := (clampK .i64 (intV (celV (ρ.z.rl 1) (ρ.i .i64 1003) 0)))) k ?_) (fun j a b d => d.elim)
       rintro ⟨o1, o2, o3⟩
       first | omega | contradiction)
theorem vcholds3_3 : VC TTholds invholds msholds 3 tholds3 wholds3_3 := by
  intro ρ kn hi hp
  have hi : ivholds3 ρ := hi
  unfold ivholds3 at hi
  have hF : ρ.z.F = stat.Φ := kn.F
  simp only [h_nil, h_cons, d_le, d_eq, d_not, d_var, d_lit, d_cel, d_leq, d_fn, d_and, d_iff, IE.den, LE.den, AL.den, lenV, true_and, and_true, pcholds3_5, pcholds3_4, pcholds3_3, pcholds3_2, pcholds3_1, pcholds3_0, hF, pb1, pb2, pb3, pb4, pl2, pl4] at hp
  obtain ⟨p1, p2, p3, p4, p5, p6, p7, p8, p9, p10, p11, p12, p13, p14, p15, p16, p17, p18, p19, p20, p21, p22, p23, p24, p25, p26, p27, p28, p29, p30⟩ := hp
  refine (show (Kn (ρ.z.rl 0) (IntKind.wrap .i64 ((ρ.i .i64 1) * (ρ.i .i64 3))) (ρ.l 1002) (fun j => j < ((ρ.z.rl 0).length : Int)) ∧ (∀ x y : Int, 0 ≤ y → y < x → x < ((ρ.z.rl 0).length : Int) → ¬ Conf (ρ.z.rl 0) x y) ∧ Kn (ρ.z.rl 0) (IntKind.wrap .i64 ((ρ.i .i64 1) * (ρ.i .i64 3))) (ρ.z.F.l 2 [.lst (ρ.l 1004), .int .i64 (clampK .i64 (intV (celV (ρ.z.rl 0) (clampK .i64 (intV (celV (ρ.z.rl 1) (ρ.i .i64 1003) 0))) 0))), .int .i64 (clampK .i64 (intV (celV (ρ.z.rl 0) (clampK .i64 (intV (celV (ρ.z.rl 1) (ρ.i .i64 1003) 0))) 1))), .bool (boolV (celV (ρ.z.rl 0) (clampK .i64 (intV (celV (ρ.z.rl 1) (ρ.i .i64 1003) 0))) 2)), .int .i64 (clampK .i64 (intV (celV (ρ.z.rl 0) (clampK .i64 (intV (celV (ρ.z.rl 1) (ρ.i .i64 1003) 0))) 3))), .int .i64 (clampK .i64 (intV (celV (ρ.z.rl 0) (clampK .i64 (intV (celV (ρ.z.rl 1) (ρ.i .i64 1003) 0))) 4)))]) (fun j => False) ∧ (ρ.z.rl 0).length ≤ 40 ∧ (ρ.z.rl 1).length ≤ 80) ∧ (((ρ.z.rl 0).length + 2 + ((ρ.z.rl 1).length - ((ρ.i .i64 1003) + (1 : Int)).toNat) : Nat) < (ρ.z.rl 0).length + 2 + ((ρ.z.rl 1).length - (ρ.i .i64 1003).toNat)) from ?_)
  simp only [hF, pb1, pb2, pb3, pb4, pl2, pl4]
  obtain ⟨ka, c, k, b1, b2⟩ := hi
  refine ⟨⟨ka, c, ?_, b1, b2⟩, by omega⟩
  first
    | exact k
    | exact kn_mono (kn_learn2 (i := (clampK .i64 (intV (celV (ρ.z.rl 1) (ρ.i .i64 1003) 0)))) k (by omega) (by omega) (by assumption) (by omega) (by omega)) (fun j a b d => d.elim)
    | (refine kn_mono (kn_skip2 (i := (clampK .i64 (intV (celV (ρ.z.rl 1) (ρ.i .i64 1003) 0)))) k ?_) (fun j a b d => d.elim)
       rintro ⟨o1, o2, o3⟩
       first | omega | contradiction)
theorem vcholds3_4 : VC TTholds invholds msholds 3 tholds3 wholds3_4 := by
  intro ρ kn hi hp
  have hi : ivholds3 ρ := hi
  unfold ivholds3 at hi
  have hF : ρ.z.F = stat.Φ := kn.F
  simp only [h_nil, h_cons, d_le, d_eq, d_not, d_var, d_lit, d_cel, d_leq, d_fn, d_and, d_iff, IE.den, LE.den, AL.den, lenV, true_and, and_true, pcholds3_4, pcholds3_3, pcholds3_2, pcholds3_1, pcholds3_0, hF, pb1, pb2, pb3, pb4, pl2, pl4] at hp
  obtain ⟨p1, p2, p3, p4, p5, p6, p7, p8, p9, p10, p11, p12, p13, p14, p15, p16, p17, p18, p19, p20, p21, p22, p23, p24, p25, p26, p27⟩ := hp
  refine (show (Kn (ρ.z.rl 0) (IntKind.wrap .i64 ((ρ.i .i64 1) * (ρ.i .i64 3))) (ρ.l 1002) (fun j => j < ((ρ.z.rl 0).length : Int)) ∧ (∀ x y : Int, 0 ≤ y → y < x → x < ((ρ.z.rl 0).length : Int) → ¬ Conf (ρ.z.rl 0) x y) ∧ Kn (ρ.z.rl 0) (IntKind.wrap .i64 ((ρ.i .i64 1) * (ρ.i .i64 3))) (ρ.l 1004) (fun j => False) ∧ (ρ.z.rl 0).length ≤ 40 ∧ (ρ.z.rl 1).length ≤ 80) ∧ (((ρ.z.rl 0).length + 2 + ((ρ.z.rl 1).length - ((ρ.i .i64 1003) + (1 : Int)).toNat) : Nat) < (ρ.z.rl 0).length + 2 + ((ρ.z.rl 1).length - (ρ.i .i64 1003).toNat)) from ?_)
  obtain ⟨ka, c, k, b1, b2⟩ := hi
  refine ⟨⟨ka, c, ?_, b1, b2⟩, by omega⟩
  first
    | exact k
    | exact kn_mono (kn_learn2 (i := (clampK .i64 (intV (celV (ρ.z.rl 1) (ρ.i .i64 1003) 0)))) k (by omega) (by omega) (by assumption) (by omega) (by omega)) (fun j a b d => d.elim)
    | (refine kn_mono (kn_skip2 (i := (clampK .i64 (intV (celV (ρ.z.rl 1) (ρ.i .i64 1003) 0)))) k ?_) (fun j a b d => d.elim)
       rintro ⟨o1, o2, o3⟩
       first | omega | contradiction)
theorem vcholds3_5 : VC TTholds invholds msholds 3 tholds3 wholds3_5 := by
  intro ρ kn hi hp
  have hi : ivholds3 ρ := hi
  unfold ivholds3 at hi
  have hF : ρ.z.F = stat.Φ := kn.F
  simp only [h_nil, h_cons, d_le, d_eq, d_not, d_var, d_lit, d_cel, d_leq, d_fn, d_and, d_iff, IE.den, LE.den, AL.den, lenV, true_and, and_true, pcholds3_3, pcholds3_2, pcholds3_1, pcholds3_0, hF, pb1, pb2, pb3, pb4, pl2, pl4] at hp
  obtain ⟨p1, p2, p3, p4, p5, p6, p7, p8, p9, p10, p11, p12, p13, p14, p15, p16, p17, p18, p19, p20, p21, p22, p23, p24, p25, p26⟩ := hp
  refine (show (Kn (ρ.z.rl 0) (IntKind.wrap .i64 ((ρ.i .i64 1) * (ρ.i .i64 3))) (ρ.l 1002) (fun j => j < ((ρ.z.rl 0).length : Int)) ∧ (∀ x y : Int, 0 ≤ y → y < x → x < ((ρ.z.rl 0).length : Int) → ¬ Conf (ρ.z.rl 0) x y) ∧ Kn (ρ.z.rl 0) (IntKind.wrap .i64 ((ρ.i .i64 1) * (ρ.i .i64 3))) (ρ.l 1004) (fun j => False) ∧ (ρ.z.rl 0).length ≤ 40 ∧ (ρ.z.rl 1).length ≤ 80) ∧ (((ρ.z.rl 0).length + 2 + ((ρ.z.rl 1).length - ((ρ.i .i64 1003) + (1 : Int)).toNat) : Nat) < (ρ.z.rl 0).length + 2 + ((ρ.z.rl 1).length - (ρ.i .i64 1003).toNat)) from ?_)
  obtain ⟨ka, c, k, b1, b2⟩ := hi
  refine ⟨⟨ka, c, ?_, b1, b2⟩, by omega⟩
  first
    | exact k
    | exact kn_mono (kn_learn2 (i := (clampK .i64 (intV (celV (ρ.z.rl 1) (ρ.i .i64 1003) 0)))) k (by omega) (by omega) (by assumption) (by omega) (by omega)) (fun j a b d => d.elim)
    | (refine kn_mono (kn_skip2 (i := (clampK .i64 (intV (celV (ρ.z.rl 1) (ρ.i .i64 1003) 0)))) k ?_) (fun j a b d => d.elim)
       rintro ⟨o1, o2, o3⟩
       first | omega | contradiction)
theorem vcholds3_6 : VC TTholds invholds msholds 3 tholds3 wholds3_6 := by
  intro ρ kn hi hp
  have hi : ivholds3 ρ := hi
  unfold ivholds3 at hi
  have hF : ρ.z.F = stat.Φ := kn.F
  simp only [h_nil, h_cons, d_le, d_eq, d_not, d_var, d_lit, d_cel, d_leq, d_fn, d_and, d_iff, IE.den, LE.den, AL.den, lenV, true_and, and_true, pcholds3_1, pcholds3_0, hF, pb1, pb2, pb3, pb4, pl2, pl4] at hp
  obtain ⟨p1, p2, p3, p4, p5, p6, p7, p8, p9, p10, p11, p12, p13, p14, p15, p16, p17, p18, p19, p20, p21, p22, p23, p24⟩ := hp
  refine (show (Kn (ρ.z.rl 0) (IntKind.wrap .i64 ((ρ.i .i64 1) * (ρ.i .i64 3))) (ρ.l 1002) (fun j => j < ((ρ.z.rl 0).length : Int)) ∧ (∀ x y : Int, 0 ≤ y → y < x → x < ((ρ.z.rl 0).length : Int) → ¬ Conf (ρ.z.rl 0) x y) ∧ Kn (ρ.z.rl 0) (IntKind.wrap .i64 ((ρ.i .i64 1) * (ρ.i .i64 3))) (ρ.l 1004) (fun j => False) ∧ (ρ.z.rl 0).length ≤ 40 ∧ (ρ.z.rl 1).length ≤ 80) ∧ (((ρ.z.rl 0).length + 2 + ((ρ.z.rl 1).length - ((ρ.i .i64 1003) + (1 : Int)).toNat) : Nat) < (ρ.z.rl 0).length + 2 + ((ρ.z.rl 1).length - (ρ.i .i64 1003).toNat)) from ?_)
  obtain ⟨ka, c, k, b1, b2⟩ := hi
  refine ⟨⟨ka, c, ?_, b1, b2⟩, by omega⟩
  first
    | exact k
    | exact kn_mono (kn_learn2 (i := (clampK .i64 (intV (celV (ρ.z.rl 1) (ρ.i .i64 1003) 0)))) k (by omega) (by omega) (by assumption) (by omega) (by omega)) (fun j a b d => d.elim)
    | (refine kn_mono (kn_skip2 (i := (clampK .i64 (intV (celV (ρ.z.rl 1) (ρ.i .i64 1003) 0)))) k ?_) (fun j a b d => d.elim)
       rintro ⟨o1, o2, o3⟩
       first | omega | contradiction)
def ivholds4 (ρ : Rho) : Prop := Kn (ρ.z.rl 0) (IntKind.wrap .i64 ((ρ.i .i64 1) * (ρ.i .i64 3))) (ρ.l 1002) (fun j => j < ((ρ.z.rl 0).length : Int)) ∧ (∀ x y : Int, 0 ≤ y → y < x → x < ((ρ.z.rl 0).length : Int) → ¬ Conf (ρ.z.rl 0) x y) ∧ Kn (ρ.z.rl 0) (IntKind.wrap .i64 ((ρ.i .i64 1) * (ρ.i .i64 3))) (ρ.l 1004) (fun j => (ρ.i .i64 1005) < j) ∧ (ρ.z.rl 0).length ≤ 40 ∧ (ρ.z.rl 1).length ≤ 80
theorem vcholds4_0 : VC TTholds invholds msholds 4 tholds4 wholds4_0 := by
  intro ρ kn hi hp
  have hi : ivholds4 ρ := hi
  unfold ivholds4 at hi
  have hF : ρ.z.F = stat.Φ := kn.F
  simp only [h_nil, h_cons, d_le, d_eq, d_not, d_var, d_lit, d_cel, d_leq, d_fn, d_and, d_iff, IE.den, LE.den, AL.den, lenV, true_and, and_true, pcholds4_4, pcholds4_3, pcholds4_1, pcholds4_0, hF, pb1, pb2, pb3, pb4, pl2, pl4] at hp
  obtain ⟨p1, p2, p3, p4, p5, p6, p7, p8, p9, p10, p11, p12, p13, p14, p15, p16, p17, p18, p19, p20, p21, p22, p23, p24, p25, p26, p27, p28, p29⟩ := hp
  refine (show (Kn (ρ.z.rl 0) (IntKind.wrap .i64 ((ρ.i .i64 1) * (ρ.i .i64 3))) (ρ.l 1002) (fun j => j < ((ρ.z.rl 0).length : Int)) ∧ (∀ x y : Int, 0 ≤ y → y < x → x < ((ρ.z.rl 0).length : Int) → ¬ Conf (ρ.z.rl 0) x y) ∧ Kn (ρ.z.rl 0) (IntKind.wrap .i64 ((ρ.i .i64 1) * (ρ.i .i64 3))) (ρ.l 1004) (fun j => ((ρ.i .i64 1005) - (1 : Int)) < j) ∧ (ρ.z.rl 0).length ≤ 40 ∧ (ρ.z.rl 1).length ≤ 80) ∧ (((((ρ.i .i64 1005) - (1 : Int)) + 1).toNat : Nat) < ((ρ.i .i64 1005) + 1).toNat) from ?_)
  obtain ⟨ka, c, k, b1, b2⟩ := hi
  refine ⟨⟨ka, c, ?_, b1, b2⟩, by omega⟩
  first
    | exact kn_mono (kn_learn2 (i := ρ.i .i64 1005) k (by omega) (by omega) (by assumption) (by omega) (by omega)) (fun j a b d => by omega)
    | (refine kn_mono (kn_skip2 (i := ρ.i .i64 1005) k ?_) (fun j a b d => by omega)
       rintro ⟨o1, o2, o3⟩
       first | omega | contradiction)
theorem vcholds4_1 : VC TTholds invholds msholds 4 tholds4 wholds4_1 := by
  intro ρ kn hi hp
  have hi : ivholds4 ρ := hi
  unfold ivholds4 at hi
  have hF : ρ.z.F = stat.Φ := kn.F
  simp only [h_nil, h_cons, d_le, d_eq, d_not, d_var, d_lit, d_cel, d_leq, d_fn, d_and, d_iff, IE.den, LE.den, AL.den, lenV, true_and, and_true, pcholds4_4, pcholds4_3, pcholds4_1, pcholds4_0, hF, pb1, pb2, pb3, pb4, pl2, pl4] at hp
  obtain ⟨p1, p2, p3, p4, p5, p6, p7, p8, p9, p10, p11, p12, p13, p14, p15, p16, p17, p18, p19, p20, p21, p22, p23, p24, p25, p26, p27, p28, p29, p30, p31⟩ := hp
  refine (show (Kn (ρ.z.rl 0) (IntKind.wrap .i64 ((ρ.i .i64 1) * (ρ.i .i64 3))) (ρ.l 1002) (fun j => j < ((ρ.z.rl 0).length : Int)) ∧ (∀ x y : Int, 0 ≤ y → y < x → x < ((ρ.z.rl 0).length : Int) → ¬ Conf (ρ.z.rl 0) x y) ∧ Kn (ρ.z.rl 0) (IntKind.wrap .i64 ((ρ.i .i64 1) * (ρ.i .i64 3))) (ρ.z.F.l 2 [.lst (ρ.l 1004), .int .i64 (clampK .i64 (intV (celV (ρ.z.rl 0) (ρ.i .i64 1005) 0))), .int .i64 (clampK .i64 (intV (celV (ρ.z.rl 0) (ρ.i .i64 1005) 1))), .bool (boolV (celV (ρ.z.rl 0) (ρ.i .i64 1005) 2)), .int .i64 (clampK .i64 (intV (celV (ρ.z.rl 0) (ρ.i .i64 1005) 3))), .int .i64 (clampK .i64 (intV (celV (ρ.z.rl 0) (ρ.i .i64 1005) 4)))]) (fun j => ((ρ.i .i64 1005) - (1 : Int)) < j) ∧ (ρ.z.rl 0).length ≤ 40 ∧ (ρ.z.rl 1).length ≤ 80) ∧ (((((ρ.i .i64 1005) - (1 : Int)) + 1).toNat : Nat) < ((ρ.i .i64 1005) + 1).toNat) from ?_)
  simp only [hF, pb1, pb2, pb3, pb4, pl2, pl4]
  obtain ⟨ka, c, k, b1, b2⟩ := hi
  refine ⟨⟨ka, c, ?_, b1, b2⟩, by omega⟩
  first
    | exact kn_mono (kn_learn2 (i := ρ.i .i64 1005) k (by omega) (by omega) (by assumption) (by omega) (by omega)) (fun j a b d => by omega)
    | (refine kn_mono (kn_skip2 (i := ρ.i .i64 1005) k ?_) (fun j a b d => by omega)
       rintro ⟨o1, o2, o3⟩
       first | omega | contradiction)
theorem vcholds4_2 : VC TTholds invholds msholds 4 tholds4 wholds4_2 := by
  intro ρ kn hi hp
  have hi : ivholds4 ρ := hi
  unfold ivholds4 at hi
  have hF : ρ.z.F = stat.Φ := kn.F
  simp only [h_nil, h_cons, d_le, d_eq, d_not, d_var, d_lit, d_cel, d_leq, d_fn, d_and, d_iff, IE.den, LE.den, AL.den, lenV, true_and, and_true, pcholds4_3, pcholds4_1, pcholds4_0, hF, pb1, pb2, pb3, pb4, pl2, pl4] at hp
  obtain ⟨p1, p2, p3, p4, p5, p6, p7, p8, p9, p10, p11, p12, p13, p14, p15, p16, p17, p18, p19, p20, p21, p22, p23, p24, p25, p26, p27, p28⟩ := hp
  refine (show (Kn (ρ.z.rl 0) (IntKind.wrap .i64 ((ρ.i .i64 1) * (ρ.i .i64 3))) (ρ.l 1002) (fun j => j < ((ρ.z.rl 0).length : Int)) ∧ (∀ x y : Int, 0 ≤ y → y < x → x < ((ρ.z.rl 0).length : Int) → ¬ Conf (ρ.z.rl 0) x y) ∧ Kn (ρ.z.rl 0) (IntKind.wrap .i64 ((ρ.i .i64 1) * (ρ.i .i64 3))) (ρ.l 1004) (fun j => ((ρ.i .i64 1005) - (1 : Int)) < j) ∧ (ρ.z.rl 0).length ≤ 40 ∧ (ρ.z.rl 1).length ≤ 80) ∧ (((((ρ.i .i64 1005) - (1 : Int)) + 1).toNat : Nat) < ((ρ.i .i64 1005) + 1).toNat) from ?_)
  obtain ⟨ka, c, k, b1, b2⟩ := hi
  refine ⟨⟨ka, c, ?_, b1, b2⟩, by omega⟩
  first
    | exact kn_mono (kn_learn2 (i := ρ.i .i64 1005) k (by omega) (by omega) (by assumption) (by omega) (by omega)) (fun j a b d => by omega)
    | (refine kn_mono (kn_skip2 (i := ρ.i .i64 1005) k ?_) (fun j a b d => by omega)
       rintro ⟨o1, o2, o3⟩
       first | omega | contradiction)
theorem vcholds4_3 : VC TTholds invholds msholds 4 tholds4 wholds4_3 := by
  intro ρ kn hi hp
  have hi : ivholds4 ρ := hi
  unfold ivholds4 at hi
  have hF : ρ.z.F = stat.Φ := kn.F
  simp only [h_nil, h_cons, d_le, d_eq, d_not, d_var, d_lit, d_cel, d_leq, d_fn, d_and, d_iff, IE.den, LE.den, AL.den, lenV, true_and, and_true, pcholds4_1, pcholds4_0, hF, pb1, pb2, pb3, pb4, pl2, pl4] at hp
  obtain ⟨p1, p2, p3, p4, p5, p6, p7, p8, p9, p10, p11, p12, p13, p14, p15, p16, p17, p18, p19, p20, p21, p22, p23, p24, p25, p26, p27⟩ := hp
  refine (show (Kn (ρ.z.rl 0) (IntKind.wrap .i64 ((ρ.i .i64 1) * (ρ.i .i64 3))) (ρ.l 1002) (fun j => j < ((ρ.z.rl 0).length : Int)) ∧ (∀ x y : Int, 0 ≤ y → y < x → x < ((ρ.z.rl 0).length : Int) → ¬ Conf (ρ.z.rl 0) x y) ∧ Kn (ρ.z.rl 0) (IntKind.wrap .i64 ((ρ.i .i64 1) * (ρ.i .i64 3))) (ρ.l 1004) (fun j => ((ρ.i .i64 1005) - (1 : Int)) < j) ∧ (ρ.z.rl 0).length ≤ 40 ∧ (ρ.z.rl 1).length ≤ 80) ∧ (((((ρ.i .i64 1005) - (1 : Int)) + 1).toNat : Nat) < ((ρ.i .i64 1005) + 1).toNat) from ?_)
  obtain ⟨ka, c, k, b1, b2⟩ := hi
  refine ⟨⟨ka, c, ?_, b1, b2⟩, by omega⟩
  first
    | exact kn_mono (kn_learn2 (i := ρ.i .i64 1005) k (by omega) (by omega) (by assumption) (by omega) (by omega)) (fun j a b d => by omega)
    | (refine kn_mono (kn_skip2 (i := ρ.i .i64 1005) k ?_) (fun j a b d => by omega)
       rintro ⟨o1, o2, o3⟩
       first | omega | contradiction)
theorem vcholds4_5 : VC TTholds invholds msholds 4 tholds4 wholds4_5 := by
  intro ρ kn hi hp
  have hi : ivholds4 ρ := hi
  unfold ivholds4 at hi
  have hr1 : Typed [(CK.int .i64), CK.bool, (CK.int .i64), (CK.int .i64)] (ρ.l 1002) ∧ (((ρ.l 1002).length : Nat) : Int) = (((ρ.l 1002)).length : Int) := kn.rows 1 _ _ _ _ _ _ rfl
  have hr3 : Typed [(CK.int .i64), CK.bool, (CK.int .i64), (CK.int .i64)] (ρ.l 1004) ∧ (((ρ.l 1004).length : Nat) : Int) = (((ρ.l 1004)).length : Int) := kn.rows 3 _ _ _ _ _ _ rfl
  have hF : ρ.z.F = stat.Φ := kn.F
  simp only [h_nil, h_cons, d_le, d_eq, d_not, d_var, d_lit, d_cel, d_leq, d_fn, d_and, d_iff, IE.den, LE.den, AL.den, lenV, true_and, and_true, pcholds4_2, pcholds4_0, hF, pb1, pb2, pb3, pb4, pl2, pl4] at hp
  obtain ⟨p1, p2, p3, p4, p5, p6, p7, p8, p9, p10, p11, p12, p13, p14, p15, p16, p17, p18, p19, p20, p21, p22, p23, p24, p25, p26, p27⟩ := hp
  exfalso
  all_goals
    obtain ⟨ka, c, k, b1, b2⟩ := hi
    have e : ρ.l 1002 = ρ.l 1004 := kn_eq hr1.1 hr3.1 c ka k (fun i a b => b) (fun i a b => by omega)
    first | exact eqV_t e | exact eqV_t e.symm | exact (by assumption : ¬ _) e | exact absurd e (by assumption)
theorem vcsholds0 : ∀ v ∈ vwholds 0, VC TTholds invholds msholds 0 (startF 7 cHolds.pat [.lit true]) v := all_cons vcholds0_0 (all_cons (fun _ _ _ _ => all_nil) (all_cons (fun _ _ _ _ => all_nil) (all_cons (fun _ _ _ _ => all_nil) (all_cons (fun _ _ _ _ => all_nil) (all_nil)))))
theorem okholds0 : cfgOk (startF 7 cHolds.pat [.lit true]) = true := by kernel_rfl
theorem sgholds0 : segL cHolds.roms cHolds (seg TTholds selholds 6000 tmholds (startF 7 cHolds.pat [.lit true])) = (true, codesR tmholds (views (seg TTholds selholds 6000 tmholds (startF 7 cHolds.pat [.lit true]))), vwholds 0) := by kernel_rfl
theorem vcsholds1 : ∀ v ∈ vwholds 1, VC TTholds invholds msholds 1 tholds1 v := all_cons vcholds1_0 (all_cons vcholds1_1 (all_nil))
theorem okholds1 : cfgOk tholds1 = true := by kernel_rfl
theorem sgholds1 : segL cHolds.roms cHolds (seg TTholds selholds 6000 tmholds tholds1) = (true, codesR tmholds (views (seg TTholds selholds 6000 tmholds tholds1)), vwholds 1) := by kernel_rfl
theorem vcsholds2 : ∀ v ∈ vwholds 2, VC TTholds invholds msholds 2 tholds2 v := all_cons vcholds2_0 (all_cons vcholds2_1 (all_cons vcholds2_2 (all_cons vcholds2_3 (all_cons vcholds2_4 (all_cons (fun _ _ _ _ => all_nil) (all_cons (fun _ _ _ _ => all_nil) (all_cons vcholds2_7 (all_cons vcholds2_8 (all_cons vcholds2_9 (all_cons (fun _ _ _ _ => all_nil) (all_cons (fun _ _ _ _ => all_nil) (all_cons vcholds2_12 (all_cons vcholds2_13 (all_nil))))))))))))))
theorem okholds2 : cfgOk tholds2 = true := by kernel_rfl
theorem sgholds2 : segL cHolds.roms cHolds (seg TTholds selholds 6000 tmholds tholds2) = (true, codesR tmholds (views (seg TTholds selholds 6000 tmholds tholds2)), vwholds 2) := by kernel_rfl
theorem vcsholds3 : ∀ v ∈ vwholds 3, VC TTholds invholds msholds 3 tholds3 v := all_cons vcholds3_0 (all_cons vcholds3_1 (all_cons vcholds3_2 (all_cons vcholds3_3 (all_cons vcholds3_4 (all_cons vcholds3_5 (all_cons vcholds3_6 (all_nil)))))))
theorem okholds3 : cfgOk tholds3 = true := by kernel_rfl
theorem sgholds3 : segL cHolds.roms cHolds (seg TTholds selholds 6000 tmholds tholds3) = (true, codesR tmholds (views (seg TTholds selholds 6000 tmholds tholds3)), vwholds 3) := by kernel_rfl
theorem vcsholds4 : ∀ v ∈ vwholds 4, VC TTholds invholds msholds 4 tholds4 v := all_cons vcholds4_0 (all_cons vcholds4_1 (all_cons vcholds4_2 (all_cons vcholds4_3 (all_cons (fun _ _ _ _ => all_nil) (all_cons vcholds4_5 (all_nil))))))
theorem okholds4 : cfgOk tholds4 = true := by kernel_rfl
theorem sgholds4 : segL cHolds.roms cHolds (seg TTholds selholds 6000 tmholds tholds4) = (true, codesR tmholds (views (seg TTholds selholds 6000 tmholds tholds4)), vwholds 4) := by kernel_rfl
theorem lnholds0 : ∀ ρ, Known TTholds (startF 7 cHolds.pat [.lit true]) ρ → invholds 0 ρ.lt → Holds ρ (leanOf (Cfg.pc (startF 7 cHolds.pat [.lit true]))) := by
  intro ρ _ _
  exact (show Holds ρ [] from fun p hp => by cases hp)
theorem lnholds1 : ∀ ρ, Known TTholds tholds1 ρ → invholds 1 ρ.lt → Holds ρ (leanOf (Cfg.pc tholds1)) := by
  intro ρ _ _
  exact (show Holds ρ [] from fun p hp => by cases hp)
theorem lnholds2 : ∀ ρ, Known TTholds tholds2 ρ → invholds 2 ρ.lt → Holds ρ (leanOf (Cfg.pc tholds2)) := by
  intro ρ _ _
  exact (show Holds ρ [] from fun p hp => by cases hp)
theorem lnholds3 : ∀ ρ, Known TTholds tholds3 ρ → invholds 3 ρ.lt → Holds ρ (leanOf (Cfg.pc tholds3)) := by
  intro ρ _ _
  exact (show Holds ρ [] from fun p hp => by cases hp)
theorem lnholds4 : ∀ ρ, Known TTholds tholds4 ρ → invholds 4 ρ.lt → Holds ρ (leanOf (Cfg.pc tholds4)) := by
  intro ρ _ _
  exact (show Holds ρ [] from fun p hp => by cases hp)
theorem told_holds : Sx.Told stat.Φ cHolds := by
  refine told_of (cs := [cWorks, cRight, cSi, cFrame, cFold, cSites1, cSites2, cRightL, cSame, cNew, cLearnA, cLearnB, cLearnC, cLearnD]) (all_cons told_works (all_cons told_right (all_cons told_si (all_cons told_frame (all_cons told_fold (all_cons told_sites1 (all_cons told_sites2 (all_cons told_rightL (all_cons told_same (all_cons told_new (all_cons told_learnA (all_cons told_learnB (all_cons told_learnC (all_cons told_learnD (all_nil))))))))))))))) (sel := selholds) 6000 tmholds invholds msholds vwholds 0 (pc0 := [.lit true]) (by kernel_rfl) (by kernel_rfl) (by kernel_rfl) (post_nil rfl) ?_ ?_ ?_ rfl (fun ρ _ _ => by simp [Holds, BE.den]) (fun _ _ _ _ => trivial) ?_
  · intro k C h
    have := lk_mem h
    simp only [tmholds, List.mem_cons, Prod.mk.injEq, List.not_mem_nil, or_false] at this
    rcases this with ⟨rfl, rfl⟩ | ⟨rfl, rfl⟩ | ⟨rfl, rfl⟩ | ⟨rfl, rfl⟩ | ⟨rfl, rfl⟩
    · exact okholds0
    · exact okholds1
    · exact okholds2
    · exact okholds3
    · exact okholds4
  · intro k C h
    have := lk_mem h
    simp only [tmholds, List.mem_cons, Prod.mk.injEq, List.not_mem_nil, or_false] at this
    rcases this with ⟨rfl, rfl⟩ | ⟨rfl, rfl⟩ | ⟨rfl, rfl⟩ | ⟨rfl, rfl⟩ | ⟨rfl, rfl⟩
    · exact sgholds0
    · exact sgholds1
    · exact sgholds2
    · exact sgholds3
    · exact sgholds4
  · intro k C h
    have := lk_mem h
    simp only [tmholds, List.mem_cons, Prod.mk.injEq, List.not_mem_nil, or_false] at this
    rcases this with ⟨rfl, rfl⟩ | ⟨rfl, rfl⟩ | ⟨rfl, rfl⟩ | ⟨rfl, rfl⟩ | ⟨rfl, rfl⟩
    · exact vcsholds0
    · exact vcsholds1
    · exact vcsholds2
    · exact vcsholds3
    · exact vcsholds4
  · intro k C h
    have := lk_mem h
    simp only [tmholds, List.mem_cons, Prod.mk.injEq, List.not_mem_nil, or_false] at this
    rcases this with ⟨rfl, rfl⟩ | ⟨rfl, rfl⟩ | ⟨rfl, rfl⟩ | ⟨rfl, rfl⟩ | ⟨rfl, rfl⟩
    · exact lnholds0
    · exact lnholds1
    · exact lnholds2
    · exact lnholds3
    · exact lnholds4
end Go.Proofs.Ytjgkaimgocnkmab.stat
