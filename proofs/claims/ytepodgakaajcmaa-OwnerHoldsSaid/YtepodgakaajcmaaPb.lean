/- Layer owner: the law OwnerHolds. No condition. -/
import Derived.Test.YtepodgakaajcmaaPc
set_option linter.unusedVariables false
set_option linter.unusedSimpArgs false
set_option linter.deprecated false
namespace Go.Proofs.Ytepodgakaajcmaa.own
open Go Go.Proofs.Ytepodgakaajcmaa.Sx
noncomputable section
abbrev TToh : Tab := T own.Φ cOH.roms [cWorks, cEnds, cSeeks]
def toh1 : Cfg := { top := ⟨8, over (opqS 10000 199) [(0, (SV.rom 0 (IE.lit 0) (IE.len (LE.rom 0)) none)), (1, (SV.rom 1 (IE.lit 0) (IE.len (LE.rom 1)) none)), (7, (SV.int .i64 (IE.var .i64 1))), (8, (SV.int .i64 (IE.var .i64 2))), (9, (SV.ptr 1 0)), (10, (SV.slice 2 0 1 1)), (11, (SV.int .i64 (IE.var .i64 1000)))], ogt (loopTodo (bodyOf (T own.Φ [] []) 8) 0), [], false, none⟩, rest := [], heap := [(1, .cells [(SV.int .i64 (IE.var .i64 1)), (SV.int .i64 (IE.lit 1)), (SV.int .i64 (IE.lit 1))] 23), (2, .cells [(SV.int .i64 (IE.lit 0))] 3)], next := 3, pc := .lit true :: ([] ++ [(BE.le (IE.lit 2) (IE.var .i64 1)), (BE.le (IE.var .i64 1) (IE.lit 64)), (BE.le (IE.lit 0) (IE.var .i64 2)), (BE.not (BE.le (IE.var .i64 1) (IE.var .i64 2))), (BE.le (IE.len (LE.rom 0)) (IE.lit 60)), (BE.le (IE.len (LE.rom 1)) (IE.lit 64)), (BE.le (IE.lit 0) (IE.var .i64 1000)), (BE.le (IE.var .i64 1000) (IE.len (LE.rom 0)))]) }
def toh2 : Cfg := { top := ⟨8, over (opqS 10000 199) [(0, (SV.rom 0 (IE.lit 0) (IE.len (LE.rom 0)) none)), (1, (SV.rom 1 (IE.lit 0) (IE.len (LE.rom 1)) none)), (7, (SV.int .i64 (IE.var .i64 1))), (8, (SV.int .i64 (IE.var .i64 2))), (9, (SV.ptr 1 0)), (10, (SV.sll 4 5 1 (IE.lit 0) (IE.var .i64 1003) none)), (11, (SV.int .i64 (IE.var .i64 1001)))], ogt (loopTodo (bodyOf (T own.Φ [] []) 8) 0), [], false, none⟩, rest := [], heap := [(1, .cells [(SV.int .i64 (IE.var .i64 1)), (SV.int .i64 (IE.lit 1)), (SV.int .i64 (IE.lit 1))] 23), (4, .rowl (LE.var 1002) (IE.var .i64 1003) [(CK.int .i64)] 3 5 1)], next := 6, pc := .lit true :: ([] ++ [(BE.le (IE.len (LE.rom 1)) (IE.lit 64)), (BE.le (IE.len (LE.rom 0)) (IE.lit 60)), (BE.not (BE.le (IE.var .i64 1) (IE.var .i64 2))), (BE.le (IE.lit 0) (IE.var .i64 2)), (BE.le (IE.var .i64 1) (IE.lit 64)), (BE.le (IE.lit 2) (IE.var .i64 1)), (BE.le (IE.lit 0) (IE.var .i64 1001)), (BE.le (IE.var .i64 1001) (IE.len (LE.rom 0))), (BE.le (IE.lit 0) (IE.var .i64 1003))] ++ (.and (.lit true) (.lit true)) :: [.le (.lit 1) (.var .i64 1003), .le (.var .i64 1003) (.add (.var .i64 1001) (.lit 1))]) }
def toh3 : Cfg := { top := ⟨8, over (opqS 10000 199) [(1, (SV.rom 1 (IE.lit 0) (IE.len (LE.rom 1)) none)), (7, (SV.int .i64 (IE.var .i64 1))), (8, (SV.int .i64 (IE.var .i64 2))), (9, (SV.ptr 1 0)), (10, (SV.sll 4 5 1 (IE.lit 0) (IE.var .i64 1003) none)), (12, (SV.sll 6 7 2 (IE.lit 0) (IE.var .i64 1) none)), (13, (SV.int .i64 (IE.var .i64 1004)))], ogt (loopTodo (bodyOf (T own.Φ [] []) 8) 1), [], false, none⟩, rest := [], heap := [(1, .cells [(SV.int .i64 (IE.var .i64 1)), (SV.int .i64 (IE.lit 1)), (SV.int .i64 (IE.lit 1))] 23), (4, .rowl (LE.var 1002) (IE.var .i64 1003) [(CK.int .i64)] 3 5 1), (6, .rowl (LE.var 1006) (IE.var .i64 1) [(CK.int .i64), (CK.int .i64)] 25 7 2)], next := 8, pc := .lit true :: ([] ++ [(BE.le (IE.lit 2) (IE.var .i64 1)), (BE.le (IE.var .i64 1) (IE.lit 64)), (BE.le (IE.lit 0) (IE.var .i64 2)), (BE.not (BE.le (IE.var .i64 1) (IE.var .i64 2))), (BE.le (IE.len (LE.rom 0)) (IE.lit 60)), (BE.le (IE.len (LE.rom 1)) (IE.lit 64)), (BE.le (IE.lit 0) (IE.var .i64 1003)), (BE.le (IE.lit 1) (IE.var .i64 1003)), (BE.le (IE.lit 0) (IE.var .i64 1004))] ++ (.and (.lit true) (.lit true)) :: [.le (.lit 0) (.cel .i64 (.var 1002) (.var .i64 1004) 0), .not (.le (.var .i64 1) (.cel .i64 (.var 1002) (.var .i64 1004) 0)), .le (.var .i64 1003) (.lit 61), .not (.le (.var .i64 1003) (.var .i64 1004))]) }
def toh4 : Cfg := { top := ⟨8, over (opqS 10000 199) [(1, (SV.rom 1 (IE.lit 0) (IE.len (LE.rom 1)) none)), (7, (SV.int .i64 (IE.var .i64 1))), (8, (SV.int .i64 (IE.var .i64 2))), (9, (SV.ptr 1 0)), (10, (SV.slice 2 0 1 1)), (12, (SV.sll 3 4 2 (IE.lit 0) (IE.var .i64 1) none)), (14, (SV.int .i64 (IE.var .i64 1000)))], ogt (loopTodo (bodyOf (T own.Φ [] []) 8) 2), [], false, none⟩, rest := [], heap := [(1, .cells [(SV.int .i64 (IE.var .i64 1)), (SV.int .i64 (IE.lit 1)), (SV.int .i64 (IE.lit 1))] 23), (2, .cells [(SV.int .i64 (IE.lit 0))] 3), (3, .rowl (LE.rep (AL.int .i64 (IE.lit 0) (AL.int .i64 (IE.lit 0) AL.nil)) (IE.var .i64 1)) (IE.var .i64 1) [(CK.int .i64), (CK.int .i64)] 25 4 2)], next := 5, pc := .lit true :: ([] ++ [(BE.le (IE.len (LE.rom 1)) (IE.lit 64)), (BE.le (IE.len (LE.rom 0)) (IE.lit 60)), (BE.not (BE.le (IE.var .i64 1) (IE.var .i64 2))), (BE.le (IE.lit 0) (IE.var .i64 2)), (BE.le (IE.var .i64 1) (IE.lit 64)), (BE.le (IE.lit 2) (IE.var .i64 1)), (BE.le (IE.lit 0) (IE.var .i64 1000)), (BE.le (IE.var .i64 1000) (IE.len (LE.rom 1)))]) }
def toh5 : Cfg := { top := ⟨8, over (opqS 10000 199) [(1, (SV.rom 1 (IE.lit 0) (IE.len (LE.rom 1)) none)), (7, (SV.int .i64 (IE.var .i64 1))), (8, (SV.int .i64 (IE.var .i64 2))), (9, (SV.ptr 1 0)), (10, (SV.sll 4 5 1 (IE.lit 0) (IE.var .i64 1003) none)), (12, (SV.sll 6 7 2 (IE.lit 0) (IE.var .i64 1) none)), (14, (SV.int .i64 (IE.var .i64 1007)))], ogt (loopTodo (bodyOf (T own.Φ [] []) 8) 2), [], false, none⟩, rest := [], heap := [(1, .cells [(SV.int .i64 (IE.var .i64 1)), (SV.int .i64 (IE.lit 1)), (SV.int .i64 (IE.lit 1))] 23), (4, .rowl (LE.var 1002) (IE.var .i64 1003) [(CK.int .i64)] 3 5 1), (6, .rowl (LE.var 1006) (IE.var .i64 1) [(CK.int .i64), (CK.int .i64)] 25 7 2)], next := 8, pc := .lit true :: ([] ++ [(BE.le (IE.len (LE.rom 1)) (IE.lit 64)), (BE.le (IE.len (LE.rom 0)) (IE.lit 60)), (BE.not (BE.le (IE.var .i64 1) (IE.var .i64 2))), (BE.le (IE.lit 0) (IE.var .i64 2)), (BE.le (IE.var .i64 1) (IE.lit 64)), (BE.le (IE.lit 2) (IE.var .i64 1)), (BE.le (IE.lit 0) (IE.var .i64 1003)), (BE.le (IE.lit 1) (IE.var .i64 1003)), (BE.le (IE.var .i64 1003) (IE.lit 61)), (BE.le (IE.lit 0) (IE.var .i64 1007)), (BE.le (IE.var .i64 1007) (IE.len (LE.rom 1)))]) }
def tmoh : List (Nat × Cfg) := [(0, startF 8 cOH.pat (.lit true :: cOH.pre)), (1, toh1), (2, toh2), (3, toh3), (4, toh4), (5, toh5)]
def seloh : Sel := [(8, 8000001, 1401000, 2), (8, 8000001, 0, 1), (8, 14000001, 1401000, 3), (8, 18000001, 1401000, 5), (8, 18000001, 0, 4)]
def pcoh0_0 : List BE := [(BE.lit true)]
def pcoh0_1 : List BE := ((BE.le (IE.lit 2) (IE.var .i64 1)) :: pcoh0_0)
def pcoh0_2 : List BE := ((BE.le (IE.var .i64 1) (IE.lit 64)) :: pcoh0_1)
def pcoh0_3 : List BE := ((BE.le (IE.lit 0) (IE.var .i64 2)) :: pcoh0_2)
def pcoh0_4 : List BE := ((BE.not (BE.le (IE.var .i64 1) (IE.var .i64 2))) :: pcoh0_3)
def pcoh0_5 : List BE := ((BE.le (IE.len (LE.rom 0)) (IE.lit 60)) :: pcoh0_4)
def woh0_0 : VW := (VW.done ((BE.le (IE.var .i64 1) (IE.var .i64 2)) :: pcoh0_3) (some []))
def woh0_1 : VW := (VW.cut 1 ((BE.le (IE.len (LE.rom 1)) (IE.lit 64)) :: pcoh0_5) (Sx.Sub.mk [(.i64, (1000, (IE.lit 0)))] [] [] [] [] []))
def woh0_2 : VW := (VW.done ((BE.not (BE.le (IE.len (LE.rom 1)) (IE.lit 64))) :: pcoh0_5) (some []))
def woh0_3 : VW := (VW.done ((BE.not (BE.le (IE.len (LE.rom 0)) (IE.lit 60))) :: pcoh0_4) (some []))
def woh0_4 : VW := (VW.done ((BE.not (BE.le (IE.lit 0) (IE.var .i64 2))) :: pcoh0_2) (some []))
def woh0_5 : VW := (VW.done ((BE.not (BE.le (IE.var .i64 1) (IE.lit 64))) :: pcoh0_1) (some []))
def woh0_6 : VW := (VW.done ((BE.not (BE.le (IE.lit 2) (IE.var .i64 1))) :: pcoh0_0) (some []))
def vwoh0 : List VW := [woh0_0, woh0_1, woh0_2, woh0_3, woh0_4, woh0_5, woh0_6]
def pcoh1_0 : List BE := [(BE.lit true), (BE.le (IE.lit 2) (IE.var .i64 1)), (BE.le (IE.var .i64 1) (IE.lit 64)), (BE.le (IE.lit 0) (IE.var .i64 2)), (BE.not (BE.le (IE.var .i64 1) (IE.var .i64 2))), (BE.le (IE.len (LE.rom 0)) (IE.lit 60)), (BE.le (IE.len (LE.rom 1)) (IE.lit 64)), (BE.le (IE.lit 0) (IE.var .i64 1000)), (BE.le (IE.var .i64 1000) (IE.len (LE.rom 0)))]
def pcoh1_1 : List BE := ((BE.not (BE.le (IE.len (LE.rom 0)) (IE.var .i64 1000))) :: pcoh1_0)
def pcoh1_2 : List BE := ((BE.le (IE.lit 0) (IE.cel .i64 (LE.rom 0) (IE.var .i64 1000) 0)) :: pcoh1_1)
def pcoh1_3 : List BE := ((BE.not (BE.le (IE.var .i64 1) (IE.cel .i64 (LE.rom 0) (IE.var .i64 1000) 0))) :: pcoh1_2)
def woh1_0 : VW := (VW.cut 4 ((BE.le (IE.len (LE.rom 0)) (IE.var .i64 1000)) :: pcoh1_0) (Sx.Sub.mk [(.i64, (1000, (IE.lit 0)))] [] [] [] [] []))
def woh1_1 : VW := (VW.cut 1 ((BE.le (IE.var .i64 1) (IE.cel .i64 (LE.rom 0) (IE.var .i64 1000) 0)) :: pcoh1_2) (Sx.Sub.mk [(.i64, (1000, (IE.add (IE.var .i64 1000) (IE.lit 1))))] [] [] [] [] []))
def woh1_2 : VW := (VW.cut 1 ((BE.eq (IE.cel .i64 (LE.rom 0) (IE.var .i64 1000) 0) (IE.lit 0)) :: pcoh1_3) (Sx.Sub.mk [(.i64, (1000, (IE.add (IE.var .i64 1000) (IE.lit 1))))] [] [] [] [] []))
def woh1_3 : VW := (VW.cut 2 ((BE.not (BE.eq (IE.cel .i64 (LE.rom 0) (IE.var .i64 1000) 0) (IE.lit 0))) :: pcoh1_3) (Sx.Sub.mk [(.i64, (1001, (IE.add (IE.var .i64 1000) (IE.lit 1)))), (.i64, (1003, (IE.lit 2)))] [] [(1002, (LE.cat (LE.one (AL.int .i64 (IE.lit 0) AL.nil)) (LE.one (AL.int .i64 (IE.cel .i64 (LE.rom 0) (IE.var .i64 1000) 0) AL.nil))))] [] [] []))
def woh1_4 : VW := (VW.cut 1 ((BE.not (BE.le (IE.lit 0) (IE.cel .i64 (LE.rom 0) (IE.var .i64 1000) 0))) :: pcoh1_1) (Sx.Sub.mk [(.i64, (1000, (IE.add (IE.var .i64 1000) (IE.lit 1))))] [] [] [] [] []))
def vwoh1 : List VW := [woh1_0, woh1_1, woh1_2, woh1_3, woh1_4]
def pcoh2_0 : List BE := [(BE.lit true), (BE.le (IE.len (LE.rom 1)) (IE.lit 64)), (BE.le (IE.len (LE.rom 0)) (IE.lit 60)), (BE.not (BE.le (IE.var .i64 1) (IE.var .i64 2))), (BE.le (IE.lit 0) (IE.var .i64 2)), (BE.le (IE.var .i64 1) (IE.lit 64)), (BE.le (IE.lit 2) (IE.var .i64 1)), (BE.le (IE.lit 0) (IE.var .i64 1001)), (BE.le (IE.var .i64 1001) (IE.len (LE.rom 0))), (BE.le (IE.lit 0) (IE.var .i64 1003)), (BE.and (BE.lit true) (BE.lit true)), (BE.le (IE.lit 1) (IE.var .i64 1003)), (BE.le (IE.var .i64 1003) (IE.add (IE.var .i64 1001) (IE.lit 1)))]
def pcoh2_1 : List BE := ((BE.not (BE.le (IE.len (LE.rom 0)) (IE.var .i64 1001))) :: pcoh2_0)
def pcoh2_2 : List BE := ((BE.le (IE.lit 0) (IE.cel .i64 (LE.rom 0) (IE.var .i64 1001) 0)) :: pcoh2_1)
def pcoh2_3 : List BE := ((BE.not (BE.le (IE.var .i64 1) (IE.cel .i64 (LE.rom 0) (IE.var .i64 1001) 0))) :: pcoh2_2)
def woh2_0 : VW := (VW.cut 3 ((BE.le (IE.len (LE.rom 0)) (IE.var .i64 1001)) :: pcoh2_0) (Sx.Sub.mk [(.i64, (1004, (IE.lit 0))), (.i64, (1003, (IE.var .i64 1003)))] [] [(1006, (LE.rep (AL.int .i64 (IE.lit 0) (AL.int .i64 (IE.lit 0) AL.nil)) (IE.var .i64 1))), (1002, (LE.var 1002))] [] [] []))
def woh2_1 : VW := (VW.cut 2 ((BE.le (IE.var .i64 1) (IE.cel .i64 (LE.rom 0) (IE.var .i64 1001) 0)) :: pcoh2_2) (Sx.Sub.mk [(.i64, (1001, (IE.add (IE.var .i64 1001) (IE.lit 1)))), (.i64, (1003, (IE.var .i64 1003)))] [] [(1002, (LE.var 1002))] [] [] []))
def woh2_2 : VW := (VW.cut 2 ((BE.eq (IE.cel .i64 (LE.rom 0) (IE.var .i64 1001) 0) (IE.cel .i64 (LE.var 1002) (IE.sub (IE.var .i64 1003) (IE.lit 1)) 0)) :: pcoh2_3) (Sx.Sub.mk [(.i64, (1001, (IE.add (IE.var .i64 1001) (IE.lit 1)))), (.i64, (1003, (IE.var .i64 1003)))] [] [(1002, (LE.var 1002))] [] [] []))
def woh2_3 : VW := (VW.cut 2 ((BE.not (BE.eq (IE.cel .i64 (LE.rom 0) (IE.var .i64 1001) 0) (IE.cel .i64 (LE.var 1002) (IE.sub (IE.var .i64 1003) (IE.lit 1)) 0))) :: pcoh2_3) (Sx.Sub.mk [(.i64, (1001, (IE.add (IE.var .i64 1001) (IE.lit 1)))), (.i64, (1003, (IE.add (IE.var .i64 1003) (IE.lit 1))))] [] [(1002, (LE.cat (LE.var 1002) (LE.one (AL.int .i64 (IE.cel .i64 (LE.rom 0) (IE.var .i64 1001) 0) AL.nil))))] [] [] []))
def woh2_4 : VW := (VW.cut 2 ((BE.not (BE.le (IE.lit 0) (IE.cel .i64 (LE.rom 0) (IE.var .i64 1001) 0))) :: pcoh2_1) (Sx.Sub.mk [(.i64, (1001, (IE.add (IE.var .i64 1001) (IE.lit 1)))), (.i64, (1003, (IE.var .i64 1003)))] [] [(1002, (LE.var 1002))] [] [] []))
def vwoh2 : List VW := [woh2_0, woh2_1, woh2_2, woh2_3, woh2_4]
def pcoh3_0 : List BE := [(BE.lit true), (BE.le (IE.lit 2) (IE.var .i64 1)), (BE.le (IE.var .i64 1) (IE.lit 64)), (BE.le (IE.lit 0) (IE.var .i64 2)), (BE.not (BE.le (IE.var .i64 1) (IE.var .i64 2))), (BE.le (IE.len (LE.rom 0)) (IE.lit 60)), (BE.le (IE.len (LE.rom 1)) (IE.lit 64)), (BE.le (IE.lit 0) (IE.var .i64 1003)), (BE.le (IE.lit 1) (IE.var .i64 1003)), (BE.le (IE.lit 0) (IE.var .i64 1004)), (BE.and (BE.lit true) (BE.lit true)), (BE.le (IE.lit 0) (IE.cel .i64 (LE.var 1002) (IE.var .i64 1004) 0)), (BE.not (BE.le (IE.var .i64 1) (IE.cel .i64 (LE.var 1002) (IE.var .i64 1004) 0))), (BE.le (IE.var .i64 1003) (IE.lit 61)), (BE.not (BE.le (IE.var .i64 1003) (IE.var .i64 1004)))]
def woh3_0 : VW := (VW.cut 5 ((BE.le (IE.var .i64 1003) (IE.add (IE.var .i64 1004) (IE.lit 1))) :: pcoh3_0) (Sx.Sub.mk [(.i64, (1007, (IE.lit 0))), (.i64, (1003, (IE.var .i64 1003)))] [] [(1006, (LE.var 1006)), (1002, (LE.var 1002))] [] [] []))
def woh3_1 : VW := (VW.cut 3 ((BE.not (BE.le (IE.var .i64 1003) (IE.add (IE.var .i64 1004) (IE.lit 1)))) :: pcoh3_0) (Sx.Sub.mk [(.i64, (1004, (IE.add (IE.var .i64 1004) (IE.lit 1)))), (.i64, (1003, (IE.var .i64 1003)))] [] [(1006, (LE.set (LE.var 1006) (IE.cel .i64 (LE.var 1002) (IE.var .i64 1004) 0) (AL.int .i64 (IE.cel .i64 (LE.var 1002) (IE.add (IE.var .i64 1004) (IE.lit 1)) 0) (AL.int .i64 (IE.add (IE.var .i64 1004) (IE.lit 1)) AL.nil)))), (1002, (LE.var 1002))] [] [] []))
def vwoh3 : List VW := [woh3_0, woh3_1]
def pcoh4_0 : List BE := [(BE.lit true), (BE.le (IE.len (LE.rom 1)) (IE.lit 64)), (BE.le (IE.len (LE.rom 0)) (IE.lit 60)), (BE.not (BE.le (IE.var .i64 1) (IE.var .i64 2))), (BE.le (IE.lit 0) (IE.var .i64 2)), (BE.le (IE.var .i64 1) (IE.lit 64)), (BE.le (IE.lit 2) (IE.var .i64 1)), (BE.le (IE.lit 0) (IE.var .i64 1000)), (BE.le (IE.var .i64 1000) (IE.len (LE.rom 1)))]
def pcoh4_1 : List BE := ((BE.le (IE.len (LE.rom 1)) (IE.var .i64 1000)) :: pcoh4_0)
def pcoh4_2 : List BE := ((BE.not (BE.le (IE.len (LE.rom 1)) (IE.var .i64 1000))) :: pcoh4_0)
def pcoh4_3 : List BE := ((BE.fn 1 (AL.int .i64 (IE.lit 1) (AL.int .i64 (IE.lit 1) AL.nil))) :: pcoh4_1)
def pcoh4_4 : List BE := ((BE.le (IE.var .i64 1) (IE.var .i64 1000)) :: pcoh4_2)
def pcoh4_5 : List BE := ((BE.not (BE.le (IE.var .i64 1) (IE.var .i64 1000))) :: pcoh4_2)
def pcoh4_6 : List BE := ((BE.fn 2 (AL.int .i64 (IE.lit 0) AL.nil)) :: pcoh4_3)
def pcoh4_7 : List BE := ((BE.fn 1 (AL.int .i64 (IE.lit 1) (AL.int .i64 (IE.lit 1) AL.nil))) :: pcoh4_4)
def pcoh4_8 : List BE := ((BE.le (IE.lit 0) (IE.cel .i64 (LE.rom 1) (IE.var .i64 1000) 0)) :: pcoh4_5)
def pcoh4_9 : List BE := ((BE.fn 3 (AL.lst (LE.rep (AL.int .i64 (IE.lit 0) (AL.int .i64 (IE.lit 0) AL.nil)) (IE.var .i64 1)) (AL.int .i64 (IE.var .i64 1) (AL.int .i64 (IE.lit 1) (AL.int .i64 (IE.lit 1) AL.nil))))) :: pcoh4_6)
def pcoh4_10 : List BE := ((BE.fn 2 (AL.int .i64 (IE.lit 0) AL.nil)) :: pcoh4_7)
def pcoh4_11 : List BE := ((BE.le (IE.lit 0) (IE.fn .i64 1 (AL.lst (LE.rep (AL.int .i64 (IE.lit 0) (AL.int .i64 (IE.lit 0) AL.nil)) (IE.var .i64 1)) (AL.int .i64 (IE.var .i64 2) (AL.int .i64 (IE.lit 0) AL.nil))))) :: pcoh4_9)
def pcoh4_12 : List BE := ((BE.fn 3 (AL.lst (LE.rep (AL.int .i64 (IE.lit 0) (AL.int .i64 (IE.lit 0) AL.nil)) (IE.var .i64 1)) (AL.int .i64 (IE.var .i64 1) (AL.int .i64 (IE.lit 1) (AL.int .i64 (IE.lit 1) AL.nil))))) :: pcoh4_10)
def pcoh4_13 : List BE := ((BE.not (BE.le (IE.var .i64 1) (IE.fn .i64 1 (AL.lst (LE.rep (AL.int .i64 (IE.lit 0) (AL.int .i64 (IE.lit 0) AL.nil)) (IE.var .i64 1)) (AL.int .i64 (IE.var .i64 2) (AL.int .i64 (IE.lit 0) AL.nil)))))) :: pcoh4_11)
def pcoh4_14 : List BE := ((BE.le (IE.lit 0) (IE.fn .i64 1 (AL.lst (LE.rep (AL.int .i64 (IE.lit 0) (AL.int .i64 (IE.lit 0) AL.nil)) (IE.var .i64 1)) (AL.int .i64 (IE.var .i64 2) (AL.int .i64 (IE.lit 0) AL.nil))))) :: pcoh4_12)
def pcoh4_15 : List BE := ((BE.not (BE.eq (IE.fn .i64 1 (AL.lst (LE.rep (AL.int .i64 (IE.lit 0) (AL.int .i64 (IE.lit 0) AL.nil)) (IE.var .i64 1)) (AL.int .i64 (IE.var .i64 2) (AL.int .i64 (IE.lit 0) AL.nil)))) (IE.lit 0))) :: pcoh4_13)
def pcoh4_16 : List BE := ((BE.not (BE.le (IE.var .i64 1) (IE.fn .i64 1 (AL.lst (LE.rep (AL.int .i64 (IE.lit 0) (AL.int .i64 (IE.lit 0) AL.nil)) (IE.var .i64 1)) (AL.int .i64 (IE.var .i64 2) (AL.int .i64 (IE.lit 0) AL.nil)))))) :: pcoh4_14)
def pcoh4_17 : List BE := ((BE.not (BE.eq (IE.var .i64 2) (IE.lit 0))) :: pcoh4_15)
def pcoh4_18 : List BE := ((BE.not (BE.eq (IE.fn .i64 1 (AL.lst (LE.rep (AL.int .i64 (IE.lit 0) (AL.int .i64 (IE.lit 0) AL.nil)) (IE.var .i64 1)) (AL.int .i64 (IE.var .i64 2) (AL.int .i64 (IE.lit 0) AL.nil)))) (IE.lit 0))) :: pcoh4_16)
def pcoh4_19 : List BE := ((BE.not (BE.eq (IE.var .i64 2) (IE.lit 0))) :: pcoh4_18)
def woh4_0 : VW := (VW.done ((BE.le (IE.var .i64 1) (IE.fn .i64 1 (AL.lst (LE.rep (AL.int .i64 (IE.lit 0) (AL.int .i64 (IE.lit 0) AL.nil)) (IE.var .i64 1)) (AL.int .i64 (IE.var .i64 2) (AL.int .i64 (IE.lit 0) AL.nil))))) :: pcoh4_11) (some [(G.b (BE.lit true) (BE.lit false))]))
def woh4_1 : VW := (VW.done ((BE.eq (IE.fn .i64 1 (AL.lst (LE.rep (AL.int .i64 (IE.lit 0) (AL.int .i64 (IE.lit 0) AL.nil)) (IE.var .i64 1)) (AL.int .i64 (IE.var .i64 2) (AL.int .i64 (IE.lit 0) AL.nil)))) (IE.lit 0)) :: pcoh4_13) (some []))
def woh4_2 : VW := (VW.done ((BE.eq (IE.var .i64 2) (IE.lit 0)) :: pcoh4_15) (some []))
def woh4_3 : VW := (VW.done ((BE.eq (IE.fn .i64 1 (AL.lst (LE.rep (AL.int .i64 (IE.lit 0) (AL.int .i64 (IE.lit 0) AL.nil)) (IE.var .i64 1)) (AL.int .i64 (IE.var .i64 2) (AL.int .i64 (IE.lit 0) AL.nil)))) (IE.var .i64 2)) :: pcoh4_17) (some []))
def woh4_4 : VW := (VW.done ((BE.not (BE.eq (IE.fn .i64 1 (AL.lst (LE.rep (AL.int .i64 (IE.lit 0) (AL.int .i64 (IE.lit 0) AL.nil)) (IE.var .i64 1)) (AL.int .i64 (IE.var .i64 2) (AL.int .i64 (IE.lit 0) AL.nil)))) (IE.var .i64 2))) :: pcoh4_17) (some [(G.b (BE.lit true) (BE.lit false))]))
def woh4_5 : VW := (VW.done ((BE.not (BE.le (IE.lit 0) (IE.fn .i64 1 (AL.lst (LE.rep (AL.int .i64 (IE.lit 0) (AL.int .i64 (IE.lit 0) AL.nil)) (IE.var .i64 1)) (AL.int .i64 (IE.var .i64 2) (AL.int .i64 (IE.lit 0) AL.nil)))))) :: pcoh4_9) (some [(G.b (BE.lit true) (BE.lit false))]))
def woh4_6 : VW := (VW.done ((BE.not (BE.fn 3 (AL.lst (LE.rep (AL.int .i64 (IE.lit 0) (AL.int .i64 (IE.lit 0) AL.nil)) (IE.var .i64 1)) (AL.int .i64 (IE.var .i64 1) (AL.int .i64 (IE.lit 1) (AL.int .i64 (IE.lit 1) AL.nil)))))) :: pcoh4_6) (some [(G.b (BE.lit true) (BE.lit false))]))
def woh4_7 : VW := (VW.done ((BE.not (BE.fn 2 (AL.int .i64 (IE.lit 0) AL.nil))) :: pcoh4_3) (some [(G.b (BE.lit true) (BE.lit false))]))
def woh4_8 : VW := (VW.done ((BE.not (BE.fn 1 (AL.int .i64 (IE.lit 1) (AL.int .i64 (IE.lit 1) AL.nil)))) :: pcoh4_1) (some [(G.b (BE.lit true) (BE.lit false))]))
def woh4_9 : VW := (VW.done ((BE.le (IE.var .i64 1) (IE.fn .i64 1 (AL.lst (LE.rep (AL.int .i64 (IE.lit 0) (AL.int .i64 (IE.lit 0) AL.nil)) (IE.var .i64 1)) (AL.int .i64 (IE.var .i64 2) (AL.int .i64 (IE.lit 0) AL.nil))))) :: pcoh4_14) (some [(G.b (BE.lit true) (BE.lit false))]))
def woh4_10 : VW := (VW.done ((BE.eq (IE.fn .i64 1 (AL.lst (LE.rep (AL.int .i64 (IE.lit 0) (AL.int .i64 (IE.lit 0) AL.nil)) (IE.var .i64 1)) (AL.int .i64 (IE.var .i64 2) (AL.int .i64 (IE.lit 0) AL.nil)))) (IE.lit 0)) :: pcoh4_16) (some []))
def woh4_11 : VW := (VW.done ((BE.eq (IE.var .i64 2) (IE.lit 0)) :: pcoh4_18) (some []))
def woh4_12 : VW := (VW.done ((BE.eq (IE.fn .i64 1 (AL.lst (LE.rep (AL.int .i64 (IE.lit 0) (AL.int .i64 (IE.lit 0) AL.nil)) (IE.var .i64 1)) (AL.int .i64 (IE.var .i64 2) (AL.int .i64 (IE.lit 0) AL.nil)))) (IE.var .i64 2)) :: pcoh4_19) (some []))
def woh4_13 : VW := (VW.done ((BE.not (BE.eq (IE.fn .i64 1 (AL.lst (LE.rep (AL.int .i64 (IE.lit 0) (AL.int .i64 (IE.lit 0) AL.nil)) (IE.var .i64 1)) (AL.int .i64 (IE.var .i64 2) (AL.int .i64 (IE.lit 0) AL.nil)))) (IE.var .i64 2))) :: pcoh4_19) (some [(G.b (BE.lit true) (BE.lit false))]))
def woh4_14 : VW := (VW.done ((BE.not (BE.le (IE.lit 0) (IE.fn .i64 1 (AL.lst (LE.rep (AL.int .i64 (IE.lit 0) (AL.int .i64 (IE.lit 0) AL.nil)) (IE.var .i64 1)) (AL.int .i64 (IE.var .i64 2) (AL.int .i64 (IE.lit 0) AL.nil)))))) :: pcoh4_12) (some [(G.b (BE.lit true) (BE.lit false))]))
def woh4_15 : VW := (VW.done ((BE.not (BE.fn 3 (AL.lst (LE.rep (AL.int .i64 (IE.lit 0) (AL.int .i64 (IE.lit 0) AL.nil)) (IE.var .i64 1)) (AL.int .i64 (IE.var .i64 1) (AL.int .i64 (IE.lit 1) (AL.int .i64 (IE.lit 1) AL.nil)))))) :: pcoh4_10) (some [(G.b (BE.lit true) (BE.lit false))]))
def woh4_16 : VW := (VW.done ((BE.not (BE.fn 2 (AL.int .i64 (IE.lit 0) AL.nil))) :: pcoh4_7) (some [(G.b (BE.lit true) (BE.lit false))]))
def woh4_17 : VW := (VW.done ((BE.not (BE.fn 1 (AL.int .i64 (IE.lit 1) (AL.int .i64 (IE.lit 1) AL.nil)))) :: pcoh4_4) (some [(G.b (BE.lit true) (BE.lit false))]))
def woh4_18 : VW := (VW.cut 4 ((BE.le (IE.lit 1) (IE.cel .i64 (LE.rom 1) (IE.var .i64 1000) 0)) :: pcoh4_8) (Sx.Sub.mk [(.i64, (1000, (IE.add (IE.var .i64 1000) (IE.lit 1))))] [] [] [] [] []))
def woh4_19 : VW := (VW.cut 4 ((BE.not (BE.le (IE.lit 1) (IE.cel .i64 (LE.rom 1) (IE.var .i64 1000) 0))) :: pcoh4_8) (Sx.Sub.mk [(.i64, (1000, (IE.add (IE.var .i64 1000) (IE.lit 1))))] [] [] [] [] []))
def woh4_20 : VW := (VW.cut 4 ((BE.not (BE.le (IE.lit 0) (IE.cel .i64 (LE.rom 1) (IE.var .i64 1000) 0))) :: pcoh4_5) (Sx.Sub.mk [(.i64, (1000, (IE.add (IE.var .i64 1000) (IE.lit 1))))] [] [] [] [] []))
def vwoh4 : List VW := [woh4_0, woh4_1, woh4_2, woh4_3, woh4_4, woh4_5, woh4_6, woh4_7, woh4_8, woh4_9, woh4_10, woh4_11, woh4_12, woh4_13, woh4_14, woh4_15, woh4_16, woh4_17, woh4_18, woh4_19, woh4_20]
def pcoh5_0 : List BE := [(BE.lit true), (BE.le (IE.len (LE.rom 1)) (IE.lit 64)), (BE.le (IE.len (LE.rom 0)) (IE.lit 60)), (BE.not (BE.le (IE.var .i64 1) (IE.var .i64 2))), (BE.le (IE.lit 0) (IE.var .i64 2)), (BE.le (IE.var .i64 1) (IE.lit 64)), (BE.le (IE.lit 2) (IE.var .i64 1)), (BE.le (IE.lit 0) (IE.var .i64 1003)), (BE.le (IE.lit 1) (IE.var .i64 1003)), (BE.le (IE.var .i64 1003) (IE.lit 61)), (BE.le (IE.lit 0) (IE.var .i64 1007)), (BE.le (IE.var .i64 1007) (IE.len (LE.rom 1)))]
def pcoh5_1 : List BE := ((BE.le (IE.len (LE.rom 1)) (IE.var .i64 1007)) :: pcoh5_0)
def pcoh5_2 : List BE := ((BE.not (BE.le (IE.len (LE.rom 1)) (IE.var .i64 1007))) :: pcoh5_0)
def pcoh5_3 : List BE := ((BE.fn 1 (AL.int .i64 (IE.lit 1) (AL.int .i64 (IE.lit 1) AL.nil))) :: pcoh5_1)
def pcoh5_4 : List BE := ((BE.le (IE.var .i64 1) (IE.var .i64 1007)) :: pcoh5_2)
def pcoh5_5 : List BE := ((BE.not (BE.le (IE.var .i64 1) (IE.var .i64 1007))) :: pcoh5_2)
def pcoh5_6 : List BE := ((BE.eq (IE.len (LE.var 1006)) (IE.var .i64 1)) :: pcoh5_3)
def pcoh5_7 : List BE := ((BE.fn 1 (AL.int .i64 (IE.lit 1) (AL.int .i64 (IE.lit 1) AL.nil))) :: pcoh5_4)
def pcoh5_8 : List BE := ((BE.le (IE.lit 0) (IE.cel .i64 (LE.rom 1) (IE.var .i64 1007) 0)) :: pcoh5_5)
def pcoh5_9 : List BE := ((BE.fn 2 (AL.int .i64 (IE.lit 0) AL.nil)) :: pcoh5_6)
def pcoh5_10 : List BE := ((BE.eq (IE.len (LE.var 1006)) (IE.var .i64 1)) :: pcoh5_7)
def pcoh5_11 : List BE := ((BE.not (BE.le (IE.var .i64 1003) (IE.cel .i64 (LE.rom 1) (IE.var .i64 1007) 0))) :: pcoh5_8)
def pcoh5_12 : List BE := ((BE.fn 3 (AL.lst (LE.var 1006) (AL.int .i64 (IE.var .i64 1) (AL.int .i64 (IE.lit 1) (AL.int .i64 (IE.lit 1) AL.nil))))) :: pcoh5_9)
def pcoh5_13 : List BE := ((BE.fn 2 (AL.int .i64 (IE.lit 0) AL.nil)) :: pcoh5_10)
def pcoh5_14 : List BE := ((BE.le (IE.lit 0) (IE.fn .i64 1 (AL.lst (LE.var 1006) (AL.int .i64 (IE.var .i64 2) (AL.int .i64 (IE.lit 0) AL.nil))))) :: pcoh5_12)
def pcoh5_15 : List BE := ((BE.fn 3 (AL.lst (LE.var 1006) (AL.int .i64 (IE.var .i64 1) (AL.int .i64 (IE.lit 1) (AL.int .i64 (IE.lit 1) AL.nil))))) :: pcoh5_13)
def pcoh5_16 : List BE := ((BE.not (BE.le (IE.var .i64 1) (IE.fn .i64 1 (AL.lst (LE.var 1006) (AL.int .i64 (IE.var .i64 2) (AL.int .i64 (IE.lit 0) AL.nil)))))) :: pcoh5_14)
def pcoh5_17 : List BE := ((BE.le (IE.lit 0) (IE.fn .i64 1 (AL.lst (LE.var 1006) (AL.int .i64 (IE.var .i64 2) (AL.int .i64 (IE.lit 0) AL.nil))))) :: pcoh5_15)
def pcoh5_18 : List BE := ((BE.not (BE.eq (IE.fn .i64 1 (AL.lst (LE.var 1006) (AL.int .i64 (IE.var .i64 2) (AL.int .i64 (IE.lit 0) AL.nil)))) (IE.cel .i64 (LE.var 1002) (IE.sub (IE.var .i64 1003) (IE.lit 1)) 0))) :: pcoh5_16)
def pcoh5_19 : List BE := ((BE.not (BE.le (IE.var .i64 1) (IE.fn .i64 1 (AL.lst (LE.var 1006) (AL.int .i64 (IE.var .i64 2) (AL.int .i64 (IE.lit 0) AL.nil)))))) :: pcoh5_17)
def pcoh5_20 : List BE := ((BE.not (BE.eq (IE.cel .i64 (LE.var 1006) (IE.fn .i64 1 (AL.lst (LE.var 1006) (AL.int .i64 (IE.var .i64 2) (AL.int .i64 (IE.lit 0) AL.nil)))) 0) (IE.var .i64 2))) :: pcoh5_18)
def pcoh5_21 : List BE := ((BE.not (BE.eq (IE.fn .i64 1 (AL.lst (LE.var 1006) (AL.int .i64 (IE.var .i64 2) (AL.int .i64 (IE.lit 0) AL.nil)))) (IE.cel .i64 (LE.var 1002) (IE.sub (IE.var .i64 1003) (IE.lit 1)) 0))) :: pcoh5_19)
def pcoh5_22 : List BE := ((BE.not (BE.eq (IE.cel .i64 (LE.var 1006) (IE.fn .i64 1 (AL.lst (LE.var 1006) (AL.int .i64 (IE.var .i64 2) (AL.int .i64 (IE.lit 0) AL.nil)))) 0) (IE.var .i64 2))) :: pcoh5_21)
def woh5_0 : VW := (VW.done ((BE.le (IE.var .i64 1) (IE.fn .i64 1 (AL.lst (LE.var 1006) (AL.int .i64 (IE.var .i64 2) (AL.int .i64 (IE.lit 0) AL.nil))))) :: pcoh5_14) (some [(G.b (BE.lit true) (BE.lit false))]))
def woh5_1 : VW := (VW.done ((BE.eq (IE.fn .i64 1 (AL.lst (LE.var 1006) (AL.int .i64 (IE.var .i64 2) (AL.int .i64 (IE.lit 0) AL.nil)))) (IE.cel .i64 (LE.var 1002) (IE.sub (IE.var .i64 1003) (IE.lit 1)) 0)) :: pcoh5_16) (some []))
def woh5_2 : VW := (VW.done ((BE.eq (IE.cel .i64 (LE.var 1006) (IE.fn .i64 1 (AL.lst (LE.var 1006) (AL.int .i64 (IE.var .i64 2) (AL.int .i64 (IE.lit 0) AL.nil)))) 0) (IE.var .i64 2)) :: pcoh5_18) (some []))
def woh5_3 : VW := (VW.done ((BE.eq (IE.fn .i64 1 (AL.lst (LE.var 1006) (AL.int .i64 (IE.var .i64 2) (AL.int .i64 (IE.lit 0) AL.nil)))) (IE.var .i64 2)) :: pcoh5_20) (some []))
def woh5_4 : VW := (VW.done ((BE.not (BE.eq (IE.fn .i64 1 (AL.lst (LE.var 1006) (AL.int .i64 (IE.var .i64 2) (AL.int .i64 (IE.lit 0) AL.nil)))) (IE.var .i64 2))) :: pcoh5_20) (some [(G.b (BE.lit true) (BE.lit false))]))
def woh5_5 : VW := (VW.done ((BE.not (BE.le (IE.lit 0) (IE.fn .i64 1 (AL.lst (LE.var 1006) (AL.int .i64 (IE.var .i64 2) (AL.int .i64 (IE.lit 0) AL.nil)))))) :: pcoh5_12) (some [(G.b (BE.lit true) (BE.lit false))]))
def woh5_6 : VW := (VW.done ((BE.not (BE.fn 3 (AL.lst (LE.var 1006) (AL.int .i64 (IE.var .i64 1) (AL.int .i64 (IE.lit 1) (AL.int .i64 (IE.lit 1) AL.nil)))))) :: pcoh5_9) (some [(G.b (BE.lit true) (BE.lit false))]))
def woh5_7 : VW := (VW.done ((BE.not (BE.fn 2 (AL.int .i64 (IE.lit 0) AL.nil))) :: pcoh5_6) (some [(G.b (BE.lit true) (BE.lit false))]))
def woh5_8 : VW := (VW.done ((BE.not (BE.eq (IE.len (LE.var 1006)) (IE.var .i64 1))) :: pcoh5_3) (some [(G.b (BE.lit true) (BE.lit false))]))
def woh5_9 : VW := (VW.done ((BE.not (BE.fn 1 (AL.int .i64 (IE.lit 1) (AL.int .i64 (IE.lit 1) AL.nil)))) :: pcoh5_1) (some [(G.b (BE.lit true) (BE.lit false))]))
def woh5_10 : VW := (VW.done ((BE.le (IE.var .i64 1) (IE.fn .i64 1 (AL.lst (LE.var 1006) (AL.int .i64 (IE.var .i64 2) (AL.int .i64 (IE.lit 0) AL.nil))))) :: pcoh5_17) (some [(G.b (BE.lit true) (BE.lit false))]))
def woh5_11 : VW := (VW.done ((BE.eq (IE.fn .i64 1 (AL.lst (LE.var 1006) (AL.int .i64 (IE.var .i64 2) (AL.int .i64 (IE.lit 0) AL.nil)))) (IE.cel .i64 (LE.var 1002) (IE.sub (IE.var .i64 1003) (IE.lit 1)) 0)) :: pcoh5_19) (some []))
def woh5_12 : VW := (VW.done ((BE.eq (IE.cel .i64 (LE.var 1006) (IE.fn .i64 1 (AL.lst (LE.var 1006) (AL.int .i64 (IE.var .i64 2) (AL.int .i64 (IE.lit 0) AL.nil)))) 0) (IE.var .i64 2)) :: pcoh5_21) (some []))
def woh5_13 : VW := (VW.done ((BE.eq (IE.fn .i64 1 (AL.lst (LE.var 1006) (AL.int .i64 (IE.var .i64 2) (AL.int .i64 (IE.lit 0) AL.nil)))) (IE.var .i64 2)) :: pcoh5_22) (some []))
def woh5_14 : VW := (VW.done ((BE.not (BE.eq (IE.fn .i64 1 (AL.lst (LE.var 1006) (AL.int .i64 (IE.var .i64 2) (AL.int .i64 (IE.lit 0) AL.nil)))) (IE.var .i64 2))) :: pcoh5_22) (some [(G.b (BE.lit true) (BE.lit false))]))
def woh5_15 : VW := (VW.done ((BE.not (BE.le (IE.lit 0) (IE.fn .i64 1 (AL.lst (LE.var 1006) (AL.int .i64 (IE.var .i64 2) (AL.int .i64 (IE.lit 0) AL.nil)))))) :: pcoh5_15) (some [(G.b (BE.lit true) (BE.lit false))]))
def woh5_16 : VW := (VW.done ((BE.not (BE.fn 3 (AL.lst (LE.var 1006) (AL.int .i64 (IE.var .i64 1) (AL.int .i64 (IE.lit 1) (AL.int .i64 (IE.lit 1) AL.nil)))))) :: pcoh5_13) (some [(G.b (BE.lit true) (BE.lit false))]))
def woh5_17 : VW := (VW.done ((BE.not (BE.fn 2 (AL.int .i64 (IE.lit 0) AL.nil))) :: pcoh5_10) (some [(G.b (BE.lit true) (BE.lit false))]))
def woh5_18 : VW := (VW.done ((BE.not (BE.eq (IE.len (LE.var 1006)) (IE.var .i64 1))) :: pcoh5_7) (some [(G.b (BE.lit true) (BE.lit false))]))
def woh5_19 : VW := (VW.done ((BE.not (BE.fn 1 (AL.int .i64 (IE.lit 1) (AL.int .i64 (IE.lit 1) AL.nil)))) :: pcoh5_4) (some [(G.b (BE.lit true) (BE.lit false))]))
def woh5_20 : VW := (VW.cut 5 ((BE.le (IE.var .i64 1003) (IE.cel .i64 (LE.rom 1) (IE.var .i64 1007) 0)) :: pcoh5_8) (Sx.Sub.mk [(.i64, (1007, (IE.add (IE.var .i64 1007) (IE.lit 1)))), (.i64, (1003, (IE.var .i64 1003)))] [] [(1006, (LE.var 1006)), (1002, (LE.var 1002))] [] [] []))
def woh5_21 : VW := (VW.cut 5 ((BE.le (IE.cel .i64 (LE.rom 1) (IE.var .i64 1007) 0) (IE.cel .i64 (LE.var 1006) (IE.var .i64 1007) 1)) :: pcoh5_11) (Sx.Sub.mk [(.i64, (1007, (IE.add (IE.var .i64 1007) (IE.lit 1)))), (.i64, (1003, (IE.var .i64 1003)))] [] [(1006, (LE.var 1006)), (1002, (LE.var 1002))] [] [] []))
def woh5_22 : VW := (VW.cut 5 ((BE.not (BE.le (IE.cel .i64 (LE.rom 1) (IE.var .i64 1007) 0) (IE.cel .i64 (LE.var 1006) (IE.var .i64 1007) 1))) :: pcoh5_11) (Sx.Sub.mk [(.i64, (1007, (IE.add (IE.var .i64 1007) (IE.lit 1)))), (.i64, (1003, (IE.var .i64 1003)))] [] [(1006, (LE.set (LE.var 1006) (IE.var .i64 1007) (AL.int .i64 (IE.cel .i64 (LE.var 1002) (IE.cel .i64 (LE.rom 1) (IE.var .i64 1007) 0) 0) (AL.int .i64 (IE.cel .i64 (LE.rom 1) (IE.var .i64 1007) 0) AL.nil)))), (1002, (LE.var 1002))] [] [] []))
def woh5_23 : VW := (VW.cut 5 ((BE.not (BE.le (IE.lit 0) (IE.cel .i64 (LE.rom 1) (IE.var .i64 1007) 0))) :: pcoh5_5) (Sx.Sub.mk [(.i64, (1007, (IE.add (IE.var .i64 1007) (IE.lit 1)))), (.i64, (1003, (IE.var .i64 1003)))] [] [(1006, (LE.var 1006)), (1002, (LE.var 1002))] [] [] []))
def vwoh5 : List VW := [woh5_0, woh5_1, woh5_2, woh5_3, woh5_4, woh5_5, woh5_6, woh5_7, woh5_8, woh5_9, woh5_10, woh5_11, woh5_12, woh5_13, woh5_14, woh5_15, woh5_16, woh5_17, woh5_18, woh5_19, woh5_20, woh5_21, woh5_22, woh5_23]
def vwoh : Nat → List VW
  | 0 => vwoh0
  | 1 => vwoh1
  | 2 => vwoh2
  | 3 => vwoh3
  | 4 => vwoh4
  | 5 => vwoh5
  | _ => []
end
def invoh : Nat → Lt → Prop
  | 2, l => WOk (l.l 1002) (l.i .i64 1) ∧ (l.l 1002).length ≤ (l.i .i64 1001).toNat + 1 ∧ 0 ≤ (l.i .i64 1001)
  | 3, l => WOk (l.l 1002) (l.i .i64 1) ∧ (l.l 1002).length ≤ 61 ∧ LOk (l.l 1002) (l.l 1006) (l.i .i64 1) (l.i .i64 1004).toNat ∧ (l.i .i64 1004).toNat + 1 ≤ (l.l 1002).length ∧ 0 ≤ (l.i .i64 1004)
  | 5, l => WOk (l.l 1002) (l.i .i64 1) ∧ (l.l 1002).length ≤ 61 ∧ LOk (l.l 1002) (l.l 1006) (l.i .i64 1) ((l.l 1002).length - 1)
  | _, _ => True
def msoh : Nat → Lt → Nat
  | 0, l => (l.z.rl 0).length + (l.z.rl 1).length + 500
  | 1, l => ((l.z.rl 0).length - (l.i .i64 1000).toNat) + (l.z.rl 1).length + 400
  | 2, l => ((l.z.rl 0).length - (l.i .i64 1001).toNat) + (l.z.rl 1).length + 300
  | 3, l => (61 - (l.i .i64 1004).toNat) + (l.z.rl 1).length + 100
  | 4, l => (l.z.rl 1).length - (l.i .i64 1000).toNat
  | 5, l => (l.z.rl 1).length - (l.i .i64 1007).toNat
  | _, _ => 0
theorem vcoh0_1 : VC TToh invoh msoh 0 (startF 8 cOH.pat (.lit true :: cOH.pre)) woh0_1 := by
  intro ρ kn hi hp
  have hF : ρ.z.F = own.Φ := kn.F
  simp only [h_nil, h_cons, d_le, d_eq, d_not, d_var, d_lit, d_cel, d_leq, d_fn, d_and, d_iff, IE.den, LE.den, AL.den, lenV, true_and, and_true, pcoh0_5, pcoh0_4, pcoh0_3, pcoh0_2, pcoh0_1, pcoh0_0, hF, pb1, pb2, pb3, pi1, pi2, pl2] at hp
  obtain ⟨p1, p2, p3, p4, p5, p6⟩ := hp
  refine (show (True) ∧ ((((ρ.z.rl 0).length - (0 : Int).toNat) + (ρ.z.rl 1).length + 400 : Nat) < (ρ.z.rl 0).length + (ρ.z.rl 1).length + 500) from ?_)
  exact ⟨trivial, by omega⟩
theorem vcoh1_0 : VC TToh invoh msoh 1 toh1 woh1_0 := by
  intro ρ kn hi hp
  have hF : ρ.z.F = own.Φ := kn.F
  simp only [h_nil, h_cons, d_le, d_eq, d_not, d_var, d_lit, d_cel, d_leq, d_fn, d_and, d_iff, IE.den, LE.den, AL.den, lenV, true_and, and_true, pcoh1_0, hF, pb1, pb2, pb3, pi1, pi2, pl2] at hp
  obtain ⟨p1, p2, p3, p4, p5, p6, p7, p8, p9⟩ := hp
  refine (show (True) ∧ (((ρ.z.rl 1).length - (0 : Int).toNat : Nat) < ((ρ.z.rl 0).length - (ρ.i .i64 1000).toNat) + (ρ.z.rl 1).length + 400) from ?_)
  exact ⟨trivial, by omega⟩
theorem vcoh1_1 : VC TToh invoh msoh 1 toh1 woh1_1 := by
  intro ρ kn hi hp
  have hF : ρ.z.F = own.Φ := kn.F
  simp only [h_nil, h_cons, d_le, d_eq, d_not, d_var, d_lit, d_cel, d_leq, d_fn, d_and, d_iff, IE.den, LE.den, AL.den, lenV, true_and, and_true, pcoh1_2, pcoh1_1, pcoh1_0, hF, pb1, pb2, pb3, pi1, pi2, pl2] at hp
  obtain ⟨p1, p2, p3, p4, p5, p6, p7, p8, p9, p10, p11⟩ := hp
  refine (show (True) ∧ ((((ρ.z.rl 0).length - ((ρ.i .i64 1000) + (1 : Int)).toNat) + (ρ.z.rl 1).length + 400 : Nat) < ((ρ.z.rl 0).length - (ρ.i .i64 1000).toNat) + (ρ.z.rl 1).length + 400) from ?_)
  exact ⟨trivial, by omega⟩
theorem vcoh1_2 : VC TToh invoh msoh 1 toh1 woh1_2 := by
  intro ρ kn hi hp
  have hF : ρ.z.F = own.Φ := kn.F
  simp only [h_nil, h_cons, d_le, d_eq, d_not, d_var, d_lit, d_cel, d_leq, d_fn, d_and, d_iff, IE.den, LE.den, AL.den, lenV, true_and, and_true, pcoh1_3, pcoh1_2, pcoh1_1, pcoh1_0, hF, pb1, pb2, pb3, pi1, pi2, pl2] at hp
  obtain ⟨p1, p2, p3, p4, p5, p6, p7, p8, p9, p10, p11, p12⟩ := hp
  refine (show (True) ∧ ((((ρ.z.rl 0).length - ((ρ.i .i64 1000) + (1 : Int)).toNat) + (ρ.z.rl 1).length + 400 : Nat) < ((ρ.z.rl 0).length - (ρ.i .i64 1000).toNat) + (ρ.z.rl 1).length + 400) from ?_)
  exact ⟨trivial, by omega⟩
theorem vcoh1_3 : VC TToh invoh msoh 1 toh1 woh1_3 := by
  intro ρ kn hi hp
  have hF : ρ.z.F = own.Φ := kn.F
  simp only [h_nil, h_cons, d_le, d_eq, d_not, d_var, d_lit, d_cel, d_leq, d_fn, d_and, d_iff, IE.den, LE.den, AL.den, lenV, true_and, and_true, pcoh1_3, pcoh1_2, pcoh1_1, pcoh1_0, hF, pb1, pb2, pb3, pi1, pi2, pl2] at hp
  obtain ⟨p1, p2, p3, p4, p5, p6, p7, p8, p9, p10, p11, p12⟩ := hp
  refine (show (WOk (([[Go.Value.int .i64 (0 : Int)]] : LV) ++ ([[Go.Value.int .i64 (clampK .i64 (intV (celV (ρ.z.rl 0) (ρ.i .i64 1000) 0)))]] : LV)) (ρ.i .i64 1) ∧ (([[Go.Value.int .i64 (0 : Int)]] : LV) ++ ([[Go.Value.int .i64 (clampK .i64 (intV (celV (ρ.z.rl 0) (ρ.i .i64 1000) 0)))]] : LV)).length ≤ ((ρ.i .i64 1000) + (1 : Int)).toNat + 1 ∧ 0 ≤ ((ρ.i .i64 1000) + (1 : Int))) ∧ ((((ρ.z.rl 0).length - ((ρ.i .i64 1000) + (1 : Int)).toNat) + (ρ.z.rl 1).length + 300 : Nat) < ((ρ.z.rl 0).length - (ρ.i .i64 1000).toNat) + (ρ.z.rl 1).length + 400) from ?_)
  refine ⟨⟨w_s (w_0 (by omega)) (by omega) (by omega) (by omega) (fun hh => p1 hh), by simp; omega, by omega⟩, by omega⟩
theorem vcoh1_4 : VC TToh invoh msoh 1 toh1 woh1_4 := by
  intro ρ kn hi hp
  have hF : ρ.z.F = own.Φ := kn.F
  simp only [h_nil, h_cons, d_le, d_eq, d_not, d_var, d_lit, d_cel, d_leq, d_fn, d_and, d_iff, IE.den, LE.den, AL.den, lenV, true_and, and_true, pcoh1_1, pcoh1_0, hF, pb1, pb2, pb3, pi1, pi2, pl2] at hp
  obtain ⟨p1, p2, p3, p4, p5, p6, p7, p8, p9, p10⟩ := hp
  refine (show (True) ∧ ((((ρ.z.rl 0).length - ((ρ.i .i64 1000) + (1 : Int)).toNat) + (ρ.z.rl 1).length + 400 : Nat) < ((ρ.z.rl 0).length - (ρ.i .i64 1000).toNat) + (ρ.z.rl 1).length + 400) from ?_)
  exact ⟨trivial, by omega⟩
def ivoh2 (ρ : Rho) : Prop := WOk (ρ.l 1002) (ρ.i .i64 1) ∧ (ρ.l 1002).length ≤ (ρ.i .i64 1001).toNat + 1 ∧ 0 ≤ (ρ.i .i64 1001)
theorem vcoh2_0 : VC TToh invoh msoh 2 toh2 woh2_0 := by
  intro ρ kn hi hp
  have hi : ivoh2 ρ := hi
  unfold ivoh2 at hi
  have hF : ρ.z.F = own.Φ := kn.F
  simp only [h_nil, h_cons, d_le, d_eq, d_not, d_var, d_lit, d_cel, d_leq, d_fn, d_and, d_iff, IE.den, LE.den, AL.den, lenV, true_and, and_true, pcoh2_0, hF, pb1, pb2, pb3, pi1, pi2, pl2] at hp
  obtain ⟨p1, p2, p3, p4, p5, p6, p7, p8, p9, p10, p11, p12⟩ := hp
  refine (show (WOk (ρ.l 1002) (ρ.i .i64 1) ∧ (ρ.l 1002).length ≤ 61 ∧ LOk (ρ.l 1002) (List.replicate (ρ.i .i64 1).toNat [Go.Value.int .i64 (0 : Int), Go.Value.int .i64 (0 : Int)]) (ρ.i .i64 1) (0 : Int).toNat ∧ (0 : Int).toNat + 1 ≤ (ρ.l 1002).length ∧ 0 ≤ (0 : Int)) ∧ (((61 - (0 : Int).toNat) + (ρ.z.rl 1).length + 100 : Nat) < ((ρ.z.rl 0).length - (ρ.i .i64 1001).toNat) + (ρ.z.rl 1).length + 300) from ?_)
  obtain ⟨h1, h2, h3⟩ := hi
  have := h1.pos
  exact ⟨⟨h1, by omega, l_0 h1 (by omega), by show 0 + 1 ≤ _; omega, Int.le_refl _⟩, by omega⟩
theorem vcoh2_1 : VC TToh invoh msoh 2 toh2 woh2_1 := by
  intro ρ kn hi hp
  have hi : ivoh2 ρ := hi
  unfold ivoh2 at hi
  have hF : ρ.z.F = own.Φ := kn.F
  simp only [h_nil, h_cons, d_le, d_eq, d_not, d_var, d_lit, d_cel, d_leq, d_fn, d_and, d_iff, IE.den, LE.den, AL.den, lenV, true_and, and_true, pcoh2_2, pcoh2_1, pcoh2_0, hF, pb1, pb2, pb3, pi1, pi2, pl2] at hp
  obtain ⟨p1, p2, p3, p4, p5, p6, p7, p8, p9, p10, p11, p12, p13, p14⟩ := hp
  refine (show (WOk (ρ.l 1002) (ρ.i .i64 1) ∧ (ρ.l 1002).length ≤ ((ρ.i .i64 1001) + (1 : Int)).toNat + 1 ∧ 0 ≤ ((ρ.i .i64 1001) + (1 : Int))) ∧ ((((ρ.z.rl 0).length - ((ρ.i .i64 1001) + (1 : Int)).toNat) + (ρ.z.rl 1).length + 300 : Nat) < ((ρ.z.rl 0).length - (ρ.i .i64 1001).toNat) + (ρ.z.rl 1).length + 300) from ?_)
  obtain ⟨h1, h2, h3⟩ := hi
  exact ⟨⟨h1, by omega, by omega⟩, by omega⟩
theorem vcoh2_2 : VC TToh invoh msoh 2 toh2 woh2_2 := by
  intro ρ kn hi hp
  have hi : ivoh2 ρ := hi
  unfold ivoh2 at hi
  have hF : ρ.z.F = own.Φ := kn.F
  simp only [h_nil, h_cons, d_le, d_eq, d_not, d_var, d_lit, d_cel, d_leq, d_fn, d_and, d_iff, IE.den, LE.den, AL.den, lenV, true_and, and_true, pcoh2_3, pcoh2_2, pcoh2_1, pcoh2_0, hF, pb1, pb2, pb3, pi1, pi2, pl2] at hp
  obtain ⟨p1, p2, p3, p4, p5, p6, p7, p8, p9, p10, p11, p12, p13, p14, p15⟩ := hp
  refine (show (WOk (ρ.l 1002) (ρ.i .i64 1) ∧ (ρ.l 1002).length ≤ ((ρ.i .i64 1001) + (1 : Int)).toNat + 1 ∧ 0 ≤ ((ρ.i .i64 1001) + (1 : Int))) ∧ ((((ρ.z.rl 0).length - ((ρ.i .i64 1001) + (1 : Int)).toNat) + (ρ.z.rl 1).length + 300 : Nat) < ((ρ.z.rl 0).length - (ρ.i .i64 1001).toNat) + (ρ.z.rl 1).length + 300) from ?_)
  obtain ⟨h1, h2, h3⟩ := hi
  exact ⟨⟨h1, by omega, by omega⟩, by omega⟩
theorem vcoh2_3 : VC TToh invoh msoh 2 toh2 woh2_3 := by
  intro ρ kn hi hp
  have hi : ivoh2 ρ := hi
  unfold ivoh2 at hi
  have hr4 : Typed [(CK.int .i64)] (ρ.l 1002) ∧ (ρ.i .i64 1003) = (((ρ.l 1002)).length : Int) := kn.rows 4 _ _ _ _ _ _ rfl
  have hF : ρ.z.F = own.Φ := kn.F
  simp only [h_nil, h_cons, d_le, d_eq, d_not, d_var, d_lit, d_cel, d_leq, d_fn, d_and, d_iff, IE.den, LE.den, AL.den, lenV, true_and, and_true, pcoh2_3, pcoh2_2, pcoh2_1, pcoh2_0, hF, pb1, pb2, pb3, pi1, pi2, pl2] at hp
  obtain ⟨p1, p2, p3, p4, p5, p6, p7, p8, p9, p10, p11, p12, p13, p14, p15⟩ := hp
  refine (show (WOk ((ρ.l 1002) ++ ([[Go.Value.int .i64 (clampK .i64 (intV (celV (ρ.z.rl 0) (ρ.i .i64 1001) 0)))]] : LV)) (ρ.i .i64 1) ∧ ((ρ.l 1002) ++ ([[Go.Value.int .i64 (clampK .i64 (intV (celV (ρ.z.rl 0) (ρ.i .i64 1001) 0)))]] : LV)).length ≤ ((ρ.i .i64 1001) + (1 : Int)).toNat + 1 ∧ 0 ≤ ((ρ.i .i64 1001) + (1 : Int))) ∧ ((((ρ.z.rl 0).length - ((ρ.i .i64 1001) + (1 : Int)).toNat) + (ρ.z.rl 1).length + 300 : Nat) < ((ρ.z.rl 0).length - (ρ.i .i64 1001).toNat) + (ρ.z.rl 1).length + 300) from ?_)
  obtain ⟨h1, h2, h3⟩ := hi
  have hr : Typed [(CK.int .i64)] (ρ.l 1002) ∧ (ρ.i .i64 1003) = ((ρ.l 1002).length : Int) := kn.rows 4 _ _ _ _ _ _ rfl
  have hp := h1.pos
  have e : (((ρ.l 1002).length - 1 : Nat) : Int) = ρ.i .i64 1003 - 1 := by omega
  have hd : ¬ clampK .i64 (intV (celV (ρ.z.rl 0) (ρ.i .i64 1001) 0)) = wI (ρ.l 1002) ((ρ.l 1002).length - 1) := by
    unfold wI Sx.atI
    rw [e]; exact p1
  exact ⟨⟨w_s h1 (by omega) (by omega) (by omega) hd, by rw [List.length_append]; simp; omega, by omega⟩, by omega⟩
theorem vcoh2_4 : VC TToh invoh msoh 2 toh2 woh2_4 := by
  intro ρ kn hi hp
  have hi : ivoh2 ρ := hi
  unfold ivoh2 at hi
  have hF : ρ.z.F = own.Φ := kn.F
  simp only [h_nil, h_cons, d_le, d_eq, d_not, d_var, d_lit, d_cel, d_leq, d_fn, d_and, d_iff, IE.den, LE.den, AL.den, lenV, true_and, and_true, pcoh2_1, pcoh2_0, hF, pb1, pb2, pb3, pi1, pi2, pl2] at hp
  obtain ⟨p1, p2, p3, p4, p5, p6, p7, p8, p9, p10, p11, p12, p13⟩ := hp
  refine (show (WOk (ρ.l 1002) (ρ.i .i64 1) ∧ (ρ.l 1002).length ≤ ((ρ.i .i64 1001) + (1 : Int)).toNat + 1 ∧ 0 ≤ ((ρ.i .i64 1001) + (1 : Int))) ∧ ((((ρ.z.rl 0).length - ((ρ.i .i64 1001) + (1 : Int)).toNat) + (ρ.z.rl 1).length + 300 : Nat) < ((ρ.z.rl 0).length - (ρ.i .i64 1001).toNat) + (ρ.z.rl 1).length + 300) from ?_)
  obtain ⟨h1, h2, h3⟩ := hi
  exact ⟨⟨h1, by omega, by omega⟩, by omega⟩
def ivoh3 (ρ : Rho) : Prop := WOk (ρ.l 1002) (ρ.i .i64 1) ∧ (ρ.l 1002).length ≤ 61 ∧ LOk (ρ.l 1002) (ρ.l 1006) (ρ.i .i64 1) (ρ.i .i64 1004).toNat ∧ (ρ.i .i64 1004).toNat + 1 ≤ (ρ.l 1002).length ∧ 0 ≤ (ρ.i .i64 1004)
theorem vcoh3_0 : VC TToh invoh msoh 3 toh3 woh3_0 := by
  intro ρ kn hi hp
  have hi : ivoh3 ρ := hi
  unfold ivoh3 at hi
  have hr4 : Typed [(CK.int .i64)] (ρ.l 1002) ∧ (ρ.i .i64 1003) = (((ρ.l 1002)).length : Int) := kn.rows 4 _ _ _ _ _ _ rfl
  have hr6 : Typed [(CK.int .i64), (CK.int .i64)] (ρ.l 1006) ∧ (ρ.i .i64 1) = (((ρ.l 1006)).length : Int) := kn.rows 6 _ _ _ _ _ _ rfl
  have hF : ρ.z.F = own.Φ := kn.F
  simp only [h_nil, h_cons, d_le, d_eq, d_not, d_var, d_lit, d_cel, d_leq, d_fn, d_and, d_iff, IE.den, LE.den, AL.den, lenV, true_and, and_true, pcoh3_0, hF, pb1, pb2, pb3, pi1, pi2, pl2] at hp
  obtain ⟨p1, p2, p3, p4, p5, p6, p7, p8, p9, p10, p11, p12, p13, p14⟩ := hp
  refine (show (WOk (ρ.l 1002) (ρ.i .i64 1) ∧ (ρ.l 1002).length ≤ 61 ∧ LOk (ρ.l 1002) (ρ.l 1006) (ρ.i .i64 1) ((ρ.l 1002).length - 1)) ∧ (((ρ.z.rl 1).length - (0 : Int).toNat : Nat) < (61 - (ρ.i .i64 1004).toNat) + (ρ.z.rl 1).length + 100) from ?_)
  obtain ⟨h1, h2, h3, h4, h5⟩ := hi
  have hr : Typed [(CK.int .i64)] (ρ.l 1002) ∧ (ρ.i .i64 1003) = ((ρ.l 1002).length : Int) := kn.rows 4 _ _ _ _ _ _ rfl
  rw [show (ρ.i .i64 1004).toNat = (ρ.l 1002).length - 1 by omega] at h3
  exact ⟨⟨h1, h2, h3⟩, by omega⟩
theorem vcoh3_1 : VC TToh invoh msoh 3 toh3 woh3_1 := by
  intro ρ kn hi hp
  have hi : ivoh3 ρ := hi
  unfold ivoh3 at hi
  have hr4 : Typed [(CK.int .i64)] (ρ.l 1002) ∧ (ρ.i .i64 1003) = (((ρ.l 1002)).length : Int) := kn.rows 4 _ _ _ _ _ _ rfl
  have hr6 : Typed [(CK.int .i64), (CK.int .i64)] (ρ.l 1006) ∧ (ρ.i .i64 1) = (((ρ.l 1006)).length : Int) := kn.rows 6 _ _ _ _ _ _ rfl
  have hF : ρ.z.F = own.Φ := kn.F
  simp only [h_nil, h_cons, d_le, d_eq, d_not, d_var, d_lit, d_cel, d_leq, d_fn, d_and, d_iff, IE.den, LE.den, AL.den, lenV, true_and, and_true, pcoh3_0, hF, pb1, pb2, pb3, pi1, pi2, pl2] at hp
  obtain ⟨p1, p2, p3, p4, p5, p6, p7, p8, p9, p10, p11, p12, p13, p14⟩ := hp
  refine (show (WOk (ρ.l 1002) (ρ.i .i64 1) ∧ (ρ.l 1002).length ≤ 61 ∧ LOk (ρ.l 1002) ((ρ.l 1006).set (clampK .i64 (intV (celV (ρ.l 1002) (ρ.i .i64 1004) 0))).toNat [Go.Value.int .i64 (clampK .i64 (intV (celV (ρ.l 1002) ((ρ.i .i64 1004) + (1 : Int)) 0))), Go.Value.int .i64 ((ρ.i .i64 1004) + (1 : Int))]) (ρ.i .i64 1) ((ρ.i .i64 1004) + (1 : Int)).toNat ∧ ((ρ.i .i64 1004) + (1 : Int)).toNat + 1 ≤ (ρ.l 1002).length ∧ 0 ≤ ((ρ.i .i64 1004) + (1 : Int))) ∧ (((61 - ((ρ.i .i64 1004) + (1 : Int)).toNat) + (ρ.z.rl 1).length + 100 : Nat) < (61 - (ρ.i .i64 1004).toNat) + (ρ.z.rl 1).length + 100) from ?_)
  obtain ⟨h1, h2, h3, h4, h5⟩ := hi
  have hr : Typed [(CK.int .i64)] (ρ.l 1002) ∧ (ρ.i .i64 1003) = ((ρ.l 1002).length : Int) := kn.rows 4 _ _ _ _ _ _ rfl
  have k := l_s h1 (by omega) h3 (by omega) (by omega)
  have e1 : clampK .i64 (intV (celV (ρ.l 1002) (ρ.i .i64 1004) 0)) = wI (ρ.l 1002) (ρ.i .i64 1004).toNat := at_z h5 0
  have e2 : clampK .i64 (intV (celV (ρ.l 1002) (ρ.i .i64 1004 + 1) 0)) = wI (ρ.l 1002) ((ρ.i .i64 1004).toNat + 1) := by
    rw [← show (ρ.i .i64 1004 + 1).toNat = (ρ.i .i64 1004).toNat + 1 by omega]; exact at_z (by omega) 0
  rw [e1, e2, show (ρ.i .i64 1004 + 1).toNat = (ρ.i .i64 1004).toNat + 1 by omega]
  rw [show (((ρ.i .i64 1004).toNat : Nat) : Int) + 1 = ρ.i .i64 1004 + 1 by omega] at k
  exact ⟨⟨h1, h2, k, by omega, by omega⟩, by omega⟩
theorem vcgoh4_0 : VC TToh invoh msoh 4 toh4 woh4_0 ∧ VC TToh invoh msoh 4 toh4 woh4_4 ∧ VC TToh invoh msoh 4 toh4 woh4_5 ∧ VC TToh invoh msoh 4 toh4 woh4_6 ∧ VC TToh invoh msoh 4 toh4 woh4_7 ∧ VC TToh invoh msoh 4 toh4 woh4_8 ∧ VC TToh invoh msoh 4 toh4 woh4_9 ∧ VC TToh invoh msoh 4 toh4 woh4_13 ∧ VC TToh invoh msoh 4 toh4 woh4_14 ∧ VC TToh invoh msoh 4 toh4 woh4_15 ∧ VC TToh invoh msoh 4 toh4 woh4_16 ∧ VC TToh invoh msoh 4 toh4 woh4_17 := by
  refine ⟨?_, ?_, ?_, ?_, ?_, ?_, ?_, ?_, ?_, ?_, ?_, ?_⟩
  all_goals
    intro ρ kn hi hp
    have hF : ρ.z.F = own.Φ := kn.F
    simp only [h_nil, h_cons, d_le, d_eq, d_not, d_var, d_lit, d_cel, d_leq, d_fn, d_and, d_iff, IE.den, LE.den, AL.den, lenV, true_and, and_true, pcoh4_11, pcoh4_9, pcoh4_6, pcoh4_3, pcoh4_1, pcoh4_0, pcoh4_17, pcoh4_15, pcoh4_13, pcoh4_14, pcoh4_12, pcoh4_10, pcoh4_7, pcoh4_4, pcoh4_2, pcoh4_19, pcoh4_18, pcoh4_16, hF, pb1, pb2, pb3, pi1, pi2, pl2] at hp
    have p1 := And.left hp
    replace hp := And.right hp
    repeat (have _ := And.left hp; replace hp := And.right hp)
    exfalso
    have hw := w_0 (nd := ρ.i .i64 1) (by omega)
    have hl := l_0 (m := (ρ.i .i64 1).toNat) hw (by omega)
    obtain ⟨⟨a1, a2⟩, a3⟩ := ends_ok (o := ρ.i .i64 2) hw (by omega) (by omega) hl rfl (by simp) (by omega) (by omega)
    have hg := l_guess hw (by omega) (by omega) hl (by simp)
    obtain ⟨k, k1, k2, k3, k4, k5⟩ := hl.node (stP (List.replicate (ρ.i .i64 1).toNat [Value.int .i64 0, Value.int .i64 0]) (ρ.i .i64 2) 0 (endP (List.replicate (ρ.i .i64 1).toNat [Value.int .i64 0, Value.int .i64 0]) (ρ.i .i64 2) 0)).1.toNat (by omega)
    obtain rfl : k = 0 := by omega
    rw [hw.zero, Int.toNat_of_nonneg a1] at k3
    have b3 : (stP (List.replicate (ρ.i .i64 1).toNat [Value.int .i64 0, Value.int .i64 0]) (ρ.i .i64 2) 0 (endP (List.replicate (ρ.i .i64 1).toNat [Value.int .i64 0, Value.int .i64 0]) (ρ.i .i64 2) 0)).1 = 0 ∨ ρ.i .i64 2 = 0 ∨ (stP (List.replicate (ρ.i .i64 1).toNat [Value.int .i64 0, Value.int .i64 0]) (ρ.i .i64 2) 0 (endP (List.replicate (ρ.i .i64 1).toNat [Value.int .i64 0, Value.int .i64 0]) (ρ.i .i64 2) 0)).1 = ρ.i .i64 2 := by
      rcases a3 with q | q | q
      · exact .inl (q.trans hw.zero)
      · exact .inr (.inl (by rw [← q]; exact k3))
      · exact .inr (.inr q)
    have c := clampS (x := (stP (List.replicate (ρ.i .i64 1).toNat [Value.int .i64 0, Value.int .i64 0]) (ρ.i .i64 2) 0 (endP (List.replicate (ρ.i .i64 1).toNat [Value.int .i64 0, Value.int .i64 0]) (ρ.i .i64 2) 0)).1) (by omega) (by omega)
    clear a3 k3
    first
      | exact p1 (by decide)
      | exact p1 hg
      | (simp only [List.map_cons, List.map_nil, AV.cell] at *; first | exact p1 hg | (rw [c] at *; omega) | (simp only [c] at *; omega))
      | (rw [c] at *; omega)
      | (simp only [c] at *; omega)
theorem vcoh4_18 : VC TToh invoh msoh 4 toh4 woh4_18 := by
  intro ρ kn hi hp
  have hF : ρ.z.F = own.Φ := kn.F
  simp only [h_nil, h_cons, d_le, d_eq, d_not, d_var, d_lit, d_cel, d_leq, d_fn, d_and, d_iff, IE.den, LE.den, AL.den, lenV, true_and, and_true, pcoh4_8, pcoh4_5, pcoh4_2, pcoh4_0, hF, pb1, pb2, pb3, pi1, pi2, pl2] at hp
  obtain ⟨p1, p2, p3, p4, p5, p6, p7, p8, p9, p10, p11, p12⟩ := hp
  refine (show (True) ∧ (((ρ.z.rl 1).length - ((ρ.i .i64 1000) + (1 : Int)).toNat : Nat) < (ρ.z.rl 1).length - (ρ.i .i64 1000).toNat) from ?_)
  exact ⟨trivial, by omega⟩
theorem vcoh4_19 : VC TToh invoh msoh 4 toh4 woh4_19 := by
  intro ρ kn hi hp
  have hF : ρ.z.F = own.Φ := kn.F
  simp only [h_nil, h_cons, d_le, d_eq, d_not, d_var, d_lit, d_cel, d_leq, d_fn, d_and, d_iff, IE.den, LE.den, AL.den, lenV, true_and, and_true, pcoh4_8, pcoh4_5, pcoh4_2, pcoh4_0, hF, pb1, pb2, pb3, pi1, pi2, pl2] at hp
  obtain ⟨p1, p2, p3, p4, p5, p6, p7, p8, p9, p10, p11, p12⟩ := hp
  refine (show (True) ∧ (((ρ.z.rl 1).length - ((ρ.i .i64 1000) + (1 : Int)).toNat : Nat) < (ρ.z.rl 1).length - (ρ.i .i64 1000).toNat) from ?_)
  exact ⟨trivial, by omega⟩
theorem vcoh4_20 : VC TToh invoh msoh 4 toh4 woh4_20 := by
  intro ρ kn hi hp
  have hF : ρ.z.F = own.Φ := kn.F
  simp only [h_nil, h_cons, d_le, d_eq, d_not, d_var, d_lit, d_cel, d_leq, d_fn, d_and, d_iff, IE.den, LE.den, AL.den, lenV, true_and, and_true, pcoh4_5, pcoh4_2, pcoh4_0, hF, pb1, pb2, pb3, pi1, pi2, pl2] at hp
  obtain ⟨p1, p2, p3, p4, p5, p6, p7, p8, p9, p10, p11⟩ := hp
  refine (show (True) ∧ (((ρ.z.rl 1).length - ((ρ.i .i64 1000) + (1 : Int)).toNat : Nat) < (ρ.z.rl 1).length - (ρ.i .i64 1000).toNat) from ?_)
  exact ⟨trivial, by omega⟩
def ivoh5 (ρ : Rho) : Prop := WOk (ρ.l 1002) (ρ.i .i64 1) ∧ (ρ.l 1002).length ≤ 61 ∧ LOk (ρ.l 1002) (ρ.l 1006) (ρ.i .i64 1) ((ρ.l 1002).length - 1)
theorem vcgoh5_0 : VC TToh invoh msoh 5 toh5 woh5_0 ∧ VC TToh invoh msoh 5 toh5 woh5_4 ∧ VC TToh invoh msoh 5 toh5 woh5_5 ∧ VC TToh invoh msoh 5 toh5 woh5_6 ∧ VC TToh invoh msoh 5 toh5 woh5_7 ∧ VC TToh invoh msoh 5 toh5 woh5_8 ∧ VC TToh invoh msoh 5 toh5 woh5_9 ∧ VC TToh invoh msoh 5 toh5 woh5_10 ∧ VC TToh invoh msoh 5 toh5 woh5_14 ∧ VC TToh invoh msoh 5 toh5 woh5_15 ∧ VC TToh invoh msoh 5 toh5 woh5_16 ∧ VC TToh invoh msoh 5 toh5 woh5_17 ∧ VC TToh invoh msoh 5 toh5 woh5_18 ∧ VC TToh invoh msoh 5 toh5 woh5_19 := by
  refine ⟨?_, ?_, ?_, ?_, ?_, ?_, ?_, ?_, ?_, ?_, ?_, ?_, ?_, ?_⟩
  all_goals
    intro ρ kn hi hp
    have hi : ivoh5 ρ := hi
    unfold ivoh5 at hi
    have hr4 : Typed [(CK.int .i64)] (ρ.l 1002) ∧ (ρ.i .i64 1003) = (((ρ.l 1002)).length : Int) := kn.rows 4 _ _ _ _ _ _ rfl
    have hr6 : Typed [(CK.int .i64), (CK.int .i64)] (ρ.l 1006) ∧ (ρ.i .i64 1) = (((ρ.l 1006)).length : Int) := kn.rows 6 _ _ _ _ _ _ rfl
    have hF : ρ.z.F = own.Φ := kn.F
    simp only [h_nil, h_cons, d_le, d_eq, d_not, d_var, d_lit, d_cel, d_leq, d_fn, d_and, d_iff, IE.den, LE.den, AL.den, lenV, true_and, and_true, pcoh5_14, pcoh5_12, pcoh5_9, pcoh5_6, pcoh5_3, pcoh5_1, pcoh5_0, pcoh5_20, pcoh5_18, pcoh5_16, pcoh5_17, pcoh5_15, pcoh5_13, pcoh5_10, pcoh5_7, pcoh5_4, pcoh5_2, pcoh5_22, pcoh5_21, pcoh5_19, hF, pb1, pb2, pb3, pi1, pi2, pl2] at hp
    have p1 := And.left hp
    replace hp := And.right hp
    repeat (have _ := And.left hp; replace hp := And.right hp)
    exfalso
    obtain ⟨h1, h2, h3⟩ := hi
    have hr : Typed [(CK.int .i64)] (ρ.l 1002) ∧ (ρ.i .i64 1003) = ((ρ.l 1002).length : Int) := kn.rows 4 _ _ _ _ _ _ rfl
    have hp := h1.pos
    have hlen := h3.len
    obtain ⟨⟨a1, a2⟩, a3⟩ := ends_ok (o := ρ.i .i64 2) h1 (by omega) (by omega) h3 (by omega) (by omega) (by omega) (by omega)
    have hg := l_guess h1 (by omega) (by omega) h3 (by omega)
    have c := clampS (x := (stP (ρ.l 1006) (ρ.i .i64 2) 0 (endP (ρ.l 1006) (ρ.i .i64 2) 0)).1) (by omega) (by omega)
    have e : (((ρ.l 1002).length - 1 : Nat) : Int) = ρ.i .i64 1003 - 1 := by omega
    have a4 : wI (ρ.l 1002) ((ρ.l 1002).length - 1) = clampK .i64 (intV (celV (ρ.l 1002) (ρ.i .i64 1003 - 1) 0)) := by
      unfold wI Sx.atI
      rw [e]
    rw [a4, ndI] at a3
    first
      | exact p1 (by decide)
      | exact p1 hg
      | omega
      | (simp only [c] at *; omega)
theorem vcoh5_20 : VC TToh invoh msoh 5 toh5 woh5_20 := by
  intro ρ kn hi hp
  have hi : ivoh5 ρ := hi
  unfold ivoh5 at hi
  have hF : ρ.z.F = own.Φ := kn.F
  simp only [h_nil, h_cons, d_le, d_eq, d_not, d_var, d_lit, d_cel, d_leq, d_fn, d_and, d_iff, IE.den, LE.den, AL.den, lenV, true_and, and_true, pcoh5_8, pcoh5_5, pcoh5_2, pcoh5_0, hF, pb1, pb2, pb3, pi1, pi2, pl2] at hp
  obtain ⟨p1, p2, p3, p4, p5, p6, p7, p8, p9, p10, p11, p12, p13, p14, p15⟩ := hp
  refine (show (WOk (ρ.l 1002) (ρ.i .i64 1) ∧ (ρ.l 1002).length ≤ 61 ∧ LOk (ρ.l 1002) (ρ.l 1006) (ρ.i .i64 1) ((ρ.l 1002).length - 1)) ∧ (((ρ.z.rl 1).length - ((ρ.i .i64 1007) + (1 : Int)).toNat : Nat) < (ρ.z.rl 1).length - (ρ.i .i64 1007).toNat) from ?_)
  obtain ⟨h1, h2, h3⟩ := hi
  exact ⟨⟨h1, h2, h3⟩, by omega⟩
theorem vcoh5_21 : VC TToh invoh msoh 5 toh5 woh5_21 := by
  intro ρ kn hi hp
  have hi : ivoh5 ρ := hi
  unfold ivoh5 at hi
  have hF : ρ.z.F = own.Φ := kn.F
  simp only [h_nil, h_cons, d_le, d_eq, d_not, d_var, d_lit, d_cel, d_leq, d_fn, d_and, d_iff, IE.den, LE.den, AL.den, lenV, true_and, and_true, pcoh5_11, pcoh5_8, pcoh5_5, pcoh5_2, pcoh5_0, hF, pb1, pb2, pb3, pi1, pi2, pl2] at hp
  obtain ⟨p1, p2, p3, p4, p5, p6, p7, p8, p9, p10, p11, p12, p13, p14, p15, p16⟩ := hp
  refine (show (WOk (ρ.l 1002) (ρ.i .i64 1) ∧ (ρ.l 1002).length ≤ 61 ∧ LOk (ρ.l 1002) (ρ.l 1006) (ρ.i .i64 1) ((ρ.l 1002).length - 1)) ∧ (((ρ.z.rl 1).length - ((ρ.i .i64 1007) + (1 : Int)).toNat : Nat) < (ρ.z.rl 1).length - (ρ.i .i64 1007).toNat) from ?_)
  obtain ⟨h1, h2, h3⟩ := hi
  exact ⟨⟨h1, h2, h3⟩, by omega⟩
theorem vcoh5_22 : VC TToh invoh msoh 5 toh5 woh5_22 := by
  intro ρ kn hi hp
  have hi : ivoh5 ρ := hi
  unfold ivoh5 at hi
  have hr4 : Typed [(CK.int .i64)] (ρ.l 1002) ∧ (ρ.i .i64 1003) = (((ρ.l 1002)).length : Int) := kn.rows 4 _ _ _ _ _ _ rfl
  have hr6 : Typed [(CK.int .i64), (CK.int .i64)] (ρ.l 1006) ∧ (ρ.i .i64 1) = (((ρ.l 1006)).length : Int) := kn.rows 6 _ _ _ _ _ _ rfl
  have hF : ρ.z.F = own.Φ := kn.F
  simp only [h_nil, h_cons, d_le, d_eq, d_not, d_var, d_lit, d_cel, d_leq, d_fn, d_and, d_iff, IE.den, LE.den, AL.den, lenV, true_and, and_true, pcoh5_11, pcoh5_8, pcoh5_5, pcoh5_2, pcoh5_0, hF, pb1, pb2, pb3, pi1, pi2, pl2] at hp
  obtain ⟨p1, p2, p3, p4, p5, p6, p7, p8, p9, p10, p11, p12, p13, p14, p15, p16⟩ := hp
  refine (show (WOk (ρ.l 1002) (ρ.i .i64 1) ∧ (ρ.l 1002).length ≤ 61 ∧ LOk (ρ.l 1002) ((ρ.l 1006).set (ρ.i .i64 1007).toNat [Go.Value.int .i64 (clampK .i64 (intV (celV (ρ.l 1002) (clampK .i64 (intV (celV (ρ.z.rl 1) (ρ.i .i64 1007) 0))) 0))), Go.Value.int .i64 (clampK .i64 (intV (celV (ρ.z.rl 1) (ρ.i .i64 1007) 0)))]) (ρ.i .i64 1) ((ρ.l 1002).length - 1)) ∧ (((ρ.z.rl 1).length - ((ρ.i .i64 1007) + (1 : Int)).toNat : Nat) < (ρ.z.rl 1).length - (ρ.i .i64 1007).toNat) from ?_)
  obtain ⟨h1, h2, h3⟩ := hi
  have hr : Typed [(CK.int .i64)] (ρ.l 1002) ∧ (ρ.i .i64 1003) = ((ρ.l 1002).length : Int) := kn.rows 4 _ _ _ _ _ _ rfl
  have hp := h1.pos
  have e : (((clampK .i64 (intV (celV (ρ.z.rl 1) (ρ.i .i64 1007) 0))).toNat : Nat) : Int) = clampK .i64 (intV (celV (ρ.z.rl 1) (ρ.i .i64 1007) 0)) := by omega
  have em : (((ρ.i .i64 1007).toNat : Nat) : Int) = ρ.i .i64 1007 := by omega
  have k := l_t (m := (ρ.i .i64 1007).toNat) (k := (clampK .i64 (intV (celV (ρ.z.rl 1) (ρ.i .i64 1007) 0))).toNat) h1 (by omega) h3 (by omega) (by omega) (by omega) (by omega) (by rw [em, e, hpI]; omega)
  rw [e] at k
  have e2 : clampK .i64 (intV (celV (ρ.l 1002) (clampK .i64 (intV (celV (ρ.z.rl 1) (ρ.i .i64 1007) 0))) 0)) = wI (ρ.l 1002) (clampK .i64 (intV (celV (ρ.z.rl 1) (ρ.i .i64 1007) 0))).toNat := at_z (by omega) 0
  rw [e2]
  exact ⟨⟨h1, h2, k⟩, by omega⟩
theorem vcoh5_23 : VC TToh invoh msoh 5 toh5 woh5_23 := by
  intro ρ kn hi hp
  have hi : ivoh5 ρ := hi
  unfold ivoh5 at hi
  have hF : ρ.z.F = own.Φ := kn.F
  simp only [h_nil, h_cons, d_le, d_eq, d_not, d_var, d_lit, d_cel, d_leq, d_fn, d_and, d_iff, IE.den, LE.den, AL.den, lenV, true_and, and_true, pcoh5_5, pcoh5_2, pcoh5_0, hF, pb1, pb2, pb3, pi1, pi2, pl2] at hp
  obtain ⟨p1, p2, p3, p4, p5, p6, p7, p8, p9, p10, p11, p12, p13, p14⟩ := hp
  refine (show (WOk (ρ.l 1002) (ρ.i .i64 1) ∧ (ρ.l 1002).length ≤ 61 ∧ LOk (ρ.l 1002) (ρ.l 1006) (ρ.i .i64 1) ((ρ.l 1002).length - 1)) ∧ (((ρ.z.rl 1).length - ((ρ.i .i64 1007) + (1 : Int)).toNat : Nat) < (ρ.z.rl 1).length - (ρ.i .i64 1007).toNat) from ?_)
  obtain ⟨h1, h2, h3⟩ := hi
  exact ⟨⟨h1, h2, h3⟩, by omega⟩
theorem vcsoh0 : ∀ v ∈ vwoh 0, VC TToh invoh msoh 0 (startF 8 cOH.pat (.lit true :: cOH.pre)) v := all_cons (fun _ _ _ _ => all_nil) (all_cons vcoh0_1 (all_cons (fun _ _ _ _ => all_nil) (all_cons (fun _ _ _ _ => all_nil) (all_cons (fun _ _ _ _ => all_nil) (all_cons (fun _ _ _ _ => all_nil) (all_cons (fun _ _ _ _ => all_nil) (all_nil)))))))
theorem okoh0 : cfgOk (startF 8 cOH.pat (.lit true :: cOH.pre)) = true := by kernel_rfl
theorem sgoh0 : segL cOH.roms cOH (seg TToh seloh 4000 tmoh (startF 8 cOH.pat (.lit true :: cOH.pre))) = (true, codesR tmoh (views (seg TToh seloh 4000 tmoh (startF 8 cOH.pat (.lit true :: cOH.pre)))), vwoh 0) := by kernel_rfl
theorem vcsoh1 : ∀ v ∈ vwoh 1, VC TToh invoh msoh 1 toh1 v := all_cons vcoh1_0 (all_cons vcoh1_1 (all_cons vcoh1_2 (all_cons vcoh1_3 (all_cons vcoh1_4 (all_nil)))))
theorem okoh1 : cfgOk toh1 = true := by kernel_rfl
theorem sgoh1 : segL cOH.roms cOH (seg TToh seloh 4000 tmoh toh1) = (true, codesR tmoh (views (seg TToh seloh 4000 tmoh toh1)), vwoh 1) := by kernel_rfl
theorem vcsoh2 : ∀ v ∈ vwoh 2, VC TToh invoh msoh 2 toh2 v := all_cons vcoh2_0 (all_cons vcoh2_1 (all_cons vcoh2_2 (all_cons vcoh2_3 (all_cons vcoh2_4 (all_nil)))))
theorem okoh2 : cfgOk toh2 = true := by kernel_rfl
theorem sgoh2 : segL cOH.roms cOH (seg TToh seloh 4000 tmoh toh2) = (true, codesR tmoh (views (seg TToh seloh 4000 tmoh toh2)), vwoh 2) := by kernel_rfl
theorem vcsoh3 : ∀ v ∈ vwoh 3, VC TToh invoh msoh 3 toh3 v := all_cons vcoh3_0 (all_cons vcoh3_1 (all_nil))
theorem okoh3 : cfgOk toh3 = true := by kernel_rfl
theorem sgoh3 : segL cOH.roms cOH (seg TToh seloh 4000 tmoh toh3) = (true, codesR tmoh (views (seg TToh seloh 4000 tmoh toh3)), vwoh 3) := by kernel_rfl
theorem vcsoh4 : ∀ v ∈ vwoh 4, VC TToh invoh msoh 4 toh4 v := all_cons vcgoh4_0.1 (all_cons (fun _ _ _ _ => all_nil) (all_cons (fun _ _ _ _ => all_nil) (all_cons (fun _ _ _ _ => all_nil) (all_cons vcgoh4_0.2.1 (all_cons vcgoh4_0.2.2.1 (all_cons vcgoh4_0.2.2.2.1 (all_cons vcgoh4_0.2.2.2.2.1 (all_cons vcgoh4_0.2.2.2.2.2.1 (all_cons vcgoh4_0.2.2.2.2.2.2.1 (all_cons (fun _ _ _ _ => all_nil) (all_cons (fun _ _ _ _ => all_nil) (all_cons (fun _ _ _ _ => all_nil) (all_cons vcgoh4_0.2.2.2.2.2.2.2.1 (all_cons vcgoh4_0.2.2.2.2.2.2.2.2.1 (all_cons vcgoh4_0.2.2.2.2.2.2.2.2.2.1 (all_cons vcgoh4_0.2.2.2.2.2.2.2.2.2.2.1 (all_cons vcgoh4_0.2.2.2.2.2.2.2.2.2.2.2 (all_cons vcoh4_18 (all_cons vcoh4_19 (all_cons vcoh4_20 (all_nil)))))))))))))))))))))
theorem okoh4 : cfgOk toh4 = true := by kernel_rfl
theorem sgoh4 : segL cOH.roms cOH (seg TToh seloh 4000 tmoh toh4) = (true, codesR tmoh (views (seg TToh seloh 4000 tmoh toh4)), vwoh 4) := by kernel_rfl
theorem vcsoh5 : ∀ v ∈ vwoh 5, VC TToh invoh msoh 5 toh5 v := all_cons vcgoh5_0.1 (all_cons (fun _ _ _ _ => all_nil) (all_cons (fun _ _ _ _ => all_nil) (all_cons (fun _ _ _ _ => all_nil) (all_cons vcgoh5_0.2.1 (all_cons vcgoh5_0.2.2.1 (all_cons vcgoh5_0.2.2.2.1 (all_cons vcgoh5_0.2.2.2.2.1 (all_cons vcgoh5_0.2.2.2.2.2.1 (all_cons vcgoh5_0.2.2.2.2.2.2.1 (all_cons vcgoh5_0.2.2.2.2.2.2.2.1 (all_cons (fun _ _ _ _ => all_nil) (all_cons (fun _ _ _ _ => all_nil) (all_cons (fun _ _ _ _ => all_nil) (all_cons vcgoh5_0.2.2.2.2.2.2.2.2.1 (all_cons vcgoh5_0.2.2.2.2.2.2.2.2.2.1 (all_cons vcgoh5_0.2.2.2.2.2.2.2.2.2.2.1 (all_cons vcgoh5_0.2.2.2.2.2.2.2.2.2.2.2.1 (all_cons vcgoh5_0.2.2.2.2.2.2.2.2.2.2.2.2.1 (all_cons vcgoh5_0.2.2.2.2.2.2.2.2.2.2.2.2.2 (all_cons vcoh5_20 (all_cons vcoh5_21 (all_cons vcoh5_22 (all_cons vcoh5_23 (all_nil))))))))))))))))))))))))
theorem okoh5 : cfgOk toh5 = true := by kernel_rfl
theorem sgoh5 : segL cOH.roms cOH (seg TToh seloh 4000 tmoh toh5) = (true, codesR tmoh (views (seg TToh seloh 4000 tmoh toh5)), vwoh 5) := by kernel_rfl
theorem lnoh0 : ∀ ρ, Known TToh (startF 8 cOH.pat (.lit true :: cOH.pre)) ρ → invoh 0 ρ.lt → Holds ρ (leanOf (Cfg.pc (startF 8 cOH.pat (.lit true :: cOH.pre)))) := by
  intro ρ _ _
  exact (show Holds ρ [] from fun p hp => by cases hp)
theorem lnoh1 : ∀ ρ, Known TToh toh1 ρ → invoh 1 ρ.lt → Holds ρ (leanOf (Cfg.pc toh1)) := by
  intro ρ _ _
  exact (show Holds ρ [] from fun p hp => by cases hp)
theorem lnoh2 : ∀ ρ, Known TToh toh2 ρ → invoh 2 ρ.lt → Holds ρ (leanOf (Cfg.pc toh2)) := by
  intro ρ kn hi
  refine (show Holds ρ [.le (.lit 1) (.var .i64 1003), .le (.var .i64 1003) (.add (.var .i64 1001) (.lit 1))] from ?_)
  have hi : WOk (ρ.l 1002) (ρ.i .i64 1) ∧ (ρ.l 1002).length ≤ (ρ.i .i64 1001).toNat + 1 ∧ 0 ≤ (ρ.i .i64 1001) := hi
  have hF : ρ.z.F = own.Φ := kn.F
  simp only [h_nil, h_cons, d_le, d_eq, d_not, d_var, d_lit, d_cel, d_leq, d_fn, d_and, d_iff, IE.den, LE.den, AL.den, lenV, true_and, and_true, hF, pb1, pb2, pb3, pi1, pi2, pl2]
  obtain ⟨h1, h2, h3⟩ := hi
  have hr : Typed [(CK.int .i64)] (ρ.l 1002) ∧ (ρ.i .i64 1003) = ((ρ.l 1002).length : Int) := kn.rows 4 _ _ _ _ _ _ rfl
  have := h1.pos
  omega
theorem lnoh3 : ∀ ρ, Known TToh toh3 ρ → invoh 3 ρ.lt → Holds ρ (leanOf (Cfg.pc toh3)) := by
  intro ρ kn hi
  refine (show Holds ρ [.le (.lit 0) (.cel .i64 (.var 1002) (.var .i64 1004) 0), .not (.le (.var .i64 1) (.cel .i64 (.var 1002) (.var .i64 1004) 0)), .le (.var .i64 1003) (.lit 61), .not (.le (.var .i64 1003) (.var .i64 1004))] from ?_)
  have hi : WOk (ρ.l 1002) (ρ.i .i64 1) ∧ (ρ.l 1002).length ≤ 61 ∧ LOk (ρ.l 1002) (ρ.l 1006) (ρ.i .i64 1) (ρ.i .i64 1004).toNat ∧ (ρ.i .i64 1004).toNat + 1 ≤ (ρ.l 1002).length ∧ 0 ≤ (ρ.i .i64 1004) := hi
  have hF : ρ.z.F = own.Φ := kn.F
  simp only [h_nil, h_cons, d_le, d_eq, d_not, d_var, d_lit, d_cel, d_leq, d_fn, d_and, d_iff, IE.den, LE.den, AL.den, lenV, true_and, and_true, hF, pb1, pb2, pb3, pi1, pi2, pl2]
  obtain ⟨h1, h2, h3, h4, h5⟩ := hi
  have hr : Typed [(CK.int .i64)] (ρ.l 1002) ∧ (ρ.i .i64 1003) = ((ρ.l 1002).length : Int) := kn.rows 4 _ _ _ _ _ _ rfl
  have r := h1.rng (ρ.i .i64 1004).toNat (by omega)
  have e : clampK .i64 (intV (celV (ρ.l 1002) (ρ.i .i64 1004) 0)) = wI (ρ.l 1002) (ρ.i .i64 1004).toNat := at_z h5 0
  rw [e]
  omega
theorem lnoh4 : ∀ ρ, Known TToh toh4 ρ → invoh 4 ρ.lt → Holds ρ (leanOf (Cfg.pc toh4)) := by
  intro ρ _ _
  exact (show Holds ρ [] from fun p hp => by cases hp)
theorem lnoh5 : ∀ ρ, Known TToh toh5 ρ → invoh 5 ρ.lt → Holds ρ (leanOf (Cfg.pc toh5)) := by
  intro ρ _ _
  exact (show Holds ρ [] from fun p hp => by cases hp)
theorem told_oh : Sx.Told own.Φ cOH := by
  refine told_of (cs := [cWorks, cEnds, cSeeks]) (all_cons told_works (all_cons told_ends (all_cons told_seeks (all_nil)))) (sel := seloh) 4000 tmoh invoh msoh vwoh 0 (pc0 := (.lit true :: cOH.pre)) (by kernel_rfl) (by kernel_rfl) (by kernel_rfl) (post_nil rfl) ?_ ?_ ?_ rfl (fun ρ _ h => h.cons (p := .lit true) (by simp only [BE.den])) (fun _ _ _ _ => trivial) ?_
  · intro k C h
    have := lk_mem h
    simp only [tmoh, List.mem_cons, Prod.mk.injEq, List.not_mem_nil, or_false] at this
    rcases this with ⟨rfl, rfl⟩ | ⟨rfl, rfl⟩ | ⟨rfl, rfl⟩ | ⟨rfl, rfl⟩ | ⟨rfl, rfl⟩ | ⟨rfl, rfl⟩
    · exact okoh0
    · exact okoh1
    · exact okoh2
    · exact okoh3
    · exact okoh4
    · exact okoh5
  · intro k C h
    have := lk_mem h
    simp only [tmoh, List.mem_cons, Prod.mk.injEq, List.not_mem_nil, or_false] at this
    rcases this with ⟨rfl, rfl⟩ | ⟨rfl, rfl⟩ | ⟨rfl, rfl⟩ | ⟨rfl, rfl⟩ | ⟨rfl, rfl⟩ | ⟨rfl, rfl⟩
    · exact sgoh0
    · exact sgoh1
    · exact sgoh2
    · exact sgoh3
    · exact sgoh4
    · exact sgoh5
  · intro k C h
    have := lk_mem h
    simp only [tmoh, List.mem_cons, Prod.mk.injEq, List.not_mem_nil, or_false] at this
    rcases this with ⟨rfl, rfl⟩ | ⟨rfl, rfl⟩ | ⟨rfl, rfl⟩ | ⟨rfl, rfl⟩ | ⟨rfl, rfl⟩ | ⟨rfl, rfl⟩
    · exact vcsoh0
    · exact vcsoh1
    · exact vcsoh2
    · exact vcsoh3
    · exact vcsoh4
    · exact vcsoh5
  · intro k C h
    have := lk_mem h
    simp only [tmoh, List.mem_cons, Prod.mk.injEq, List.not_mem_nil, or_false] at this
    rcases this with ⟨rfl, rfl⟩ | ⟨rfl, rfl⟩ | ⟨rfl, rfl⟩ | ⟨rfl, rfl⟩ | ⟨rfl, rfl⟩ | ⟨rfl, rfl⟩
    · exact lnoh0
    · exact lnoh1
    · exact lnoh2
    · exact lnoh3
    · exact lnoh4
    · exact lnoh5
end Go.Proofs.Ytepodgakaajcmaa.own
