/- Layer hold: the law HoldHolds. No condition. -/
import Derived.Test.YteblnjgghbclpaaDoorYc
import Derived.Test.YteblnjgghbclpaaDoorYu
import Derived.Test.YteblnjgghbclpaaDoorHw
import Derived.Test.YteblnjgghbclpaaDoorHj
set_option linter.unusedVariables false
set_option linter.unusedSimpArgs false
set_option linter.deprecated false
namespace Go.Proofs.YteblnjgghbclpaaDoor.hold
open Go Go.Proofs.YteblnjgghbclpaaDoor.Sx
noncomputable section
abbrev TTholds : Tab := T hold.Φ cHolds.roms [cWorks, cAddG, cAddN, cEndF, cEnd1, cRightP, cRightR, cAt, cRF0, cRFin, cRFout, cFits, cRFits, cSame, cMayM, cRightM, cWrites, cFits03]
def tholds1 : Cfg := { top := ⟨13, over (opqS 10000 116) [(0, (SV.rom 0 (IE.lit 0) (IE.len (LE.rom 0)) none)), (3, (SV.const (Go.Value.slice none 0 0))), (4, (SV.int .i64 (IE.var .i64 1000)))], ogt (loopTodo (bodyOf (T hold.Φ [] []) 13) 0), [], false, none⟩, rest := [], heap := [], next := 1, pc := .lit true :: ([.le (.lit 0) (.var .i64 1000), .le (.var .i64 1000) (ln 0)] ++ [(BE.le (IE.lit 1) (IE.len (LE.rom 0))), (BE.fn 4 (AL.lst LE.nil AL.nil)), (BE.le (IE.len (LE.rom 0)) (IE.lit 60))]) }
def tholds2 : Cfg := { top := ⟨13, over (opqS 10000 116) [(0, (SV.rom 0 (IE.lit 0) (IE.len (LE.rom 0)) none)), (3, (SV.sll 2 3 3 (IE.lit 0) (IE.len (LE.var 1002)) none)), (4, (SV.int .i64 (IE.var .i64 1003)))], ogt (loopTodo (bodyOf (T hold.Φ [] []) 13) 0), [], false, none⟩, rest := [], heap := [(2, .rowl (LE.var 1002) (IE.len (LE.var 1002)) [(CK.int .i64), (CK.int .i64), (CK.int .i64)] 68 3 3)], next := 4, pc := .lit true :: ([rightF (.var 1002), .le (.lit 1) (.len (.var 1002)), .le (.lit 0) (.var .i64 1003), .le (.var .i64 1003) (ln 0), .le (.len (.var 1002)) (.var .i64 1003)] ++ [(BE.le (IE.lit 1) (IE.len (LE.rom 0))), (BE.fn 4 (AL.lst LE.nil AL.nil)), (BE.le (IE.len (LE.rom 0)) (IE.lit 60))]) }
def tholds3 : Cfg := { top := ⟨13, over (opqS 10000 116) [(0, (SV.rom 0 (IE.lit 0) (IE.len (LE.rom 0)) none)), (3, (SV.sll 2 3 3 (IE.lit 0) (IE.len (LE.var 1002)) none)), (4, (SV.int .i64 (IE.var .i64 1000))), (14, (SV.int .i64 (IE.var .i64 1003)))], ogt (loopTodo (bodyOf (T hold.Φ [] []) 13) 1), [], false, none⟩, rest := [], heap := [(2, .rowl (LE.var 1002) (IE.len (LE.var 1002)) [(CK.int .i64), (CK.int .i64), (CK.int .i64)] 68 3 3)], next := 4, pc := .lit true :: ([rightF (.var 1002), .le (.lit 1) (.len (.var 1002)), .le (.lit 0) (.var .i64 1000), .not (.le (ln 0) (.var .i64 1000)), .le (.len (.var 1002)) (.add (.var .i64 1000) (.lit 1)), .le (.lit 0) (.var .i64 1003), .le (.var .i64 1003) (.len (.var 1002))] ++ [(BE.le (IE.len (LE.rom 0)) (IE.lit 60)), (BE.fn 4 (AL.lst LE.nil AL.nil)), (BE.le (IE.lit 1) (IE.len (LE.rom 0)))]) }
def tholds4 : Cfg := { top := ⟨13, over (opqS 10000 116) [(0, (SV.rom 0 (IE.lit 0) (IE.len (LE.rom 0)) none)), (3, (SV.sll 2 3 3 (IE.lit 0) (IE.len (LE.var 1002)) none)), (4, (SV.int .i64 (IE.var .i64 1000))), (14, (SV.int .i64 (IE.var .i64 1003))), (15, (SV.int .i64 (IE.var .i64 1004)))], ogt (loopTodo (bodyOf (T hold.Φ [] []) 13) 2), [], false, none⟩, rest := [], heap := [(2, .rowl (LE.var 1002) (IE.len (LE.var 1002)) [(CK.int .i64), (CK.int .i64), (CK.int .i64)] 68 3 3)], next := 4, pc := .lit true :: ([rightF (.var 1002), .le (.lit 1) (.len (.var 1002)), .le (.lit 0) (.var .i64 1000), .not (.le (ln 0) (.var .i64 1000)), .le (.len (.var 1002)) (.add (.var .i64 1000) (.lit 1)), .le (.lit 0) (.var .i64 1003), .le (.var .i64 1004) (.var .i64 1003), .not (.le (.len (.var 1002)) (.var .i64 1003)), .le (.lit 0) (.var .i64 1004)] ++ [(BE.le (IE.lit 1) (IE.len (LE.rom 0))), (BE.fn 4 (AL.lst LE.nil AL.nil)), (BE.le (IE.len (LE.rom 0)) (IE.lit 60))]) }
def tmholds : List (Nat × Cfg) := [(0, startF 13 cHolds.pat (.lit true :: cHolds.pre)), (1, tholds1), (2, tholds2), (3, tholds3), (4, tholds4)]
def selholds : Sel := [(13, 1, 385000, 1), (13, 1, 386000, 2), (13, 2, 0, 3), (13, 3, 0, 4)]
def pcholds0_0 : List BE := [(BE.lit true), (BE.fn 4 (AL.lst LE.nil AL.nil)), (BE.le (IE.lit 1) (IE.len (LE.rom 0)))]
def wholds0_0 : VW := (VW.cut 1 ((BE.le (IE.len (LE.rom 0)) (IE.lit 60)) :: pcholds0_0) (Sx.Sub.mk [(.i64, (1000, (IE.lit 0)))] [] [] [] [] []))
def wholds0_1 : VW := (VW.done ((BE.not (BE.le (IE.len (LE.rom 0)) (IE.lit 60))) :: pcholds0_0) (some []))
def vwholds0 : List VW := [wholds0_0, wholds0_1]
def pcholds1_0 : List BE := [(BE.lit true), (BE.le (IE.lit 0) (IE.var .i64 1000)), (BE.le (IE.var .i64 1000) (IE.len (LE.rom 0))), (BE.le (IE.lit 1) (IE.len (LE.rom 0))), (BE.fn 4 (AL.lst LE.nil AL.nil)), (BE.le (IE.len (LE.rom 0)) (IE.lit 60))]
def pcholds1_1 : List BE := ((BE.not (BE.le (IE.len (LE.rom 0)) (IE.var .i64 1000))) :: pcholds1_0)
def pcholds1_2 : List BE := ((BE.eq (IE.bin BinOp.rem .i64 (IE.cel .i64 (LE.rom 0) (IE.var .i64 1000) 1) (IE.lit 2)) (IE.lit 0)) :: pcholds1_1)
def pcholds1_3 : List BE := ((BE.fn 5 (AL.lst LE.nil (AL.int .i64 (IE.cel .i64 (LE.rom 0) (IE.var .i64 1000) 2) AL.nil))) :: pcholds1_2)
def pcholds1_4 : List BE := ((BE.not (BE.fn 5 (AL.lst LE.nil (AL.int .i64 (IE.cel .i64 (LE.rom 0) (IE.var .i64 1000) 2) AL.nil)))) :: pcholds1_2)
def pcholds1_5 : List BE := ((BE.le (IE.lit 1) (IE.cel .i64 (LE.rom 0) (IE.var .i64 1000) 2)) :: pcholds1_3)
def pcholds1_6 : List BE := ((BE.le (IE.lit 1) (IE.cel .i64 (LE.rom 0) (IE.var .i64 1000) 2)) :: pcholds1_4)
def pcholds1_7 : List BE := ((BE.le (IE.cel .i64 (LE.rom 0) (IE.var .i64 1000) 2) (IE.lit 5)) :: pcholds1_5)
def pcholds1_8 : List BE := ((BE.le (IE.cel .i64 (LE.rom 0) (IE.var .i64 1000) 2) (IE.lit 5)) :: pcholds1_6)
def pcholds1_9 : List BE := ((BE.le (IE.lit 0) (IE.fn .i64 4 (AL.lst (LE.one (AL.int .i64 (IE.cel .i64 (LE.rom 0) (IE.var .i64 1000) 0) (AL.int .i64 (IE.cel .i64 (LE.rom 0) (IE.var .i64 1000) 1) (AL.int .i64 (IE.cel .i64 (LE.rom 0) (IE.var .i64 1000) 2) AL.nil)))) AL.nil))) :: (BE.le (IE.fn .i64 4 (AL.lst (LE.one (AL.int .i64 (IE.cel .i64 (LE.rom 0) (IE.var .i64 1000) 0) (AL.int .i64 (IE.cel .i64 (LE.rom 0) (IE.var .i64 1000) 1) (AL.int .i64 (IE.cel .i64 (LE.rom 0) (IE.var .i64 1000) 2) AL.nil)))) AL.nil)) (IE.lit 1)) :: (BE.fn 4 (AL.lst (LE.one (AL.int .i64 (IE.cel .i64 (LE.rom 0) (IE.var .i64 1000) 0) (AL.int .i64 (IE.cel .i64 (LE.rom 0) (IE.var .i64 1000) 1) (AL.int .i64 (IE.cel .i64 (LE.rom 0) (IE.var .i64 1000) 2) AL.nil)))) AL.nil)) :: (BE.not (BE.le (IE.lit 1) (IE.fn .i64 2 (AL.lst (LE.one (AL.int .i64 (IE.cel .i64 (LE.rom 0) (IE.var .i64 1000) 0) (AL.int .i64 (IE.cel .i64 (LE.rom 0) (IE.var .i64 1000) 1) (AL.int .i64 (IE.cel .i64 (LE.rom 0) (IE.var .i64 1000) 2) AL.nil)))) (AL.int .i64 (IE.cel .i64 (LE.rom 0) (IE.var .i64 1000) 0) AL.nil))))) :: (BE.le (IE.cel .i64 (LE.one (AL.int .i64 (IE.cel .i64 (LE.rom 0) (IE.var .i64 1000) 0) (AL.int .i64 (IE.cel .i64 (LE.rom 0) (IE.var .i64 1000) 1) (AL.int .i64 (IE.cel .i64 (LE.rom 0) (IE.var .i64 1000) 2) AL.nil)))) (IE.fn .i64 2 (AL.lst (LE.one (AL.int .i64 (IE.cel .i64 (LE.rom 0) (IE.var .i64 1000) 0) (AL.int .i64 (IE.cel .i64 (LE.rom 0) (IE.var .i64 1000) 1) (AL.int .i64 (IE.cel .i64 (LE.rom 0) (IE.var .i64 1000) 2) AL.nil)))) (AL.int .i64 (IE.cel .i64 (LE.rom 0) (IE.var .i64 1000) 0) AL.nil))) 1) (IE.cel .i64 (LE.rom 0) (IE.var .i64 1000) 1)) :: (BE.le (IE.lit 0) (IE.fn .i64 2 (AL.lst (LE.one (AL.int .i64 (IE.cel .i64 (LE.rom 0) (IE.var .i64 1000) 0) (AL.int .i64 (IE.cel .i64 (LE.rom 0) (IE.var .i64 1000) 1) (AL.int .i64 (IE.cel .i64 (LE.rom 0) (IE.var .i64 1000) 2) AL.nil)))) (AL.int .i64 (IE.cel .i64 (LE.rom 0) (IE.var .i64 1000) 0) AL.nil)))) :: (BE.fn 2 (AL.int .i64 (IE.cel .i64 (LE.rom 0) (IE.var .i64 1000) 0) (AL.int .i64 (IE.cel .i64 (LE.rom 0) (IE.var .i64 1000) 1) (AL.int .i64 (IE.cel .i64 (LE.rom 0) (IE.var .i64 1000) 2) AL.nil)))) :: pcholds1_7)
def wholds1_0 : VW := (VW.done ((BE.le (IE.len (LE.rom 0)) (IE.var .i64 1000)) :: pcholds1_0) (some []))
def wholds1_1 : VW := (VW.cut 3 ((BE.le (IE.lit 1) (IE.fn .i64 4 (AL.lst (LE.one (AL.int .i64 (IE.cel .i64 (LE.rom 0) (IE.var .i64 1000) 0) (AL.int .i64 (IE.cel .i64 (LE.rom 0) (IE.var .i64 1000) 1) (AL.int .i64 (IE.cel .i64 (LE.rom 0) (IE.var .i64 1000) 2) AL.nil)))) AL.nil))) :: pcholds1_9) (Sx.Sub.mk [(.i64, (1003, (IE.lit 0))), (.i64, (1000, (IE.var .i64 1000)))] [] [(1002, (LE.one (AL.int .i64 (IE.cel .i64 (LE.rom 0) (IE.var .i64 1000) 0) (AL.int .i64 (IE.cel .i64 (LE.rom 0) (IE.var .i64 1000) 1) (AL.int .i64 (IE.cel .i64 (LE.rom 0) (IE.var .i64 1000) 2) AL.nil)))))] [] [] []))
def wholds1_2 : VW := (VW.cut 3 ((BE.not (BE.le (IE.lit 1) (IE.fn .i64 4 (AL.lst (LE.one (AL.int .i64 (IE.cel .i64 (LE.rom 0) (IE.var .i64 1000) 0) (AL.int .i64 (IE.cel .i64 (LE.rom 0) (IE.var .i64 1000) 1) (AL.int .i64 (IE.cel .i64 (LE.rom 0) (IE.var .i64 1000) 2) AL.nil)))) AL.nil)))) :: pcholds1_9) (Sx.Sub.mk [(.i64, (1003, (IE.lit 0))), (.i64, (1000, (IE.var .i64 1000)))] [] [(1002, (LE.one (AL.int .i64 (IE.cel .i64 (LE.rom 0) (IE.var .i64 1000) 0) (AL.int .i64 (IE.cel .i64 (LE.rom 0) (IE.var .i64 1000) 1) (AL.int .i64 (IE.cel .i64 (LE.rom 0) (IE.var .i64 1000) 2) AL.nil)))))] [] [] []))
def wholds1_3 : VW := (VW.cut 1 ((BE.not (BE.fn 2 (AL.int .i64 (IE.cel .i64 (LE.rom 0) (IE.var .i64 1000) 0) (AL.int .i64 (IE.cel .i64 (LE.rom 0) (IE.var .i64 1000) 1) (AL.int .i64 (IE.cel .i64 (LE.rom 0) (IE.var .i64 1000) 2) AL.nil))))) :: pcholds1_7) (Sx.Sub.mk [(.i64, (1000, (IE.add (IE.var .i64 1000) (IE.lit 1))))] [] [] [] [] []))
def wholds1_4 : VW := (VW.cut 1 ((BE.not (BE.le (IE.cel .i64 (LE.rom 0) (IE.var .i64 1000) 2) (IE.lit 5))) :: pcholds1_5) (Sx.Sub.mk [(.i64, (1000, (IE.add (IE.var .i64 1000) (IE.lit 1))))] [] [] [] [] []))
def wholds1_5 : VW := (VW.cut 1 ((BE.not (BE.le (IE.lit 1) (IE.cel .i64 (LE.rom 0) (IE.var .i64 1000) 2))) :: pcholds1_3) (Sx.Sub.mk [(.i64, (1000, (IE.add (IE.var .i64 1000) (IE.lit 1))))] [] [] [] [] []))
def wholds1_6 : VW := (VW.cut 1 ((BE.le (IE.lit 0) (IE.fn .i64 2 (AL.lst LE.nil (AL.int .i64 (IE.cel .i64 (LE.rom 0) (IE.var .i64 1000) 0) AL.nil)))) :: (BE.le (IE.fn .i64 2 (AL.lst LE.nil (AL.int .i64 (IE.cel .i64 (LE.rom 0) (IE.var .i64 1000) 0) AL.nil))) (IE.lit 0)) :: (BE.fn 2 (AL.int .i64 (IE.cel .i64 (LE.rom 0) (IE.var .i64 1000) 0) (AL.int .i64 (IE.cel .i64 (LE.rom 0) (IE.var .i64 1000) 1) (AL.int .i64 (IE.cel .i64 (LE.rom 0) (IE.var .i64 1000) 2) AL.nil)))) :: pcholds1_8) (Sx.Sub.mk [(.i64, (1000, (IE.add (IE.var .i64 1000) (IE.lit 1))))] [] [] [] [] []))
def wholds1_7 : VW := (VW.cut 1 ((BE.not (BE.fn 2 (AL.int .i64 (IE.cel .i64 (LE.rom 0) (IE.var .i64 1000) 0) (AL.int .i64 (IE.cel .i64 (LE.rom 0) (IE.var .i64 1000) 1) (AL.int .i64 (IE.cel .i64 (LE.rom 0) (IE.var .i64 1000) 2) AL.nil))))) :: pcholds1_8) (Sx.Sub.mk [(.i64, (1000, (IE.add (IE.var .i64 1000) (IE.lit 1))))] [] [] [] [] []))
def wholds1_8 : VW := (VW.cut 1 ((BE.not (BE.le (IE.cel .i64 (LE.rom 0) (IE.var .i64 1000) 2) (IE.lit 5))) :: pcholds1_6) (Sx.Sub.mk [(.i64, (1000, (IE.add (IE.var .i64 1000) (IE.lit 1))))] [] [] [] [] []))
def wholds1_9 : VW := (VW.cut 1 ((BE.not (BE.le (IE.lit 1) (IE.cel .i64 (LE.rom 0) (IE.var .i64 1000) 2))) :: pcholds1_4) (Sx.Sub.mk [(.i64, (1000, (IE.add (IE.var .i64 1000) (IE.lit 1))))] [] [] [] [] []))
def wholds1_10 : VW := (VW.cut 1 ((BE.le (IE.lit 0) (IE.fn .i64 2 (AL.lst LE.nil (AL.int .i64 (IE.cel .i64 (LE.rom 0) (IE.var .i64 1000) 0) AL.nil)))) :: (BE.le (IE.fn .i64 2 (AL.lst LE.nil (AL.int .i64 (IE.cel .i64 (LE.rom 0) (IE.var .i64 1000) 0) AL.nil))) (IE.lit 0)) :: (BE.not (BE.eq (IE.bin BinOp.rem .i64 (IE.cel .i64 (LE.rom 0) (IE.var .i64 1000) 1) (IE.lit 2)) (IE.lit 0))) :: pcholds1_1) (Sx.Sub.mk [(.i64, (1000, (IE.add (IE.var .i64 1000) (IE.lit 1))))] [] [] [] [] []))
def vwholds1 : List VW := [wholds1_0, wholds1_1, wholds1_2, wholds1_3, wholds1_4, wholds1_5, wholds1_6, wholds1_7, wholds1_8, wholds1_9, wholds1_10]
def pcholds2_0 : List BE := [(BE.lit true), (BE.fn 4 (AL.lst (LE.var 1002) AL.nil)), (BE.le (IE.lit 1) (IE.len (LE.var 1002))), (BE.le (IE.lit 0) (IE.var .i64 1003)), (BE.le (IE.var .i64 1003) (IE.len (LE.rom 0))), (BE.le (IE.len (LE.var 1002)) (IE.var .i64 1003)), (BE.le (IE.lit 1) (IE.len (LE.rom 0))), (BE.fn 4 (AL.lst LE.nil AL.nil)), (BE.le (IE.len (LE.rom 0)) (IE.lit 60))]
def pcholds2_1 : List BE := ((BE.not (BE.le (IE.len (LE.rom 0)) (IE.var .i64 1003))) :: pcholds2_0)
def pcholds2_2 : List BE := ((BE.eq (IE.bin BinOp.rem .i64 (IE.cel .i64 (LE.rom 0) (IE.var .i64 1003) 1) (IE.lit 2)) (IE.lit 0)) :: pcholds2_1)
def pcholds2_3 : List BE := ((BE.not (BE.eq (IE.bin BinOp.rem .i64 (IE.cel .i64 (LE.rom 0) (IE.var .i64 1003) 1) (IE.lit 2)) (IE.lit 0))) :: pcholds2_1)
def pcholds2_4 : List BE := ((BE.le (IE.lit 1) (IE.cel .i64 (LE.rom 0) (IE.var .i64 1003) 2)) :: pcholds2_2)
def pcholds2_5 : List BE := ((BE.le (IE.lit 2) (IE.len (LE.var 1002))) :: pcholds2_3)
def pcholds2_6 : List BE := ((BE.not (BE.le (IE.lit 2) (IE.len (LE.var 1002)))) :: pcholds2_3)
def pcholds2_7 : List BE := ((BE.le (IE.cel .i64 (LE.rom 0) (IE.var .i64 1003) 2) (IE.lit 5)) :: pcholds2_4)
def pcholds2_8 : List BE := ((BE.not (BE.le (IE.len (LE.var 1002)) (IE.fn .i64 2 (AL.lst (LE.var 1002) (AL.int .i64 (IE.cel .i64 (LE.rom 0) (IE.var .i64 1003) 0) AL.nil))))) :: pcholds2_5)
def pcholds2_9 : List BE := ((BE.not (BE.le (IE.len (LE.var 1002)) (IE.fn .i64 2 (AL.lst (LE.var 1002) (AL.int .i64 (IE.cel .i64 (LE.rom 0) (IE.var .i64 1003) 0) AL.nil))))) :: pcholds2_6)
def pcholds2_10 : List BE := ((BE.fn 2 (AL.int .i64 (IE.cel .i64 (LE.rom 0) (IE.var .i64 1003) 0) (AL.int .i64 (IE.cel .i64 (LE.rom 0) (IE.var .i64 1003) 1) (AL.int .i64 (IE.cel .i64 (LE.rom 0) (IE.var .i64 1003) 2) AL.nil)))) :: pcholds2_7)
def pcholds2_11 : List BE := ((BE.le (IE.len (LE.var 1002)) (IE.fn .i64 2 (AL.lst (LE.var 1002) (AL.int .i64 (IE.cel .i64 (LE.rom 0) (IE.var .i64 1003) 0) AL.nil)))) :: pcholds2_10)
def pcholds2_12 : List BE := ((BE.le (IE.lit 0) (IE.fn .i64 4 (AL.lst (LE.fn 6 (AL.lst (LE.var 1002) (AL.int .i64 (IE.cel .i64 (LE.rom 0) (IE.var .i64 1003) 0) (AL.int .i64 (IE.cel .i64 (LE.rom 0) (IE.var .i64 1003) 1) (AL.int .i64 (IE.cel .i64 (LE.rom 0) (IE.var .i64 1003) 2) AL.nil))))) AL.nil))) :: (BE.le (IE.fn .i64 4 (AL.lst (LE.fn 6 (AL.lst (LE.var 1002) (AL.int .i64 (IE.cel .i64 (LE.rom 0) (IE.var .i64 1003) 0) (AL.int .i64 (IE.cel .i64 (LE.rom 0) (IE.var .i64 1003) 1) (AL.int .i64 (IE.cel .i64 (LE.rom 0) (IE.var .i64 1003) 2) AL.nil))))) AL.nil)) (IE.len (LE.fn 6 (AL.lst (LE.var 1002) (AL.int .i64 (IE.cel .i64 (LE.rom 0) (IE.var .i64 1003) 0) (AL.int .i64 (IE.cel .i64 (LE.rom 0) (IE.var .i64 1003) 1) (AL.int .i64 (IE.cel .i64 (LE.rom 0) (IE.var .i64 1003) 2) AL.nil))))))) :: (BE.eq (IE.len (LE.fn 4 (AL.lst (LE.fn 6 (AL.lst (LE.var 1002) (AL.int .i64 (IE.cel .i64 (LE.rom 0) (IE.var .i64 1003) 0) (AL.int .i64 (IE.cel .i64 (LE.rom 0) (IE.var .i64 1003) 1) (AL.int .i64 (IE.cel .i64 (LE.rom 0) (IE.var .i64 1003) 2) AL.nil))))) (AL.int .i64 (IE.cel .i64 (LE.rom 0) (IE.var .i64 1003) 0) AL.nil)))) (IE.sub (IE.len (LE.fn 6 (AL.lst (LE.var 1002) (AL.int .i64 (IE.cel .i64 (LE.rom 0) (IE.var .i64 1003) 0) (AL.int .i64 (IE.cel .i64 (LE.rom 0) (IE.var .i64 1003) 1) (AL.int .i64 (IE.cel .i64 (LE.rom 0) (IE.var .i64 1003) 2) AL.nil)))))) (IE.lit 1))) :: (BE.le (IE.len (LE.fn 4 (AL.lst (LE.fn 6 (AL.lst (LE.var 1002) (AL.int .i64 (IE.cel .i64 (LE.rom 0) (IE.var .i64 1003) 0) (AL.int .i64 (IE.cel .i64 (LE.rom 0) (IE.var .i64 1003) 1) (AL.int .i64 (IE.cel .i64 (LE.rom 0) (IE.var .i64 1003) 2) AL.nil))))) (AL.int .i64 (IE.cel .i64 (LE.rom 0) (IE.var .i64 1003) 0) AL.nil)))) (IE.lit 1000)) :: (BE.fn 4 (AL.lst (LE.fn 4 (AL.lst (LE.fn 6 (AL.lst (LE.var 1002) (AL.int .i64 (IE.cel .i64 (LE.rom 0) (IE.var .i64 1003) 0) (AL.int .i64 (IE.cel .i64 (LE.rom 0) (IE.var .i64 1003) 1) (AL.int .i64 (IE.cel .i64 (LE.rom 0) (IE.var .i64 1003) 2) AL.nil))))) (AL.int .i64 (IE.cel .i64 (LE.rom 0) (IE.var .i64 1003) 0) AL.nil))) AL.nil)) :: (BE.eq (IE.len (LE.fn 6 (AL.lst (LE.var 1002) (AL.int .i64 (IE.cel .i64 (LE.rom 0) (IE.var .i64 1003) 0) (AL.int .i64 (IE.cel .i64 (LE.rom 0) (IE.var .i64 1003) 1) (AL.int .i64 (IE.cel .i64 (LE.rom 0) (IE.var .i64 1003) 2) AL.nil)))))) (IE.add (IE.len (LE.var 1002)) (IE.lit 1))) :: (BE.le (IE.len (LE.fn 6 (AL.lst (LE.var 1002) (AL.int .i64 (IE.cel .i64 (LE.rom 0) (IE.var .i64 1003) 0) (AL.int .i64 (IE.cel .i64 (LE.rom 0) (IE.var .i64 1003) 1) (AL.int .i64 (IE.cel .i64 (LE.rom 0) (IE.var .i64 1003) 2) AL.nil)))))) (IE.lit 1001)) :: (BE.fn 4 (AL.lst (LE.fn 6 (AL.lst (LE.var 1002) (AL.int .i64 (IE.cel .i64 (LE.rom 0) (IE.var .i64 1003) 0) (AL.int .i64 (IE.cel .i64 (LE.rom 0) (IE.var .i64 1003) 1) (AL.int .i64 (IE.cel .i64 (LE.rom 0) (IE.var .i64 1003) 2) AL.nil))))) AL.nil)) :: (BE.not (BE.le (IE.len (LE.fn 6 (AL.lst (LE.var 1002) (AL.int .i64 (IE.cel .i64 (LE.rom 0) (IE.var .i64 1003) 0) (AL.int .i64 (IE.cel .i64 (LE.rom 0) (IE.var .i64 1003) 1) (AL.int .i64 (IE.cel .i64 (LE.rom 0) (IE.var .i64 1003) 2) AL.nil)))))) (IE.fn .i64 2 (AL.lst (LE.fn 6 (AL.lst (LE.var 1002) (AL.int .i64 (IE.cel .i64 (LE.rom 0) (IE.var .i64 1003) 0) (AL.int .i64 (IE.cel .i64 (LE.rom 0) (IE.var .i64 1003) 1) (AL.int .i64 (IE.cel .i64 (LE.rom 0) (IE.var .i64 1003) 2) AL.nil))))) (AL.int .i64 (IE.cel .i64 (LE.rom 0) (IE.var .i64 1003) 0) AL.nil))))) :: (BE.le (IE.cel .i64 (LE.fn 6 (AL.lst (LE.var 1002) (AL.int .i64 (IE.cel .i64 (LE.rom 0) (IE.var .i64 1003) 0) (AL.int .i64 (IE.cel .i64 (LE.rom 0) (IE.var .i64 1003) 1) (AL.int .i64 (IE.cel .i64 (LE.rom 0) (IE.var .i64 1003) 2) AL.nil))))) (IE.fn .i64 2 (AL.lst (LE.fn 6 (AL.lst (LE.var 1002) (AL.int .i64 (IE.cel .i64 (LE.rom 0) (IE.var .i64 1003) 0) (AL.int .i64 (IE.cel .i64 (LE.rom 0) (IE.var .i64 1003) 1) (AL.int .i64 (IE.cel .i64 (LE.rom 0) (IE.var .i64 1003) 2) AL.nil))))) (AL.int .i64 (IE.cel .i64 (LE.rom 0) (IE.var .i64 1003) 0) AL.nil))) 1) (IE.cel .i64 (LE.rom 0) (IE.var .i64 1003) 1)) :: (BE.leq (LE.fn 4 (AL.lst (LE.fn 6 (AL.lst (LE.var 1002) (AL.int .i64 (IE.cel .i64 (LE.rom 0) (IE.var .i64 1003) 0) (AL.int .i64 (IE.cel .i64 (LE.rom 0) (IE.var .i64 1003) 1) (AL.int .i64 (IE.cel .i64 (LE.rom 0) (IE.var .i64 1003) 2) AL.nil))))) (AL.int .i64 (IE.cel .i64 (LE.rom 0) (IE.var .i64 1003) 0) AL.nil))) (LE.var 1002)) :: (BE.le (IE.lit 0) (IE.fn .i64 2 (AL.lst (LE.fn 6 (AL.lst (LE.var 1002) (AL.int .i64 (IE.cel .i64 (LE.rom 0) (IE.var .i64 1003) 0) (AL.int .i64 (IE.cel .i64 (LE.rom 0) (IE.var .i64 1003) 1) (AL.int .i64 (IE.cel .i64 (LE.rom 0) (IE.var .i64 1003) 2) AL.nil))))) (AL.int .i64 (IE.cel .i64 (LE.rom 0) (IE.var .i64 1003) 0) AL.nil)))) :: (BE.fn 5 (AL.lst (LE.var 1002) (AL.int .i64 (IE.cel .i64 (LE.rom 0) (IE.var .i64 1003) 2) AL.nil))) :: pcholds2_11)
def pcholds2_13 : List BE := ((BE.not (BE.le (IE.len (LE.fn 6 (AL.lst (LE.var 1002) (AL.int .i64 (IE.cel .i64 (LE.rom 0) (IE.var .i64 1003) 0) (AL.int .i64 (IE.cel .i64 (LE.rom 0) (IE.var .i64 1003) 1) (AL.int .i64 (IE.cel .i64 (LE.rom 0) (IE.var .i64 1003) 2) AL.nil)))))) (IE.fn .i64 4 (AL.lst (LE.fn 6 (AL.lst (LE.var 1002) (AL.int .i64 (IE.cel .i64 (LE.rom 0) (IE.var .i64 1003) 0) (AL.int .i64 (IE.cel .i64 (LE.rom 0) (IE.var .i64 1003) 1) (AL.int .i64 (IE.cel .i64 (LE.rom 0) (IE.var .i64 1003) 2) AL.nil))))) AL.nil)))) :: pcholds2_12)
def wholds2_0 : VW := (VW.done ((BE.le (IE.len (LE.rom 0)) (IE.var .i64 1003)) :: pcholds2_0) (some []))
def wholds2_1 : VW := (VW.cut 3 ((BE.le (IE.len (LE.fn 6 (AL.lst (LE.var 1002) (AL.int .i64 (IE.cel .i64 (LE.rom 0) (IE.var .i64 1003) 0) (AL.int .i64 (IE.cel .i64 (LE.rom 0) (IE.var .i64 1003) 1) (AL.int .i64 (IE.cel .i64 (LE.rom 0) (IE.var .i64 1003) 2) AL.nil)))))) (IE.fn .i64 4 (AL.lst (LE.fn 6 (AL.lst (LE.var 1002) (AL.int .i64 (IE.cel .i64 (LE.rom 0) (IE.var .i64 1003) 0) (AL.int .i64 (IE.cel .i64 (LE.rom 0) (IE.var .i64 1003) 1) (AL.int .i64 (IE.cel .i64 (LE.rom 0) (IE.var .i64 1003) 2) AL.nil))))) AL.nil))) :: pcholds2_12) (Sx.Sub.mk [(.i64, (1003, (IE.lit 0))), (.i64, (1000, (IE.var .i64 1003)))] [] [(1002, (LE.fn 6 (AL.lst (LE.var 1002) (AL.int .i64 (IE.cel .i64 (LE.rom 0) (IE.var .i64 1003) 0) (AL.int .i64 (IE.cel .i64 (LE.rom 0) (IE.var .i64 1003) 1) (AL.int .i64 (IE.cel .i64 (LE.rom 0) (IE.var .i64 1003) 2) AL.nil))))))] [] [] []))
def wholds2_2 : VW := (VW.cut 3 ((BE.eq (IE.len (LE.fn 6 (AL.lst (LE.var 1002) (AL.int .i64 (IE.cel .i64 (LE.rom 0) (IE.var .i64 1003) 0) (AL.int .i64 (IE.cel .i64 (LE.rom 0) (IE.var .i64 1003) 1) (AL.int .i64 (IE.cel .i64 (LE.rom 0) (IE.var .i64 1003) 2) AL.nil)))))) (IE.lit 1)) :: pcholds2_13) (Sx.Sub.mk [(.i64, (1003, (IE.lit 0))), (.i64, (1000, (IE.var .i64 1003)))] [] [(1002, (LE.fn 6 (AL.lst (LE.var 1002) (AL.int .i64 (IE.cel .i64 (LE.rom 0) (IE.var .i64 1003) 0) (AL.int .i64 (IE.cel .i64 (LE.rom 0) (IE.var .i64 1003) 1) (AL.int .i64 (IE.cel .i64 (LE.rom 0) (IE.var .i64 1003) 2) AL.nil))))))] [] [] []))
def wholds2_3 : VW := (VW.done ((BE.not (BE.eq (IE.len (LE.fn 6 (AL.lst (LE.var 1002) (AL.int .i64 (IE.cel .i64 (LE.rom 0) (IE.var .i64 1003) 0) (AL.int .i64 (IE.cel .i64 (LE.rom 0) (IE.var .i64 1003) 1) (AL.int .i64 (IE.cel .i64 (LE.rom 0) (IE.var .i64 1003) 2) AL.nil)))))) (IE.lit 1))) :: pcholds2_13) (some [(G.b (BE.lit true) (BE.lit false))]))
def wholds2_4 : VW := (VW.cut 2 ((BE.le (IE.lit 0) (IE.fn .i64 2 (AL.lst (LE.var 1002) (AL.int .i64 (IE.cel .i64 (LE.rom 0) (IE.var .i64 1003) 0) AL.nil)))) :: (BE.le (IE.fn .i64 2 (AL.lst (LE.var 1002) (AL.int .i64 (IE.cel .i64 (LE.rom 0) (IE.var .i64 1003) 0) AL.nil))) (IE.len (LE.var 1002))) :: (BE.not (BE.fn 5 (AL.lst (LE.var 1002) (AL.int .i64 (IE.cel .i64 (LE.rom 0) (IE.var .i64 1003) 2) AL.nil)))) :: pcholds2_11) (Sx.Sub.mk [(.i64, (1003, (IE.add (IE.var .i64 1003) (IE.lit 1))))] [] [(1002, (LE.var 1002))] [] [] []))
def wholds2_5 : VW := (VW.cut 2 ((BE.le (IE.lit 0) (IE.fn .i64 2 (AL.lst (LE.var 1002) (AL.int .i64 (IE.cel .i64 (LE.rom 0) (IE.var .i64 1003) 0) AL.nil)))) :: (BE.le (IE.fn .i64 2 (AL.lst (LE.var 1002) (AL.int .i64 (IE.cel .i64 (LE.rom 0) (IE.var .i64 1003) 0) AL.nil))) (IE.len (LE.var 1002))) :: (BE.not (BE.le (IE.len (LE.var 1002)) (IE.fn .i64 2 (AL.lst (LE.var 1002) (AL.int .i64 (IE.cel .i64 (LE.rom 0) (IE.var .i64 1003) 0) AL.nil))))) :: pcholds2_10) (Sx.Sub.mk [(.i64, (1003, (IE.add (IE.var .i64 1003) (IE.lit 1))))] [] [(1002, (LE.var 1002))] [] [] []))
def wholds2_6 : VW := (VW.cut 2 ((BE.not (BE.fn 2 (AL.int .i64 (IE.cel .i64 (LE.rom 0) (IE.var .i64 1003) 0) (AL.int .i64 (IE.cel .i64 (LE.rom 0) (IE.var .i64 1003) 1) (AL.int .i64 (IE.cel .i64 (LE.rom 0) (IE.var .i64 1003) 2) AL.nil))))) :: pcholds2_7) (Sx.Sub.mk [(.i64, (1003, (IE.add (IE.var .i64 1003) (IE.lit 1))))] [] [(1002, (LE.var 1002))] [] [] []))
def wholds2_7 : VW := (VW.cut 2 ((BE.not (BE.le (IE.cel .i64 (LE.rom 0) (IE.var .i64 1003) 2) (IE.lit 5))) :: pcholds2_4) (Sx.Sub.mk [(.i64, (1003, (IE.add (IE.var .i64 1003) (IE.lit 1))))] [] [(1002, (LE.var 1002))] [] [] []))
def wholds2_8 : VW := (VW.cut 2 ((BE.not (BE.le (IE.lit 1) (IE.cel .i64 (LE.rom 0) (IE.var .i64 1003) 2))) :: pcholds2_2) (Sx.Sub.mk [(.i64, (1003, (IE.add (IE.var .i64 1003) (IE.lit 1))))] [] [(1002, (LE.var 1002))] [] [] []))
def wholds2_9 : VW := (VW.cut 2 ((BE.le (IE.lit 0) (IE.fn .i64 2 (AL.lst (LE.var 1002) (AL.int .i64 (IE.cel .i64 (LE.rom 0) (IE.var .i64 1003) 0) AL.nil)))) :: (BE.le (IE.fn .i64 2 (AL.lst (LE.var 1002) (AL.int .i64 (IE.cel .i64 (LE.rom 0) (IE.var .i64 1003) 0) AL.nil))) (IE.len (LE.var 1002))) :: (BE.le (IE.len (LE.var 1002)) (IE.fn .i64 2 (AL.lst (LE.var 1002) (AL.int .i64 (IE.cel .i64 (LE.rom 0) (IE.var .i64 1003) 0) AL.nil)))) :: pcholds2_5) (Sx.Sub.mk [(.i64, (1003, (IE.add (IE.var .i64 1003) (IE.lit 1))))] [] [(1002, (LE.var 1002))] [] [] []))
def wholds2_10 : VW := (VW.cut 2 ((BE.eq (IE.len (LE.fn 4 (AL.lst (LE.var 1002) (AL.int .i64 (IE.cel .i64 (LE.rom 0) (IE.var .i64 1003) 0) AL.nil)))) (IE.sub (IE.len (LE.var 1002)) (IE.lit 1))) :: (BE.le (IE.len (LE.fn 4 (AL.lst (LE.var 1002) (AL.int .i64 (IE.cel .i64 (LE.rom 0) (IE.var .i64 1003) 0) AL.nil)))) (IE.lit 1000)) :: (BE.fn 4 (AL.lst (LE.fn 4 (AL.lst (LE.var 1002) (AL.int .i64 (IE.cel .i64 (LE.rom 0) (IE.var .i64 1003) 0) AL.nil))) AL.nil)) :: (BE.le (IE.cel .i64 (LE.var 1002) (IE.fn .i64 2 (AL.lst (LE.var 1002) (AL.int .i64 (IE.cel .i64 (LE.rom 0) (IE.var .i64 1003) 0) AL.nil))) 1) (IE.cel .i64 (LE.rom 0) (IE.var .i64 1003) 1)) :: pcholds2_8) (Sx.Sub.mk [(.i64, (1003, (IE.add (IE.var .i64 1003) (IE.lit 1))))] [] [(1002, (LE.fn 4 (AL.lst (LE.var 1002) (AL.int .i64 (IE.cel .i64 (LE.rom 0) (IE.var .i64 1003) 0) AL.nil))))] [] [] []))
def wholds2_11 : VW := (VW.cut 2 ((BE.le (IE.lit 0) (IE.fn .i64 2 (AL.lst (LE.var 1002) (AL.int .i64 (IE.cel .i64 (LE.rom 0) (IE.var .i64 1003) 0) AL.nil)))) :: (BE.le (IE.fn .i64 2 (AL.lst (LE.var 1002) (AL.int .i64 (IE.cel .i64 (LE.rom 0) (IE.var .i64 1003) 0) AL.nil))) (IE.len (LE.var 1002))) :: (BE.not (BE.le (IE.cel .i64 (LE.var 1002) (IE.fn .i64 2 (AL.lst (LE.var 1002) (AL.int .i64 (IE.cel .i64 (LE.rom 0) (IE.var .i64 1003) 0) AL.nil))) 1) (IE.cel .i64 (LE.rom 0) (IE.var .i64 1003) 1))) :: pcholds2_8) (Sx.Sub.mk [(.i64, (1003, (IE.add (IE.var .i64 1003) (IE.lit 1))))] [] [(1002, (LE.var 1002))] [] [] []))
def wholds2_12 : VW := (VW.cut 2 ((BE.le (IE.lit 0) (IE.fn .i64 2 (AL.lst (LE.var 1002) (AL.int .i64 (IE.cel .i64 (LE.rom 0) (IE.var .i64 1003) 0) AL.nil)))) :: (BE.le (IE.fn .i64 2 (AL.lst (LE.var 1002) (AL.int .i64 (IE.cel .i64 (LE.rom 0) (IE.var .i64 1003) 0) AL.nil))) (IE.len (LE.var 1002))) :: (BE.le (IE.len (LE.var 1002)) (IE.fn .i64 2 (AL.lst (LE.var 1002) (AL.int .i64 (IE.cel .i64 (LE.rom 0) (IE.var .i64 1003) 0) AL.nil)))) :: pcholds2_6) (Sx.Sub.mk [(.i64, (1003, (IE.add (IE.var .i64 1003) (IE.lit 1))))] [] [(1002, (LE.var 1002))] [] [] []))
def wholds2_13 : VW := (VW.cut 1 ((BE.le (IE.cel .i64 (LE.var 1002) (IE.fn .i64 2 (AL.lst (LE.var 1002) (AL.int .i64 (IE.cel .i64 (LE.rom 0) (IE.var .i64 1003) 0) AL.nil))) 1) (IE.cel .i64 (LE.rom 0) (IE.var .i64 1003) 1)) :: pcholds2_9) (Sx.Sub.mk [(.i64, (1000, (IE.add (IE.var .i64 1003) (IE.lit 1))))] [] [] [] [] []))
def wholds2_14 : VW := (VW.cut 2 ((BE.le (IE.lit 0) (IE.fn .i64 2 (AL.lst (LE.var 1002) (AL.int .i64 (IE.cel .i64 (LE.rom 0) (IE.var .i64 1003) 0) AL.nil)))) :: (BE.le (IE.fn .i64 2 (AL.lst (LE.var 1002) (AL.int .i64 (IE.cel .i64 (LE.rom 0) (IE.var .i64 1003) 0) AL.nil))) (IE.len (LE.var 1002))) :: (BE.not (BE.le (IE.cel .i64 (LE.var 1002) (IE.fn .i64 2 (AL.lst (LE.var 1002) (AL.int .i64 (IE.cel .i64 (LE.rom 0) (IE.var .i64 1003) 0) AL.nil))) 1) (IE.cel .i64 (LE.rom 0) (IE.var .i64 1003) 1))) :: pcholds2_9) (Sx.Sub.mk [(.i64, (1003, (IE.add (IE.var .i64 1003) (IE.lit 1))))] [] [(1002, (LE.var 1002))] [] [] []))
def vwholds2 : List VW := [wholds2_0, wholds2_1, wholds2_2, wholds2_3, wholds2_4, wholds2_5, wholds2_6, wholds2_7, wholds2_8, wholds2_9, wholds2_10, wholds2_11, wholds2_12, wholds2_13, wholds2_14]
def pcholds3_0 : List BE := [(BE.lit true), (BE.fn 4 (AL.lst (LE.var 1002) AL.nil)), (BE.le (IE.lit 1) (IE.len (LE.var 1002))), (BE.le (IE.lit 0) (IE.var .i64 1000)), (BE.not (BE.le (IE.len (LE.rom 0)) (IE.var .i64 1000))), (BE.le (IE.len (LE.var 1002)) (IE.add (IE.var .i64 1000) (IE.lit 1))), (BE.le (IE.lit 0) (IE.var .i64 1003)), (BE.le (IE.var .i64 1003) (IE.len (LE.var 1002))), (BE.le (IE.len (LE.rom 0)) (IE.lit 60)), (BE.fn 4 (AL.lst LE.nil AL.nil)), (BE.le (IE.lit 1) (IE.len (LE.rom 0)))]
def wholds3_0 : VW := (VW.cut 2 ((BE.le (IE.len (LE.var 1002)) (IE.var .i64 1003)) :: pcholds3_0) (Sx.Sub.mk [(.i64, (1003, (IE.add (IE.var .i64 1000) (IE.lit 1))))] [] [(1002, (LE.var 1002))] [] [] []))
def wholds3_1 : VW := (VW.cut 4 ((BE.not (BE.le (IE.len (LE.var 1002)) (IE.var .i64 1003))) :: pcholds3_0) (Sx.Sub.mk [(.i64, (1004, (IE.lit 0))), (.i64, (1003, (IE.var .i64 1003))), (.i64, (1000, (IE.var .i64 1000)))] [] [(1002, (LE.var 1002))] [] [] []))
def vwholds3 : List VW := [wholds3_0, wholds3_1]
def pcholds4_0 : List BE := [(BE.lit true), (BE.fn 4 (AL.lst (LE.var 1002) AL.nil)), (BE.le (IE.lit 1) (IE.len (LE.var 1002))), (BE.le (IE.lit 0) (IE.var .i64 1000)), (BE.not (BE.le (IE.len (LE.rom 0)) (IE.var .i64 1000))), (BE.le (IE.len (LE.var 1002)) (IE.add (IE.var .i64 1000) (IE.lit 1))), (BE.le (IE.lit 0) (IE.var .i64 1003)), (BE.le (IE.var .i64 1004) (IE.var .i64 1003)), (BE.not (BE.le (IE.len (LE.var 1002)) (IE.var .i64 1003))), (BE.le (IE.lit 0) (IE.var .i64 1004)), (BE.le (IE.lit 1) (IE.len (LE.rom 0))), (BE.fn 4 (AL.lst LE.nil AL.nil)), (BE.le (IE.len (LE.rom 0)) (IE.lit 60))]
def pcholds4_1 : List BE := ((BE.not (BE.le (IE.var .i64 1003) (IE.var .i64 1004))) :: pcholds4_0)
def wholds4_0 : VW := (VW.cut 3 ((BE.le (IE.var .i64 1003) (IE.var .i64 1004)) :: pcholds4_0) (Sx.Sub.mk [(.i64, (1003, (IE.add (IE.var .i64 1003) (IE.lit 1)))), (.i64, (1000, (IE.var .i64 1000)))] [] [(1002, (LE.var 1002))] [] [] []))
def wholds4_1 : VW := (VW.cut 4 ((BE.fn 1 (AL.int .i64 (IE.cel .i64 (LE.var 1002) (IE.var .i64 1003) 2) (AL.int .i64 (IE.cel .i64 (LE.var 1002) (IE.var .i64 1004) 2) AL.nil))) :: pcholds4_1) (Sx.Sub.mk [(.i64, (1004, (IE.add (IE.var .i64 1004) (IE.lit 1)))), (.i64, (1003, (IE.var .i64 1003))), (.i64, (1000, (IE.var .i64 1000)))] [] [(1002, (LE.var 1002))] [] [] []))
def wholds4_2 : VW := (VW.done ((BE.not (BE.fn 1 (AL.int .i64 (IE.cel .i64 (LE.var 1002) (IE.var .i64 1003) 2) (AL.int .i64 (IE.cel .i64 (LE.var 1002) (IE.var .i64 1004) 2) AL.nil)))) :: pcholds4_1) (some [(G.b (BE.lit true) (BE.lit false))]))
def vwholds4 : List VW := [wholds4_0, wholds4_1, wholds4_2]
def vwholds : Nat → List VW
  | 0 => vwholds0
  | 1 => vwholds1
  | 2 => vwholds2
  | 3 => vwholds3
  | 4 => vwholds4
  | _ => []
end
def invholds : Nat → Lt → Prop
  | _, _ => True
noncomputable def msholds : Nat → Lt → Nat
  | 0, l => msH ((l.z.rl 0).length + 1) 0 0 0
  | 1, l => msH (l.z.rl 0).length (l.i .i64 1000).toNat 0 0
  | 2, l => msH (l.z.rl 0).length (l.i .i64 1003).toNat 0 0
  | 3, l => msH (l.z.rl 0).length (l.i .i64 1000).toNat (l.i .i64 1003).toNat 1
  | 4, l => msH (l.z.rl 0).length (l.i .i64 1000).toNat (l.i .i64 1003).toNat (2 + (l.i .i64 1004).toNat)
  | _, _ => 0
theorem vcholds0_0 : VC TTholds invholds msholds 0 (startF 13 cHolds.pat (.lit true :: cHolds.pre)) wholds0_0 := by
  intro ρ kn hi hp
  have hF : ρ.z.F = hold.Φ := kn.F
  simp only [h_nil, h_cons, d_le, d_eq, d_not, d_var, d_lit, d_cel, d_leq, d_fn, d_and, d_iff, IE.den, LE.den, AL.den, lenV, true_and, and_true, pcholds0_0, hF, pi1, pi2, pi3, pi4, pl2, pb1, pb2, pb3, pb4, pb5, pb6, pl4, pl6] at hp
  obtain ⟨p1, p2, p3⟩ := hp
  refine (show (True) ∧ ((msH (ρ.z.rl 0).length (0 : Int).toNat 0 0 : Nat) < msH ((ρ.z.rl 0).length + 1) 0 0 0) from ?_)
  refine ⟨trivial, ?_⟩
  unfold msH
  rw [bigK_is]
  omega
theorem vcholds1_1 : VC TTholds invholds msholds 1 tholds1 wholds1_1 := by
  intro ρ kn hi hp
  have hF : ρ.z.F = hold.Φ := kn.F
  simp only [h_nil, h_cons, d_le, d_eq, d_not, d_var, d_lit, d_cel, d_leq, d_fn, d_and, d_iff, IE.den, LE.den, AL.den, lenV, true_and, and_true, pcholds1_9, pcholds1_7, pcholds1_5, pcholds1_3, pcholds1_2, pcholds1_1, pcholds1_0, hF, pi1, pi2, pi3, pi4, pl2, pb1, pb2, pb3, pb4, pb5, pb6, pl4, pl6] at hp
  obtain ⟨p1, p2, p3, p4, p5, p6, p7, p8, p9, p10, p11, p12, p13, p14, p15, p16, p17, p18⟩ := hp
  refine (show (True) ∧ ((msH (ρ.z.rl 0).length (ρ.i .i64 1000).toNat (0 : Int).toNat 1 : Nat) < msH (ρ.z.rl 0).length (ρ.i .i64 1000).toNat 0 0) from ?_)
  refine ⟨trivial, ?_⟩
  unfold msH
  rw [bigK_is]
  omega
theorem vcholds1_2 : VC TTholds invholds msholds 1 tholds1 wholds1_2 := by
  intro ρ kn hi hp
  have hF : ρ.z.F = hold.Φ := kn.F
  simp only [h_nil, h_cons, d_le, d_eq, d_not, d_var, d_lit, d_cel, d_leq, d_fn, d_and, d_iff, IE.den, LE.den, AL.den, lenV, true_and, and_true, pcholds1_9, pcholds1_7, pcholds1_5, pcholds1_3, pcholds1_2, pcholds1_1, pcholds1_0, hF, pi1, pi2, pi3, pi4, pl2, pb1, pb2, pb3, pb4, pb5, pb6, pl4, pl6] at hp
  obtain ⟨p1, p2, p3, p4, p5, p6, p7, p8, p9, p10, p11, p12, p13, p14, p15, p16, p17, p18⟩ := hp
  refine (show (True) ∧ ((msH (ρ.z.rl 0).length (ρ.i .i64 1000).toNat (0 : Int).toNat 1 : Nat) < msH (ρ.z.rl 0).length (ρ.i .i64 1000).toNat 0 0) from ?_)
  refine ⟨trivial, ?_⟩
  unfold msH
  rw [bigK_is]
  omega
theorem vcholds1_3 : VC TTholds invholds msholds 1 tholds1 wholds1_3 := by
  intro ρ kn hi hp
  have hF : ρ.z.F = hold.Φ := kn.F
  simp only [h_nil, h_cons, d_le, d_eq, d_not, d_var, d_lit, d_cel, d_leq, d_fn, d_and, d_iff, IE.den, LE.den, AL.den, lenV, true_and, and_true, pcholds1_7, pcholds1_5, pcholds1_3, pcholds1_2, pcholds1_1, pcholds1_0, hF, pi1, pi2, pi3, pi4, pl2, pb1, pb2, pb3, pb4, pb5, pb6, pl4, pl6] at hp
  obtain ⟨p1, p2, p3, p4, p5, p6, p7, p8, p9, p10, p11⟩ := hp
  refine (show (True) ∧ ((msH (ρ.z.rl 0).length ((ρ.i .i64 1000) + (1 : Int)).toNat 0 0 : Nat) < msH (ρ.z.rl 0).length (ρ.i .i64 1000).toNat 0 0) from ?_)
  refine ⟨trivial, ?_⟩
  unfold msH
  rw [bigK_is]
  omega
theorem vcholds1_4 : VC TTholds invholds msholds 1 tholds1 wholds1_4 := by
  intro ρ kn hi hp
  have hF : ρ.z.F = hold.Φ := kn.F
  simp only [h_nil, h_cons, d_le, d_eq, d_not, d_var, d_lit, d_cel, d_leq, d_fn, d_and, d_iff, IE.den, LE.den, AL.den, lenV, true_and, and_true, pcholds1_5, pcholds1_3, pcholds1_2, pcholds1_1, pcholds1_0, hF, pi1, pi2, pi3, pi4, pl2, pb1, pb2, pb3, pb4, pb5, pb6, pl4, pl6] at hp
  obtain ⟨p1, p2, p3, p4, p5, p6, p7, p8, p9, p10⟩ := hp
  refine (show (True) ∧ ((msH (ρ.z.rl 0).length ((ρ.i .i64 1000) + (1 : Int)).toNat 0 0 : Nat) < msH (ρ.z.rl 0).length (ρ.i .i64 1000).toNat 0 0) from ?_)
  refine ⟨trivial, ?_⟩
  unfold msH
  rw [bigK_is]
  omega
theorem vcholds1_5 : VC TTholds invholds msholds 1 tholds1 wholds1_5 := by
  intro ρ kn hi hp
  have hF : ρ.z.F = hold.Φ := kn.F
  simp only [h_nil, h_cons, d_le, d_eq, d_not, d_var, d_lit, d_cel, d_leq, d_fn, d_and, d_iff, IE.den, LE.den, AL.den, lenV, true_and, and_true, pcholds1_3, pcholds1_2, pcholds1_1, pcholds1_0, hF, pi1, pi2, pi3, pi4, pl2, pb1, pb2, pb3, pb4, pb5, pb6, pl4, pl6] at hp
  obtain ⟨p1, p2, p3, p4, p5, p6, p7, p8, p9⟩ := hp
  refine (show (True) ∧ ((msH (ρ.z.rl 0).length ((ρ.i .i64 1000) + (1 : Int)).toNat 0 0 : Nat) < msH (ρ.z.rl 0).length (ρ.i .i64 1000).toNat 0 0) from ?_)
  refine ⟨trivial, ?_⟩
  unfold msH
  rw [bigK_is]
  omega
theorem vcholds1_6 : VC TTholds invholds msholds 1 tholds1 wholds1_6 := by
  intro ρ kn hi hp
  have hF : ρ.z.F = hold.Φ := kn.F
  simp only [h_nil, h_cons, d_le, d_eq, d_not, d_var, d_lit, d_cel, d_leq, d_fn, d_and, d_iff, IE.den, LE.den, AL.den, lenV, true_and, and_true, pcholds1_8, pcholds1_6, pcholds1_4, pcholds1_2, pcholds1_1, pcholds1_0, hF, pi1, pi2, pi3, pi4, pl2, pb1, pb2, pb3, pb4, pb5, pb6, pl4, pl6] at hp
  obtain ⟨p1, p2, p3, p4, p5, p6, p7, p8, p9, p10, p11, p12, p13⟩ := hp
  refine (show (True) ∧ ((msH (ρ.z.rl 0).length ((ρ.i .i64 1000) + (1 : Int)).toNat 0 0 : Nat) < msH (ρ.z.rl 0).length (ρ.i .i64 1000).toNat 0 0) from ?_)
  refine ⟨trivial, ?_⟩
  unfold msH
  rw [bigK_is]
  omega
theorem vcholds1_7 : VC TTholds invholds msholds 1 tholds1 wholds1_7 := by
  intro ρ kn hi hp
  have hF : ρ.z.F = hold.Φ := kn.F
  simp only [h_nil, h_cons, d_le, d_eq, d_not, d_var, d_lit, d_cel, d_leq, d_fn, d_and, d_iff, IE.den, LE.den, AL.den, lenV, true_and, and_true, pcholds1_8, pcholds1_6, pcholds1_4, pcholds1_2, pcholds1_1, pcholds1_0, hF, pi1, pi2, pi3, pi4, pl2, pb1, pb2, pb3, pb4, pb5, pb6, pl4, pl6] at hp
  obtain ⟨p1, p2, p3, p4, p5, p6, p7, p8, p9, p10, p11⟩ := hp
  refine (show (True) ∧ ((msH (ρ.z.rl 0).length ((ρ.i .i64 1000) + (1 : Int)).toNat 0 0 : Nat) < msH (ρ.z.rl 0).length (ρ.i .i64 1000).toNat 0 0) from ?_)
  refine ⟨trivial, ?_⟩
  unfold msH
  rw [bigK_is]
  omega
theorem vcholds1_8 : VC TTholds invholds msholds 1 tholds1 wholds1_8 := by
  intro ρ kn hi hp
  have hF : ρ.z.F = hold.Φ := kn.F
  simp only [h_nil, h_cons, d_le, d_eq, d_not, d_var, d_lit, d_cel, d_leq, d_fn, d_and, d_iff, IE.den, LE.den, AL.den, lenV, true_and, and_true, pcholds1_6, pcholds1_4, pcholds1_2, pcholds1_1, pcholds1_0, hF, pi1, pi2, pi3, pi4, pl2, pb1, pb2, pb3, pb4, pb5, pb6, pl4, pl6] at hp
  obtain ⟨p1, p2, p3, p4, p5, p6, p7, p8, p9, p10⟩ := hp
  refine (show (True) ∧ ((msH (ρ.z.rl 0).length ((ρ.i .i64 1000) + (1 : Int)).toNat 0 0 : Nat) < msH (ρ.z.rl 0).length (ρ.i .i64 1000).toNat 0 0) from ?_)
  refine ⟨trivial, ?_⟩
  unfold msH
  rw [bigK_is]
  omega
theorem vcholds1_9 : VC TTholds invholds msholds 1 tholds1 wholds1_9 := by
  intro ρ kn hi hp
  have hF : ρ.z.F = hold.Φ := kn.F
  simp only [h_nil, h_cons, d_le, d_eq, d_not, d_var, d_lit, d_cel, d_leq, d_fn, d_and, d_iff, IE.den, LE.den, AL.den, lenV, true_and, and_true, pcholds1_4, pcholds1_2, pcholds1_1, pcholds1_0, hF, pi1, pi2, pi3, pi4, pl2, pb1, pb2, pb3, pb4, pb5, pb6, pl4, pl6] at hp
  obtain ⟨p1, p2, p3, p4, p5, p6, p7, p8, p9⟩ := hp
  refine (show (True) ∧ ((msH (ρ.z.rl 0).length ((ρ.i .i64 1000) + (1 : Int)).toNat 0 0 : Nat) < msH (ρ.z.rl 0).length (ρ.i .i64 1000).toNat 0 0) from ?_)
  refine ⟨trivial, ?_⟩
  unfold msH
  rw [bigK_is]
  omega
theorem vcholds1_10 : VC TTholds invholds msholds 1 tholds1 wholds1_10 := by
  intro ρ kn hi hp
  have hF : ρ.z.F = hold.Φ := kn.F
  simp only [h_nil, h_cons, d_le, d_eq, d_not, d_var, d_lit, d_cel, d_leq, d_fn, d_and, d_iff, IE.den, LE.den, AL.den, lenV, true_and, and_true, pcholds1_1, pcholds1_0, hF, pi1, pi2, pi3, pi4, pl2, pb1, pb2, pb3, pb4, pb5, pb6, pl4, pl6] at hp
  obtain ⟨p1, p2, p3, p4, p5, p6, p7, p8, p9⟩ := hp
  refine (show (True) ∧ ((msH (ρ.z.rl 0).length ((ρ.i .i64 1000) + (1 : Int)).toNat 0 0 : Nat) < msH (ρ.z.rl 0).length (ρ.i .i64 1000).toNat 0 0) from ?_)
  refine ⟨trivial, ?_⟩
  unfold msH
  rw [bigK_is]
  omega
theorem vcholds2_1 : VC TTholds invholds msholds 2 tholds2 wholds2_1 := by
  intro ρ kn hi hp
  have hF : ρ.z.F = hold.Φ := kn.F
  simp only [h_nil, h_cons, d_le, d_eq, d_not, d_var, d_lit, d_cel, d_leq, d_fn, d_and, d_iff, IE.den, LE.den, AL.den, lenV, true_and, and_true, pcholds2_12, pcholds2_11, pcholds2_10, pcholds2_7, pcholds2_4, pcholds2_2, pcholds2_1, pcholds2_0, hF, pi1, pi2, pi3, pi4, pl2, pb1, pb2, pb3, pb4, pb5, pb6, pl4, pl6] at hp
  obtain ⟨p1, p2, p3, p4, p5, p6, p7, p8, p9, p10, p11, p12, p13, p14, p15, p16, p17, p18, p19, p20, p21, p22, p23, p24, p25, p26, p27, p28⟩ := hp
  refine (show (True) ∧ ((msH (ρ.z.rl 0).length (ρ.i .i64 1003).toNat (0 : Int).toNat 1 : Nat) < msH (ρ.z.rl 0).length (ρ.i .i64 1003).toNat 0 0) from ?_)
  refine ⟨trivial, ?_⟩
  unfold msH
  rw [bigK_is]
  omega
theorem vcholds2_2 : VC TTholds invholds msholds 2 tholds2 wholds2_2 := by
  intro ρ kn hi hp
  have hF : ρ.z.F = hold.Φ := kn.F
  simp only [h_nil, h_cons, d_le, d_eq, d_not, d_var, d_lit, d_cel, d_leq, d_fn, d_and, d_iff, IE.den, LE.den, AL.den, lenV, true_and, and_true, pcholds2_13, pcholds2_12, pcholds2_11, pcholds2_10, pcholds2_7, pcholds2_4, pcholds2_2, pcholds2_1, pcholds2_0, hF, pi1, pi2, pi3, pi4, pl2, pb1, pb2, pb3, pb4, pb5, pb6, pl4, pl6] at hp
  obtain ⟨p1, p2, p3, p4, p5, p6, p7, p8, p9, p10, p11, p12, p13, p14, p15, p16, p17, p18, p19, p20, p21, p22, p23, p24, p25, p26, p27, p28, p29⟩ := hp
  refine (show (True) ∧ ((msH (ρ.z.rl 0).length (ρ.i .i64 1003).toNat (0 : Int).toNat 1 : Nat) < msH (ρ.z.rl 0).length (ρ.i .i64 1003).toNat 0 0) from ?_)
  refine ⟨trivial, ?_⟩
  unfold msH
  rw [bigK_is]
  omega
theorem vcholds2_3 : VC TTholds invholds msholds 2 tholds2 wholds2_3 := by
  intro ρ kn hi hp
  have hF : ρ.z.F = hold.Φ := kn.F
  simp only [h_nil, h_cons, d_le, d_eq, d_not, d_var, d_lit, d_cel, d_leq, d_fn, d_and, d_iff, IE.den, LE.den, AL.den, lenV, true_and, and_true, pcholds2_13, pcholds2_12, pcholds2_11, pcholds2_10, pcholds2_7, pcholds2_4, pcholds2_2, pcholds2_1, pcholds2_0, hF, pi1, pi2, pi3, pi4, pl2, pb1, pb2, pb3, pb4, pb5, pb6, pl4, pl6] at hp
  obtain ⟨p1, p2, p3, p4, p5, p6, p7, p8, p9, p10, p11, p12, p13, p14, p15, p16, p17, p18, p19, p20, p21, p22, p23, p24, p25, p26, p27, p28, p29⟩ := hp
  exfalso
  generalize insL _ _ _ = A at *
  have b : writeN A A.length ≤ A.length := first_le _ _
  have cW : clampK .i64 ((writeN A A.length : Nat) : Int) = ((writeN A A.length : Nat) : Int) := clampS (by omega) (by omega)
  simp only [cW] at *
  have hR : rightL A = true := by assumption
  have := writer_alone hR (by omega)
  omega
theorem vcholds2_4 : VC TTholds invholds msholds 2 tholds2 wholds2_4 := by
  intro ρ kn hi hp
  have hF : ρ.z.F = hold.Φ := kn.F
  simp only [h_nil, h_cons, d_le, d_eq, d_not, d_var, d_lit, d_cel, d_leq, d_fn, d_and, d_iff, IE.den, LE.den, AL.den, lenV, true_and, and_true, pcholds2_11, pcholds2_10, pcholds2_7, pcholds2_4, pcholds2_2, pcholds2_1, pcholds2_0, hF, pi1, pi2, pi3, pi4, pl2, pb1, pb2, pb3, pb4, pb5, pb6, pl4, pl6] at hp
  obtain ⟨p1, p2, p3, p4, p5, p6, p7, p8, p9, p10, p11, p12, p13, p14, p15, p16, p17⟩ := hp
  refine (show (True) ∧ ((msH (ρ.z.rl 0).length ((ρ.i .i64 1003) + (1 : Int)).toNat 0 0 : Nat) < msH (ρ.z.rl 0).length (ρ.i .i64 1003).toNat 0 0) from ?_)
  refine ⟨trivial, ?_⟩
  unfold msH
  rw [bigK_is]
  omega
theorem vcholds2_5 : VC TTholds invholds msholds 2 tholds2 wholds2_5 := by
  intro ρ kn hi hp
  have hF : ρ.z.F = hold.Φ := kn.F
  simp only [h_nil, h_cons, d_le, d_eq, d_not, d_var, d_lit, d_cel, d_leq, d_fn, d_and, d_iff, IE.den, LE.den, AL.den, lenV, true_and, and_true, pcholds2_10, pcholds2_7, pcholds2_4, pcholds2_2, pcholds2_1, pcholds2_0, hF, pi1, pi2, pi3, pi4, pl2, pb1, pb2, pb3, pb4, pb5, pb6, pl4, pl6] at hp
  obtain ⟨p1, p2, p3, p4, p5, p6, p7, p8, p9, p10, p11, p12, p13, p14, p15, p16⟩ := hp
  refine (show (True) ∧ ((msH (ρ.z.rl 0).length ((ρ.i .i64 1003) + (1 : Int)).toNat 0 0 : Nat) < msH (ρ.z.rl 0).length (ρ.i .i64 1003).toNat 0 0) from ?_)
  refine ⟨trivial, ?_⟩
  unfold msH
  rw [bigK_is]
  omega
theorem vcholds2_6 : VC TTholds invholds msholds 2 tholds2 wholds2_6 := by
  intro ρ kn hi hp
  have hF : ρ.z.F = hold.Φ := kn.F
  simp only [h_nil, h_cons, d_le, d_eq, d_not, d_var, d_lit, d_cel, d_leq, d_fn, d_and, d_iff, IE.den, LE.den, AL.den, lenV, true_and, and_true, pcholds2_7, pcholds2_4, pcholds2_2, pcholds2_1, pcholds2_0, hF, pi1, pi2, pi3, pi4, pl2, pb1, pb2, pb3, pb4, pb5, pb6, pl4, pl6] at hp
  obtain ⟨p1, p2, p3, p4, p5, p6, p7, p8, p9, p10, p11, p12, p13⟩ := hp
  refine (show (True) ∧ ((msH (ρ.z.rl 0).length ((ρ.i .i64 1003) + (1 : Int)).toNat 0 0 : Nat) < msH (ρ.z.rl 0).length (ρ.i .i64 1003).toNat 0 0) from ?_)
  refine ⟨trivial, ?_⟩
  unfold msH
  rw [bigK_is]
  omega
theorem vcholds2_7 : VC TTholds invholds msholds 2 tholds2 wholds2_7 := by
  intro ρ kn hi hp
  have hF : ρ.z.F = hold.Φ := kn.F
  simp only [h_nil, h_cons, d_le, d_eq, d_not, d_var, d_lit, d_cel, d_leq, d_fn, d_and, d_iff, IE.den, LE.den, AL.den, lenV, true_and, and_true, pcholds2_4, pcholds2_2, pcholds2_1, pcholds2_0, hF, pi1, pi2, pi3, pi4, pl2, pb1, pb2, pb3, pb4, pb5, pb6, pl4, pl6] at hp
  obtain ⟨p1, p2, p3, p4, p5, p6, p7, p8, p9, p10, p11, p12⟩ := hp
  refine (show (True) ∧ ((msH (ρ.z.rl 0).length ((ρ.i .i64 1003) + (1 : Int)).toNat 0 0 : Nat) < msH (ρ.z.rl 0).length (ρ.i .i64 1003).toNat 0 0) from ?_)
  refine ⟨trivial, ?_⟩
  unfold msH
  rw [bigK_is]
  omega
theorem vcholds2_8 : VC TTholds invholds msholds 2 tholds2 wholds2_8 := by
  intro ρ kn hi hp
  have hF : ρ.z.F = hold.Φ := kn.F
  simp only [h_nil, h_cons, d_le, d_eq, d_not, d_var, d_lit, d_cel, d_leq, d_fn, d_and, d_iff, IE.den, LE.den, AL.den, lenV, true_and, and_true, pcholds2_2, pcholds2_1, pcholds2_0, hF, pi1, pi2, pi3, pi4, pl2, pb1, pb2, pb3, pb4, pb5, pb6, pl4, pl6] at hp
  obtain ⟨p1, p2, p3, p4, p5, p6, p7, p8, p9, p10, p11⟩ := hp
  refine (show (True) ∧ ((msH (ρ.z.rl 0).length ((ρ.i .i64 1003) + (1 : Int)).toNat 0 0 : Nat) < msH (ρ.z.rl 0).length (ρ.i .i64 1003).toNat 0 0) from ?_)
  refine ⟨trivial, ?_⟩
  unfold msH
  rw [bigK_is]
  omega
theorem vcholds2_9 : VC TTholds invholds msholds 2 tholds2 wholds2_9 := by
  intro ρ kn hi hp
  have hF : ρ.z.F = hold.Φ := kn.F
  simp only [h_nil, h_cons, d_le, d_eq, d_not, d_var, d_lit, d_cel, d_leq, d_fn, d_and, d_iff, IE.den, LE.den, AL.den, lenV, true_and, and_true, pcholds2_5, pcholds2_3, pcholds2_1, pcholds2_0, hF, pi1, pi2, pi3, pi4, pl2, pb1, pb2, pb3, pb4, pb5, pb6, pl4, pl6] at hp
  obtain ⟨p1, p2, p3, p4, p5, p6, p7, p8, p9, p10, p11, p12, p13, p14⟩ := hp
  refine (show (True) ∧ ((msH (ρ.z.rl 0).length ((ρ.i .i64 1003) + (1 : Int)).toNat 0 0 : Nat) < msH (ρ.z.rl 0).length (ρ.i .i64 1003).toNat 0 0) from ?_)
  refine ⟨trivial, ?_⟩
  unfold msH
  rw [bigK_is]
  omega
theorem vcholds2_10 : VC TTholds invholds msholds 2 tholds2 wholds2_10 := by
  intro ρ kn hi hp
  have hF : ρ.z.F = hold.Φ := kn.F
  simp only [h_nil, h_cons, d_le, d_eq, d_not, d_var, d_lit, d_cel, d_leq, d_fn, d_and, d_iff, IE.den, LE.den, AL.den, lenV, true_and, and_true, pcholds2_8, pcholds2_5, pcholds2_3, pcholds2_1, pcholds2_0, hF, pi1, pi2, pi3, pi4, pl2, pb1, pb2, pb3, pb4, pb5, pb6, pl4, pl6] at hp
  obtain ⟨p1, p2, p3, p4, p5, p6, p7, p8, p9, p10, p11, p12, p13, p14, p15, p16⟩ := hp
  refine (show (True) ∧ ((msH (ρ.z.rl 0).length ((ρ.i .i64 1003) + (1 : Int)).toNat 0 0 : Nat) < msH (ρ.z.rl 0).length (ρ.i .i64 1003).toNat 0 0) from ?_)
  refine ⟨trivial, ?_⟩
  unfold msH
  rw [bigK_is]
  omega
theorem vcholds2_11 : VC TTholds invholds msholds 2 tholds2 wholds2_11 := by
  intro ρ kn hi hp
  have hF : ρ.z.F = hold.Φ := kn.F
  simp only [h_nil, h_cons, d_le, d_eq, d_not, d_var, d_lit, d_cel, d_leq, d_fn, d_and, d_iff, IE.den, LE.den, AL.den, lenV, true_and, and_true, pcholds2_8, pcholds2_5, pcholds2_3, pcholds2_1, pcholds2_0, hF, pi1, pi2, pi3, pi4, pl2, pb1, pb2, pb3, pb4, pb5, pb6, pl4, pl6] at hp
  obtain ⟨p1, p2, p3, p4, p5, p6, p7, p8, p9, p10, p11, p12, p13, p14, p15⟩ := hp
  refine (show (True) ∧ ((msH (ρ.z.rl 0).length ((ρ.i .i64 1003) + (1 : Int)).toNat 0 0 : Nat) < msH (ρ.z.rl 0).length (ρ.i .i64 1003).toNat 0 0) from ?_)
  refine ⟨trivial, ?_⟩
  unfold msH
  rw [bigK_is]
  omega
theorem vcholds2_12 : VC TTholds invholds msholds 2 tholds2 wholds2_12 := by
  intro ρ kn hi hp
  have hF : ρ.z.F = hold.Φ := kn.F
  simp only [h_nil, h_cons, d_le, d_eq, d_not, d_var, d_lit, d_cel, d_leq, d_fn, d_and, d_iff, IE.den, LE.den, AL.den, lenV, true_and, and_true, pcholds2_6, pcholds2_3, pcholds2_1, pcholds2_0, hF, pi1, pi2, pi3, pi4, pl2, pb1, pb2, pb3, pb4, pb5, pb6, pl4, pl6] at hp
  obtain ⟨p1, p2, p3, p4, p5, p6, p7, p8, p9, p10, p11, p12, p13, p14⟩ := hp
  refine (show (True) ∧ ((msH (ρ.z.rl 0).length ((ρ.i .i64 1003) + (1 : Int)).toNat 0 0 : Nat) < msH (ρ.z.rl 0).length (ρ.i .i64 1003).toNat 0 0) from ?_)
  refine ⟨trivial, ?_⟩
  unfold msH
  rw [bigK_is]
  omega
theorem vcholds2_13 : VC TTholds invholds msholds 2 tholds2 wholds2_13 := by
  intro ρ kn hi hp
  have hF : ρ.z.F = hold.Φ := kn.F
  simp only [h_nil, h_cons, d_le, d_eq, d_not, d_var, d_lit, d_cel, d_leq, d_fn, d_and, d_iff, IE.den, LE.den, AL.den, lenV, true_and, and_true, pcholds2_9, pcholds2_6, pcholds2_3, pcholds2_1, pcholds2_0, hF, pi1, pi2, pi3, pi4, pl2, pb1, pb2, pb3, pb4, pb5, pb6, pl4, pl6] at hp
  obtain ⟨p1, p2, p3, p4, p5, p6, p7, p8, p9, p10, p11, p12, p13⟩ := hp
  refine (show (True) ∧ ((msH (ρ.z.rl 0).length ((ρ.i .i64 1003) + (1 : Int)).toNat 0 0 : Nat) < msH (ρ.z.rl 0).length (ρ.i .i64 1003).toNat 0 0) from ?_)
  refine ⟨trivial, ?_⟩
  unfold msH
  rw [bigK_is]
  omega
theorem vcholds2_14 : VC TTholds invholds msholds 2 tholds2 wholds2_14 := by
  intro ρ kn hi hp
  have hF : ρ.z.F = hold.Φ := kn.F
  simp only [h_nil, h_cons, d_le, d_eq, d_not, d_var, d_lit, d_cel, d_leq, d_fn, d_and, d_iff, IE.den, LE.den, AL.den, lenV, true_and, and_true, pcholds2_9, pcholds2_6, pcholds2_3, pcholds2_1, pcholds2_0, hF, pi1, pi2, pi3, pi4, pl2, pb1, pb2, pb3, pb4, pb5, pb6, pl4, pl6] at hp
  obtain ⟨p1, p2, p3, p4, p5, p6, p7, p8, p9, p10, p11, p12, p13, p14, p15⟩ := hp
  refine (show (True) ∧ ((msH (ρ.z.rl 0).length ((ρ.i .i64 1003) + (1 : Int)).toNat 0 0 : Nat) < msH (ρ.z.rl 0).length (ρ.i .i64 1003).toNat 0 0) from ?_)
  refine ⟨trivial, ?_⟩
  unfold msH
  rw [bigK_is]
  omega
theorem vcholds3_0 : VC TTholds invholds msholds 3 tholds3 wholds3_0 := by
  intro ρ kn hi hp
  have hF : ρ.z.F = hold.Φ := kn.F
  simp only [h_nil, h_cons, d_le, d_eq, d_not, d_var, d_lit, d_cel, d_leq, d_fn, d_and, d_iff, IE.den, LE.den, AL.den, lenV, true_and, and_true, pcholds3_0, hF, pi1, pi2, pi3, pi4, pl2, pb1, pb2, pb3, pb4, pb5, pb6, pl4, pl6] at hp
  obtain ⟨p1, p2, p3, p4, p5, p6, p7, p8, p9, p10, p11⟩ := hp
  refine (show (True) ∧ ((msH (ρ.z.rl 0).length ((ρ.i .i64 1000) + (1 : Int)).toNat 0 0 : Nat) < msH (ρ.z.rl 0).length (ρ.i .i64 1000).toNat (ρ.i .i64 1003).toNat 1) from ?_)
  refine ⟨trivial, ?_⟩
  unfold msH
  rw [bigK_is]
  omega
theorem vcholds3_1 : VC TTholds invholds msholds 3 tholds3 wholds3_1 := by
  intro ρ kn hi hp
  have hF : ρ.z.F = hold.Φ := kn.F
  simp only [h_nil, h_cons, d_le, d_eq, d_not, d_var, d_lit, d_cel, d_leq, d_fn, d_and, d_iff, IE.den, LE.den, AL.den, lenV, true_and, and_true, pcholds3_0, hF, pi1, pi2, pi3, pi4, pl2, pb1, pb2, pb3, pb4, pb5, pb6, pl4, pl6] at hp
  obtain ⟨p1, p2, p3, p4, p5, p6, p7, p8, p9, p10, p11⟩ := hp
  refine (show (True) ∧ ((msH (ρ.z.rl 0).length (ρ.i .i64 1000).toNat (ρ.i .i64 1003).toNat (2 + (0 : Int).toNat) : Nat) < msH (ρ.z.rl 0).length (ρ.i .i64 1000).toNat (ρ.i .i64 1003).toNat 1) from ?_)
  refine ⟨trivial, ?_⟩
  unfold msH
  rw [bigK_is]
  omega
theorem vcholds4_0 : VC TTholds invholds msholds 4 tholds4 wholds4_0 := by
  intro ρ kn hi hp
  have hF : ρ.z.F = hold.Φ := kn.F
  simp only [h_nil, h_cons, d_le, d_eq, d_not, d_var, d_lit, d_cel, d_leq, d_fn, d_and, d_iff, IE.den, LE.den, AL.den, lenV, true_and, and_true, pcholds4_0, hF, pi1, pi2, pi3, pi4, pl2, pb1, pb2, pb3, pb4, pb5, pb6, pl4, pl6] at hp
  obtain ⟨p1, p2, p3, p4, p5, p6, p7, p8, p9, p10, p11, p12, p13⟩ := hp
  refine (show (True) ∧ ((msH (ρ.z.rl 0).length (ρ.i .i64 1000).toNat ((ρ.i .i64 1003) + (1 : Int)).toNat 1 : Nat) < msH (ρ.z.rl 0).length (ρ.i .i64 1000).toNat (ρ.i .i64 1003).toNat (2 + (ρ.i .i64 1004).toNat)) from ?_)
  refine ⟨trivial, ?_⟩
  unfold msH
  rw [bigK_is]
  omega
theorem vcholds4_1 : VC TTholds invholds msholds 4 tholds4 wholds4_1 := by
  intro ρ kn hi hp
  have hF : ρ.z.F = hold.Φ := kn.F
  simp only [h_nil, h_cons, d_le, d_eq, d_not, d_var, d_lit, d_cel, d_leq, d_fn, d_and, d_iff, IE.den, LE.den, AL.den, lenV, true_and, and_true, pcholds4_1, pcholds4_0, hF, pi1, pi2, pi3, pi4, pl2, pb1, pb2, pb3, pb4, pb5, pb6, pl4, pl6] at hp
  obtain ⟨p1, p2, p3, p4, p5, p6, p7, p8, p9, p10, p11, p12, p13, p14⟩ := hp
  refine (show (True) ∧ ((msH (ρ.z.rl 0).length (ρ.i .i64 1000).toNat (ρ.i .i64 1003).toNat (2 + ((ρ.i .i64 1004) + (1 : Int)).toNat) : Nat) < msH (ρ.z.rl 0).length (ρ.i .i64 1000).toNat (ρ.i .i64 1003).toNat (2 + (ρ.i .i64 1004).toNat)) from ?_)
  refine ⟨trivial, ?_⟩
  unfold msH
  rw [bigK_is]
  omega
theorem vcholds4_2 : VC TTholds invholds msholds 4 tholds4 wholds4_2 := by
  intro ρ kn hi hp
  have hF : ρ.z.F = hold.Φ := kn.F
  simp only [h_nil, h_cons, d_le, d_eq, d_not, d_var, d_lit, d_cel, d_leq, d_fn, d_and, d_iff, IE.den, LE.den, AL.den, lenV, true_and, and_true, pcholds4_1, pcholds4_0, hF, pi1, pi2, pi3, pi4, pl2, pb1, pb2, pb3, pb4, pb5, pb6, pl4, pl6] at hp
  obtain ⟨p1, p2, p3, p4, p5, p6, p7, p8, p9, p10, p11, p12, p13, p14⟩ := hp
  exfalso
  have hR : rightL (ρ.l 1002) = true := by assumption
  have := tog_at (l := ρ.l 1002) (j := 2) (i := (ρ.i .i64 1003).toNat) (k := (ρ.i .i64 1004).toNat) (n := (ρ.l 1002).length) (by omega) (by omega) (right_ris hR).2
  rw [← at_z (by omega), ← at_z (by omega)] at this
  exact p1 this
theorem vcsholds0 : ∀ v ∈ vwholds 0, VC TTholds invholds msholds 0 (startF 13 cHolds.pat (.lit true :: cHolds.pre)) v := all_cons vcholds0_0 (all_cons (fun _ _ _ _ => all_nil) (all_nil))
theorem okholds0 : cfgOk (startF 13 cHolds.pat (.lit true :: cHolds.pre)) = true := by kernel_rfl
theorem sgholds0 : segL cHolds.roms cHolds (seg TTholds selholds 9000 tmholds (startF 13 cHolds.pat (.lit true :: cHolds.pre))) = (true, codesR tmholds (views (seg TTholds selholds 9000 tmholds (startF 13 cHolds.pat (.lit true :: cHolds.pre)))), vwholds 0) := by kernel_rfl
theorem vcsholds1 : ∀ v ∈ vwholds 1, VC TTholds invholds msholds 1 tholds1 v := all_cons (fun _ _ _ _ => all_nil) (all_cons vcholds1_1 (all_cons vcholds1_2 (all_cons vcholds1_3 (all_cons vcholds1_4 (all_cons vcholds1_5 (all_cons vcholds1_6 (all_cons vcholds1_7 (all_cons vcholds1_8 (all_cons vcholds1_9 (all_cons vcholds1_10 (all_nil)))))))))))
theorem okholds1 : cfgOk tholds1 = true := by kernel_rfl
theorem sgholds1 : segL cHolds.roms cHolds (seg TTholds selholds 9000 tmholds tholds1) = (true, codesR tmholds (views (seg TTholds selholds 9000 tmholds tholds1)), vwholds 1) := by kernel_rfl
theorem vcsholds2 : ∀ v ∈ vwholds 2, VC TTholds invholds msholds 2 tholds2 v := all_cons (fun _ _ _ _ => all_nil) (all_cons vcholds2_1 (all_cons vcholds2_2 (all_cons vcholds2_3 (all_cons vcholds2_4 (all_cons vcholds2_5 (all_cons vcholds2_6 (all_cons vcholds2_7 (all_cons vcholds2_8 (all_cons vcholds2_9 (all_cons vcholds2_10 (all_cons vcholds2_11 (all_cons vcholds2_12 (all_cons vcholds2_13 (all_cons vcholds2_14 (all_nil)))))))))))))))
theorem okholds2 : cfgOk tholds2 = true := by kernel_rfl
theorem sgholds2 : segL cHolds.roms cHolds (seg TTholds selholds 9000 tmholds tholds2) = (true, codesR tmholds (views (seg TTholds selholds 9000 tmholds tholds2)), vwholds 2) := by kernel_rfl
theorem vcsholds3 : ∀ v ∈ vwholds 3, VC TTholds invholds msholds 3 tholds3 v := all_cons vcholds3_0 (all_cons vcholds3_1 (all_nil))
theorem okholds3 : cfgOk tholds3 = true := by kernel_rfl
theorem sgholds3 : segL cHolds.roms cHolds (seg TTholds selholds 9000 tmholds tholds3) = (true, codesR tmholds (views (seg TTholds selholds 9000 tmholds tholds3)), vwholds 3) := by kernel_rfl
theorem vcsholds4 : ∀ v ∈ vwholds 4, VC TTholds invholds msholds 4 tholds4 v := all_cons vcholds4_0 (all_cons vcholds4_1 (all_cons vcholds4_2 (all_nil)))
theorem okholds4 : cfgOk tholds4 = true := by kernel_rfl
theorem sgholds4 : segL cHolds.roms cHolds (seg TTholds selholds 9000 tmholds tholds4) = (true, codesR tmholds (views (seg TTholds selholds 9000 tmholds tholds4)), vwholds 4) := by kernel_rfl
theorem lnholds0 : ∀ ρ, Known TTholds (startF 13 cHolds.pat (.lit true :: cHolds.pre)) ρ → invholds 0 ρ.lt → Holds ρ (leanOf (Cfg.pc (startF 13 cHolds.pat (.lit true :: cHolds.pre)))) := by
  intro ρ _ _
  exact (show Holds ρ [] from fun p hp => by cases hp)
theorem lnholds1 : ∀ ρ, Known TTholds tholds1 ρ → invholds 1 ρ.lt → Holds ρ (leanOf (Cfg.pc tholds1)) := by
  intro ρ _ _
  exact (show Holds ρ [] from fun p hp => by cases hp)
theorem lnholds2 : ∀ ρ, Known TTholds tholds2 ρ → invholds 2 ρ.lt → Holds ρ (leanOf (Cfg.pc tholds2)) := by
  intro ρ _ _
  exact (show Holds ρ [] from fun p hp => by cases hp)
theorem lnholds3 : ∀ ρ, Known TTholds tholds3 ρ → invholds 3 ρ.lt → Holds ρ (leanOf (Cfg.pc tholds3)) := by
  intro ρ _ _
  exact (show Holds ρ [] from fun p hp => by cases hp)
theorem lnholds4 : ∀ ρ, Known TTholds tholds4 ρ → invholds 4 ρ.lt → Holds ρ (leanOf (Cfg.pc tholds4)) := by
  intro ρ _ _
  exact (show Holds ρ [] from fun p hp => by cases hp)
theorem told_holds : Sx.Told hold.Φ cHolds := by
  refine told_of (cs := [cWorks, cAddG, cAddN, cEndF, cEnd1, cRightP, cRightR, cAt, cRF0, cRFin, cRFout, cFits, cRFits, cSame, cMayM, cRightM, cWrites, cFits03]) (all_cons told_works (all_cons told_addG (all_cons told_addN (all_cons told_endF (all_cons told_end1 (all_cons told_rightP (all_cons told_rightR (all_cons told_at (all_cons told_rf0 (all_cons told_rfin (all_cons told_rfout (all_cons told_fits (all_cons told_rfits (all_cons told_same (all_cons told_mayM (all_cons told_rightM (all_cons told_wri (all_cons told_fits03 (all_nil))))))))))))))))))) (sel := selholds) 9000 tmholds invholds msholds vwholds 0 (pc0 := (.lit true :: cHolds.pre)) (by kernel_rfl) (by kernel_rfl) (by kernel_rfl) (post_nil rfl) ?_ ?_ ?_ rfl (fun ρ _ h => h.cons (p := .lit true) (by simp only [BE.den])) (fun _ _ _ _ => trivial) ?_
  · intro k C h
    have := lk_mem h
    simp only [tmholds, List.mem_cons, Prod.mk.injEq, List.not_mem_nil, or_false] at this
    rcases this with ⟨rfl, rfl⟩ | ⟨rfl, rfl⟩ | ⟨rfl, rfl⟩ | ⟨rfl, rfl⟩ | ⟨rfl, rfl⟩
    · exact okholds0
    · exact okholds1
    · exact okholds2
    · exact okholds3
    · exact okholds4
  · intro k C h
    have := lk_mem h
    simp only [tmholds, List.mem_cons, Prod.mk.injEq, List.not_mem_nil, or_false] at this
    rcases this with ⟨rfl, rfl⟩ | ⟨rfl, rfl⟩ | ⟨rfl, rfl⟩ | ⟨rfl, rfl⟩ | ⟨rfl, rfl⟩
    · exact sgholds0
    · exact sgholds1
    · exact sgholds2
    · exact sgholds3
    · exact sgholds4
  · intro k C h
    have := lk_mem h
    simp only [tmholds, List.mem_cons, Prod.mk.injEq, List.not_mem_nil, or_false] at this
    rcases this with ⟨rfl, rfl⟩ | ⟨rfl, rfl⟩ | ⟨rfl, rfl⟩ | ⟨rfl, rfl⟩ | ⟨rfl, rfl⟩
    · exact vcsholds0
    · exact vcsholds1
    · exact vcsholds2
    · exact vcsholds3
    · exact vcsholds4
  · intro k C h
    have := lk_mem h
    simp only [tmholds, List.mem_cons, Prod.mk.injEq, List.not_mem_nil, or_false] at this
    rcases this with ⟨rfl, rfl⟩ | ⟨rfl, rfl⟩ | ⟨rfl, rfl⟩ | ⟨rfl, rfl⟩ | ⟨rfl, rfl⟩
    · exact lnholds0
    · exact lnholds1
    · exact lnholds2
    · exact lnholds3
    · exact lnholds4
theorem told_holdsz : Sx.Told hold.Φ cHolds0 := told_auto (cs := [cWorks, cAddG, cAddN, cEndF, cEnd1, cRightP, cRightR, cAt, cRF0, cRFin, cRFout, cFits, cRFits, cSame, cMayM, cRightM, cWrites, cFits03]) (all_cons told_works (all_cons told_addG (all_cons told_addN (all_cons told_endF (all_cons told_end1 (all_cons told_rightP (all_cons told_rightR (all_cons told_at (all_cons told_rf0 (all_cons told_rfin (all_cons told_rfout (all_cons told_fits (all_cons told_rfits (all_cons told_same (all_cons told_mayM (all_cons told_rightM (all_cons told_wri (all_cons told_fits03 (all_nil))))))))))))))))))) 9000 (by kernel_rfl) (by kernel_rfl) (by kernel_rfl) (post_nil rfl) (by kernel_rfl) (by kernel_rfl)
end Go.Proofs.YteblnjgghbclpaaDoor.hold
