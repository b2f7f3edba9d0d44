/- Layer hold: together. No condition. -/
import Derived.Test.YteblnjgghbclpaaDoorHd
set_option linter.unusedVariables false
set_option linter.unusedSimpArgs false
set_option linter.deprecated false
namespace Go.Proofs.YteblnjgghbclpaaDoor.hold
open Go Go.Proofs.YteblnjgghbclpaaDoor.Sx
noncomputable section
abbrev TTtogF : Tab := T hold.Φ cTogF.roms [cModesR, cCnt]
def ttogF1 : Cfg := { top := ⟨101, over (opqS 10000 52) [(4, (SV.ptr 0 0)), (5, (SV.int .i64 (IE.var .i64 1000))), (13, (SV.int .i64 (IE.var .i64 1000))), (17, (SV.int .i64 (IE.var .i64 1001))), (18, (SV.int .i64 (IE.var .i64 1002)))], ogt (loopTodo (bodyOf (T hold.Φ [] []) 101) 1), [], false, none⟩, rest := [], heap := [(0, .cells [(SV.int .i64 (IE.fn .i64 1 (AL.lst (LE.rom 0) (AL.int .i64 (IE.lit 0) AL.nil)))), (SV.int .i64 (IE.fn .i64 1 (AL.lst (LE.rom 0) (AL.int .i64 (IE.lit 1) AL.nil)))), (SV.int .i64 (IE.fn .i64 1 (AL.lst (LE.rom 0) (AL.int .i64 (IE.lit 2) AL.nil)))), (SV.int .i64 (IE.fn .i64 1 (AL.lst (LE.rom 0) (AL.int .i64 (IE.lit 3) AL.nil)))), (SV.int .i64 (IE.fn .i64 1 (AL.lst (LE.rom 0) (AL.int .i64 (IE.lit 4) AL.nil)))), (SV.int .i64 (IE.fn .i64 1 (AL.lst (LE.rom 0) (AL.int .i64 (IE.lit 5) AL.nil))))] 159)], next := 1, pc := .lit true :: ([.le (.lit 0) (.var .i64 1000), .le (.var .i64 1000) (.lit 5), .eq (.var .i64 1001) (.add (.var .i64 1000) (.lit 1)), .le (.lit 0) (.var .i64 1002), .le (.var .i64 1002) (.var .i64 1001)] ++ [(BE.le (IE.len (LE.rom 0)) (IE.lit 1000000)), (BE.fn 6 (AL.lst (LE.rom 0) AL.nil))]) }
def tmtogF : List (Nat × Cfg) := [(0, startF 101 cTogF.pat (.lit true :: cTogF.pre)), (1, ttogF1)]
def seltogF : Sel := [(101, 2, 0, 1)]
def pctogF0_0 : List BE := [(BE.lit true), (BE.le (IE.len (LE.rom 0)) (IE.lit 1000000))]
def wtogF0_0 : VW := (VW.cut 1 ((BE.fn 6 (AL.lst (LE.rom 0) AL.nil)) :: pctogF0_0) (Sx.Sub.mk [(.i64, (1002, (IE.lit 0))), (.i64, (1001, (IE.lit 1))), (.i64, (1000, (IE.lit 0)))] [] [] [] [] []))
def wtogF0_1 : VW := (VW.done ((BE.not (BE.fn 6 (AL.lst (LE.rom 0) AL.nil))) :: pctogF0_0) (some [(G.i (IE.ite (BE.fn 6 (AL.lst (LE.rom 0) AL.nil)) (IE.lit 0) (IE.lit 130)) (IE.lit 130))]))
def vwtogF0 : List VW := [wtogF0_0, wtogF0_1]
def pctogF1_0 : List BE := [(BE.lit true), (BE.le (IE.lit 0) (IE.var .i64 1000)), (BE.le (IE.var .i64 1000) (IE.lit 5)), (BE.eq (IE.var .i64 1001) (IE.add (IE.var .i64 1000) (IE.lit 1))), (BE.le (IE.lit 0) (IE.var .i64 1002)), (BE.le (IE.var .i64 1002) (IE.var .i64 1001)), (BE.le (IE.len (LE.rom 0)) (IE.lit 1000000)), (BE.fn 6 (AL.lst (LE.rom 0) AL.nil))]
def pctogF1_1 : List BE := ((BE.le (IE.var .i64 1001) (IE.var .i64 1002)) :: pctogF1_0)
def pctogF1_2 : List BE := ((BE.not (BE.le (IE.var .i64 1001) (IE.var .i64 1002))) :: pctogF1_0)
def pctogF1_3 : List BE := ((BE.le (IE.var .i64 1000) (IE.lit 0)) :: pctogF1_2)
def pctogF1_4 : List BE := ((BE.not (BE.le (IE.var .i64 1000) (IE.lit 0))) :: pctogF1_2)
def pctogF1_5 : List BE := ((BE.not (BE.le (IE.fn .i64 1 (AL.lst (LE.rom 0) (AL.int .i64 (IE.lit 0) AL.nil))) (IE.lit 0))) :: pctogF1_3)
def pctogF1_6 : List BE := ((BE.le (IE.var .i64 1000) (IE.lit 1)) :: pctogF1_4)
def pctogF1_7 : List BE := ((BE.not (BE.le (IE.var .i64 1000) (IE.lit 1))) :: pctogF1_4)
def pctogF1_8 : List BE := ((BE.not (BE.le (IE.fn .i64 1 (AL.lst (LE.rom 0) (AL.int .i64 (IE.lit 1) AL.nil))) (IE.lit 0))) :: pctogF1_6)
def pctogF1_9 : List BE := ((BE.le (IE.var .i64 1000) (IE.lit 2)) :: pctogF1_7)
def pctogF1_10 : List BE := ((BE.not (BE.le (IE.var .i64 1000) (IE.lit 2))) :: pctogF1_7)
def pctogF1_11 : List BE := ((BE.le (IE.var .i64 1002) (IE.lit 0)) :: pctogF1_8)
def pctogF1_12 : List BE := ((BE.not (BE.le (IE.var .i64 1002) (IE.lit 0))) :: pctogF1_8)
def pctogF1_13 : List BE := ((BE.not (BE.le (IE.fn .i64 1 (AL.lst (LE.rom 0) (AL.int .i64 (IE.lit 2) AL.nil))) (IE.lit 0))) :: pctogF1_9)
def pctogF1_14 : List BE := ((BE.le (IE.var .i64 1000) (IE.lit 3)) :: pctogF1_10)
def pctogF1_15 : List BE := ((BE.not (BE.le (IE.var .i64 1000) (IE.lit 3))) :: pctogF1_10)
def pctogF1_16 : List BE := ((BE.le (IE.var .i64 1002) (IE.lit 0)) :: pctogF1_13)
def pctogF1_17 : List BE := ((BE.not (BE.le (IE.var .i64 1002) (IE.lit 0))) :: pctogF1_13)
def pctogF1_18 : List BE := ((BE.not (BE.le (IE.fn .i64 1 (AL.lst (LE.rom 0) (AL.int .i64 (IE.lit 3) AL.nil))) (IE.lit 0))) :: pctogF1_14)
def pctogF1_19 : List BE := ((BE.le (IE.var .i64 1000) (IE.lit 4)) :: pctogF1_15)
def pctogF1_20 : List BE := ((BE.not (BE.le (IE.var .i64 1000) (IE.lit 4))) :: pctogF1_15)
def pctogF1_21 : List BE := ((BE.le (IE.var .i64 1002) (IE.lit 1)) :: pctogF1_17)
def pctogF1_22 : List BE := ((BE.not (BE.le (IE.var .i64 1002) (IE.lit 1))) :: pctogF1_17)
def pctogF1_23 : List BE := ((BE.le (IE.var .i64 1002) (IE.lit 0)) :: pctogF1_18)
def pctogF1_24 : List BE := ((BE.not (BE.le (IE.var .i64 1002) (IE.lit 0))) :: pctogF1_18)
def pctogF1_25 : List BE := ((BE.not (BE.le (IE.fn .i64 1 (AL.lst (LE.rom 0) (AL.int .i64 (IE.lit 4) AL.nil))) (IE.lit 0))) :: pctogF1_19)
def pctogF1_26 : List BE := ((BE.not (BE.le (IE.fn .i64 1 (AL.lst (LE.rom 0) (AL.int .i64 (IE.lit 5) AL.nil))) (IE.lit 0))) :: pctogF1_20)
def pctogF1_27 : List BE := ((BE.le (IE.var .i64 1002) (IE.lit 1)) :: pctogF1_24)
def pctogF1_28 : List BE := ((BE.not (BE.le (IE.var .i64 1002) (IE.lit 1))) :: pctogF1_24)
def pctogF1_29 : List BE := ((BE.le (IE.var .i64 1002) (IE.lit 0)) :: pctogF1_25)
def pctogF1_30 : List BE := ((BE.not (BE.le (IE.var .i64 1002) (IE.lit 0))) :: pctogF1_25)
def pctogF1_31 : List BE := ((BE.le (IE.var .i64 1002) (IE.lit 0)) :: pctogF1_26)
def pctogF1_32 : List BE := ((BE.not (BE.le (IE.var .i64 1002) (IE.lit 0))) :: pctogF1_26)
def pctogF1_33 : List BE := ((BE.le (IE.var .i64 1002) (IE.lit 2)) :: pctogF1_28)
def pctogF1_34 : List BE := ((BE.not (BE.le (IE.var .i64 1002) (IE.lit 2))) :: pctogF1_28)
def pctogF1_35 : List BE := ((BE.le (IE.var .i64 1002) (IE.lit 1)) :: pctogF1_30)
def pctogF1_36 : List BE := ((BE.not (BE.le (IE.var .i64 1002) (IE.lit 1))) :: pctogF1_30)
def pctogF1_37 : List BE := ((BE.le (IE.var .i64 1002) (IE.lit 1)) :: pctogF1_32)
def pctogF1_38 : List BE := ((BE.not (BE.le (IE.var .i64 1002) (IE.lit 1))) :: pctogF1_32)
def pctogF1_39 : List BE := ((BE.le (IE.var .i64 1002) (IE.lit 2)) :: pctogF1_36)
def pctogF1_40 : List BE := ((BE.not (BE.le (IE.var .i64 1002) (IE.lit 2))) :: pctogF1_36)
def pctogF1_41 : List BE := ((BE.le (IE.var .i64 1002) (IE.lit 2)) :: pctogF1_38)
def pctogF1_42 : List BE := ((BE.not (BE.le (IE.var .i64 1002) (IE.lit 2))) :: pctogF1_38)
def pctogF1_43 : List BE := ((BE.le (IE.var .i64 1002) (IE.lit 3)) :: pctogF1_40)
def pctogF1_44 : List BE := ((BE.not (BE.le (IE.var .i64 1002) (IE.lit 3))) :: pctogF1_40)
def pctogF1_45 : List BE := ((BE.le (IE.var .i64 1002) (IE.lit 3)) :: pctogF1_42)
def pctogF1_46 : List BE := ((BE.not (BE.le (IE.var .i64 1002) (IE.lit 3))) :: pctogF1_42)
def pctogF1_47 : List BE := ((BE.le (IE.var .i64 1002) (IE.lit 4)) :: pctogF1_46)
def pctogF1_48 : List BE := ((BE.not (BE.le (IE.var .i64 1002) (IE.lit 4))) :: pctogF1_46)
def wtogF1_0 : VW := (VW.done ((BE.le (IE.lit 6) (IE.add (IE.var .i64 1000) (IE.lit 1))) :: pctogF1_1) (some [(G.b (BE.and (BE.fn 6 (AL.lst (LE.rom 0) AL.nil)) (BE.fn 3 (AL.lst (LE.rom 0) AL.nil))) (BE.lit true)), (G.i (IE.ite (BE.fn 6 (AL.lst (LE.rom 0) AL.nil)) (IE.lit 0) (IE.lit 130)) (IE.lit 0))]))
def wtogF1_1 : VW := (VW.cut 1 ((BE.not (BE.le (IE.lit 6) (IE.add (IE.var .i64 1000) (IE.lit 1)))) :: pctogF1_1) (Sx.Sub.mk [(.i64, (1002, (IE.lit 0))), (.i64, (1001, (IE.add (IE.add (IE.var .i64 1000) (IE.lit 1)) (IE.lit 1)))), (.i64, (1000, (IE.add (IE.var .i64 1000) (IE.lit 1))))] [] [] [] [] []))
def wtogF1_2 : VW := (VW.cut 1 ((BE.le (IE.fn .i64 1 (AL.lst (LE.rom 0) (AL.int .i64 (IE.lit 0) AL.nil))) (IE.lit 0)) :: pctogF1_3) (Sx.Sub.mk [(.i64, (1002, (IE.add (IE.var .i64 1002) (IE.lit 1)))), (.i64, (1001, (IE.var .i64 1001))), (.i64, (1000, (IE.var .i64 1000)))] [] [] [] [] []))
def wtogF1_3 : VW := (VW.cut 1 ((BE.le (IE.fn .i64 1 (AL.lst (LE.rom 0) (AL.int .i64 (IE.lit 0) AL.nil))) (IE.lit 1)) :: pctogF1_5) (Sx.Sub.mk [(.i64, (1002, (IE.add (IE.var .i64 1002) (IE.lit 1)))), (.i64, (1001, (IE.var .i64 1001))), (.i64, (1000, (IE.var .i64 1000)))] [] [] [] [] []))
def wtogF1_4 : VW := (VW.cut 1 ((BE.not (BE.le (IE.fn .i64 1 (AL.lst (LE.rom 0) (AL.int .i64 (IE.lit 0) AL.nil))) (IE.lit 1))) :: pctogF1_5) (Sx.Sub.mk [(.i64, (1002, (IE.add (IE.var .i64 1002) (IE.lit 1)))), (.i64, (1001, (IE.var .i64 1001))), (.i64, (1000, (IE.var .i64 1000)))] [] [] [] [] []))
def wtogF1_5 : VW := (VW.cut 1 ((BE.le (IE.fn .i64 1 (AL.lst (LE.rom 0) (AL.int .i64 (IE.lit 1) AL.nil))) (IE.lit 0)) :: pctogF1_6) (Sx.Sub.mk [(.i64, (1002, (IE.add (IE.var .i64 1002) (IE.lit 1)))), (.i64, (1001, (IE.var .i64 1001))), (.i64, (1000, (IE.var .i64 1000)))] [] [] [] [] []))
def wtogF1_6 : VW := (VW.cut 1 ((BE.le (IE.fn .i64 1 (AL.lst (LE.rom 0) (AL.int .i64 (IE.lit 0) AL.nil))) (IE.lit 0)) :: pctogF1_11) (Sx.Sub.mk [(.i64, (1002, (IE.add (IE.var .i64 1002) (IE.lit 1)))), (.i64, (1001, (IE.var .i64 1001))), (.i64, (1000, (IE.var .i64 1000)))] [] [] [] [] []))
def wtogF1_7 : VW := (VW.cut 1 ((BE.not (BE.le (IE.fn .i64 1 (AL.lst (LE.rom 0) (AL.int .i64 (IE.lit 0) AL.nil))) (IE.lit 0))) :: pctogF1_11) (Sx.Sub.mk [(.i64, (1002, (IE.add (IE.var .i64 1002) (IE.lit 1)))), (.i64, (1001, (IE.var .i64 1001))), (.i64, (1000, (IE.var .i64 1000)))] [] [] [] [] []))
def wtogF1_8 : VW := (VW.cut 1 ((BE.le (IE.fn .i64 1 (AL.lst (LE.rom 0) (AL.int .i64 (IE.lit 1) AL.nil))) (IE.lit 1)) :: pctogF1_12) (Sx.Sub.mk [(.i64, (1002, (IE.add (IE.var .i64 1002) (IE.lit 1)))), (.i64, (1001, (IE.var .i64 1001))), (.i64, (1000, (IE.var .i64 1000)))] [] [] [] [] []))
def wtogF1_9 : VW := (VW.cut 1 ((BE.not (BE.le (IE.fn .i64 1 (AL.lst (LE.rom 0) (AL.int .i64 (IE.lit 1) AL.nil))) (IE.lit 1))) :: pctogF1_12) (Sx.Sub.mk [(.i64, (1002, (IE.add (IE.var .i64 1002) (IE.lit 1)))), (.i64, (1001, (IE.var .i64 1001))), (.i64, (1000, (IE.var .i64 1000)))] [] [] [] [] []))
def wtogF1_10 : VW := (VW.cut 1 ((BE.le (IE.fn .i64 1 (AL.lst (LE.rom 0) (AL.int .i64 (IE.lit 2) AL.nil))) (IE.lit 0)) :: pctogF1_9) (Sx.Sub.mk [(.i64, (1002, (IE.add (IE.var .i64 1002) (IE.lit 1)))), (.i64, (1001, (IE.var .i64 1001))), (.i64, (1000, (IE.var .i64 1000)))] [] [] [] [] []))
def wtogF1_11 : VW := (VW.cut 1 ((BE.le (IE.fn .i64 1 (AL.lst (LE.rom 0) (AL.int .i64 (IE.lit 0) AL.nil))) (IE.lit 0)) :: pctogF1_16) (Sx.Sub.mk [(.i64, (1002, (IE.add (IE.var .i64 1002) (IE.lit 1)))), (.i64, (1001, (IE.var .i64 1001))), (.i64, (1000, (IE.var .i64 1000)))] [] [] [] [] []))
def wtogF1_12 : VW := (VW.cut 1 ((BE.not (BE.le (IE.fn .i64 1 (AL.lst (LE.rom 0) (AL.int .i64 (IE.lit 0) AL.nil))) (IE.lit 0))) :: pctogF1_16) (Sx.Sub.mk [(.i64, (1002, (IE.add (IE.var .i64 1002) (IE.lit 1)))), (.i64, (1001, (IE.var .i64 1001))), (.i64, (1000, (IE.var .i64 1000)))] [] [] [] [] []))
def wtogF1_13 : VW := (VW.cut 1 ((BE.le (IE.fn .i64 1 (AL.lst (LE.rom 0) (AL.int .i64 (IE.lit 1) AL.nil))) (IE.lit 0)) :: pctogF1_21) (Sx.Sub.mk [(.i64, (1002, (IE.add (IE.var .i64 1002) (IE.lit 1)))), (.i64, (1001, (IE.var .i64 1001))), (.i64, (1000, (IE.var .i64 1000)))] [] [] [] [] []))
def wtogF1_14 : VW := (VW.cut 1 ((BE.not (BE.le (IE.fn .i64 1 (AL.lst (LE.rom 0) (AL.int .i64 (IE.lit 1) AL.nil))) (IE.lit 0))) :: pctogF1_21) (Sx.Sub.mk [(.i64, (1002, (IE.add (IE.var .i64 1002) (IE.lit 1)))), (.i64, (1001, (IE.var .i64 1001))), (.i64, (1000, (IE.var .i64 1000)))] [] [] [] [] []))
def wtogF1_15 : VW := (VW.cut 1 ((BE.le (IE.fn .i64 1 (AL.lst (LE.rom 0) (AL.int .i64 (IE.lit 2) AL.nil))) (IE.lit 1)) :: pctogF1_22) (Sx.Sub.mk [(.i64, (1002, (IE.add (IE.var .i64 1002) (IE.lit 1)))), (.i64, (1001, (IE.var .i64 1001))), (.i64, (1000, (IE.var .i64 1000)))] [] [] [] [] []))
def wtogF1_16 : VW := (VW.cut 1 ((BE.not (BE.le (IE.fn .i64 1 (AL.lst (LE.rom 0) (AL.int .i64 (IE.lit 2) AL.nil))) (IE.lit 1))) :: pctogF1_22) (Sx.Sub.mk [(.i64, (1002, (IE.add (IE.var .i64 1002) (IE.lit 1)))), (.i64, (1001, (IE.var .i64 1001))), (.i64, (1000, (IE.var .i64 1000)))] [] [] [] [] []))
def wtogF1_17 : VW := (VW.cut 1 ((BE.le (IE.fn .i64 1 (AL.lst (LE.rom 0) (AL.int .i64 (IE.lit 3) AL.nil))) (IE.lit 0)) :: pctogF1_14) (Sx.Sub.mk [(.i64, (1002, (IE.add (IE.var .i64 1002) (IE.lit 1)))), (.i64, (1001, (IE.var .i64 1001))), (.i64, (1000, (IE.var .i64 1000)))] [] [] [] [] []))
def wtogF1_18 : VW := (VW.cut 1 ((BE.le (IE.fn .i64 1 (AL.lst (LE.rom 0) (AL.int .i64 (IE.lit 0) AL.nil))) (IE.lit 0)) :: pctogF1_23) (Sx.Sub.mk [(.i64, (1002, (IE.add (IE.var .i64 1002) (IE.lit 1)))), (.i64, (1001, (IE.var .i64 1001))), (.i64, (1000, (IE.var .i64 1000)))] [] [] [] [] []))
def wtogF1_19 : VW := (VW.cut 1 ((BE.not (BE.le (IE.fn .i64 1 (AL.lst (LE.rom 0) (AL.int .i64 (IE.lit 0) AL.nil))) (IE.lit 0))) :: pctogF1_23) (Sx.Sub.mk [(.i64, (1002, (IE.add (IE.var .i64 1002) (IE.lit 1)))), (.i64, (1001, (IE.var .i64 1001))), (.i64, (1000, (IE.var .i64 1000)))] [] [] [] [] []))
def wtogF1_20 : VW := (VW.cut 1 ((BE.le (IE.fn .i64 1 (AL.lst (LE.rom 0) (AL.int .i64 (IE.lit 1) AL.nil))) (IE.lit 0)) :: pctogF1_27) (Sx.Sub.mk [(.i64, (1002, (IE.add (IE.var .i64 1002) (IE.lit 1)))), (.i64, (1001, (IE.var .i64 1001))), (.i64, (1000, (IE.var .i64 1000)))] [] [] [] [] []))
def wtogF1_21 : VW := (VW.cut 1 ((BE.not (BE.le (IE.fn .i64 1 (AL.lst (LE.rom 0) (AL.int .i64 (IE.lit 1) AL.nil))) (IE.lit 0))) :: pctogF1_27) (Sx.Sub.mk [(.i64, (1002, (IE.add (IE.var .i64 1002) (IE.lit 1)))), (.i64, (1001, (IE.var .i64 1001))), (.i64, (1000, (IE.var .i64 1000)))] [] [] [] [] []))
def wtogF1_22 : VW := (VW.cut 1 ((BE.le (IE.fn .i64 1 (AL.lst (LE.rom 0) (AL.int .i64 (IE.lit 2) AL.nil))) (IE.lit 0)) :: pctogF1_33) (Sx.Sub.mk [(.i64, (1002, (IE.add (IE.var .i64 1002) (IE.lit 1)))), (.i64, (1001, (IE.var .i64 1001))), (.i64, (1000, (IE.var .i64 1000)))] [] [] [] [] []))
def wtogF1_23 : VW := (VW.done ((BE.not (BE.le (IE.fn .i64 1 (AL.lst (LE.rom 0) (AL.int .i64 (IE.lit 2) AL.nil))) (IE.lit 0))) :: pctogF1_33) (some [(G.b (BE.and (BE.fn 6 (AL.lst (LE.rom 0) AL.nil)) (BE.fn 3 (AL.lst (LE.rom 0) AL.nil))) (BE.lit false)), (G.i (IE.ite (BE.fn 6 (AL.lst (LE.rom 0) AL.nil)) (IE.lit 0) (IE.lit 130)) (IE.lit 0))]))
def wtogF1_24 : VW := (VW.cut 1 ((BE.le (IE.fn .i64 1 (AL.lst (LE.rom 0) (AL.int .i64 (IE.lit 3) AL.nil))) (IE.lit 1)) :: pctogF1_34) (Sx.Sub.mk [(.i64, (1002, (IE.add (IE.var .i64 1002) (IE.lit 1)))), (.i64, (1001, (IE.var .i64 1001))), (.i64, (1000, (IE.var .i64 1000)))] [] [] [] [] []))
def wtogF1_25 : VW := (VW.cut 1 ((BE.not (BE.le (IE.fn .i64 1 (AL.lst (LE.rom 0) (AL.int .i64 (IE.lit 3) AL.nil))) (IE.lit 1))) :: pctogF1_34) (Sx.Sub.mk [(.i64, (1002, (IE.add (IE.var .i64 1002) (IE.lit 1)))), (.i64, (1001, (IE.var .i64 1001))), (.i64, (1000, (IE.var .i64 1000)))] [] [] [] [] []))
def wtogF1_26 : VW := (VW.cut 1 ((BE.le (IE.fn .i64 1 (AL.lst (LE.rom 0) (AL.int .i64 (IE.lit 4) AL.nil))) (IE.lit 0)) :: pctogF1_19) (Sx.Sub.mk [(.i64, (1002, (IE.add (IE.var .i64 1002) (IE.lit 1)))), (.i64, (1001, (IE.var .i64 1001))), (.i64, (1000, (IE.var .i64 1000)))] [] [] [] [] []))
def wtogF1_27 : VW := (VW.cut 1 ((BE.le (IE.fn .i64 1 (AL.lst (LE.rom 0) (AL.int .i64 (IE.lit 0) AL.nil))) (IE.lit 0)) :: pctogF1_29) (Sx.Sub.mk [(.i64, (1002, (IE.add (IE.var .i64 1002) (IE.lit 1)))), (.i64, (1001, (IE.var .i64 1001))), (.i64, (1000, (IE.var .i64 1000)))] [] [] [] [] []))
def wtogF1_28 : VW := (VW.cut 1 ((BE.not (BE.le (IE.fn .i64 1 (AL.lst (LE.rom 0) (AL.int .i64 (IE.lit 0) AL.nil))) (IE.lit 0))) :: pctogF1_29) (Sx.Sub.mk [(.i64, (1002, (IE.add (IE.var .i64 1002) (IE.lit 1)))), (.i64, (1001, (IE.var .i64 1001))), (.i64, (1000, (IE.var .i64 1000)))] [] [] [] [] []))
def wtogF1_29 : VW := (VW.cut 1 ((BE.le (IE.fn .i64 1 (AL.lst (LE.rom 0) (AL.int .i64 (IE.lit 1) AL.nil))) (IE.lit 0)) :: pctogF1_35) (Sx.Sub.mk [(.i64, (1002, (IE.add (IE.var .i64 1002) (IE.lit 1)))), (.i64, (1001, (IE.var .i64 1001))), (.i64, (1000, (IE.var .i64 1000)))] [] [] [] [] []))
def wtogF1_30 : VW := (VW.cut 1 ((BE.not (BE.le (IE.fn .i64 1 (AL.lst (LE.rom 0) (AL.int .i64 (IE.lit 1) AL.nil))) (IE.lit 0))) :: pctogF1_35) (Sx.Sub.mk [(.i64, (1002, (IE.add (IE.var .i64 1002) (IE.lit 1)))), (.i64, (1001, (IE.var .i64 1001))), (.i64, (1000, (IE.var .i64 1000)))] [] [] [] [] []))
def wtogF1_31 : VW := (VW.cut 1 ((BE.le (IE.fn .i64 1 (AL.lst (LE.rom 0) (AL.int .i64 (IE.lit 2) AL.nil))) (IE.lit 0)) :: pctogF1_39) (Sx.Sub.mk [(.i64, (1002, (IE.add (IE.var .i64 1002) (IE.lit 1)))), (.i64, (1001, (IE.var .i64 1001))), (.i64, (1000, (IE.var .i64 1000)))] [] [] [] [] []))
def wtogF1_32 : VW := (VW.done ((BE.not (BE.le (IE.fn .i64 1 (AL.lst (LE.rom 0) (AL.int .i64 (IE.lit 2) AL.nil))) (IE.lit 0))) :: pctogF1_39) (some [(G.b (BE.and (BE.fn 6 (AL.lst (LE.rom 0) AL.nil)) (BE.fn 3 (AL.lst (LE.rom 0) AL.nil))) (BE.lit false)), (G.i (IE.ite (BE.fn 6 (AL.lst (LE.rom 0) AL.nil)) (IE.lit 0) (IE.lit 130)) (IE.lit 0))]))
def wtogF1_33 : VW := (VW.cut 1 ((BE.le (IE.fn .i64 1 (AL.lst (LE.rom 0) (AL.int .i64 (IE.lit 3) AL.nil))) (IE.lit 0)) :: pctogF1_43) (Sx.Sub.mk [(.i64, (1002, (IE.add (IE.var .i64 1002) (IE.lit 1)))), (.i64, (1001, (IE.var .i64 1001))), (.i64, (1000, (IE.var .i64 1000)))] [] [] [] [] []))
def wtogF1_34 : VW := (VW.done ((BE.not (BE.le (IE.fn .i64 1 (AL.lst (LE.rom 0) (AL.int .i64 (IE.lit 3) AL.nil))) (IE.lit 0))) :: pctogF1_43) (some [(G.b (BE.and (BE.fn 6 (AL.lst (LE.rom 0) AL.nil)) (BE.fn 3 (AL.lst (LE.rom 0) AL.nil))) (BE.lit false)), (G.i (IE.ite (BE.fn 6 (AL.lst (LE.rom 0) AL.nil)) (IE.lit 0) (IE.lit 130)) (IE.lit 0))]))
def wtogF1_35 : VW := (VW.cut 1 ((BE.le (IE.fn .i64 1 (AL.lst (LE.rom 0) (AL.int .i64 (IE.lit 4) AL.nil))) (IE.lit 1)) :: pctogF1_44) (Sx.Sub.mk [(.i64, (1002, (IE.add (IE.var .i64 1002) (IE.lit 1)))), (.i64, (1001, (IE.var .i64 1001))), (.i64, (1000, (IE.var .i64 1000)))] [] [] [] [] []))
def wtogF1_36 : VW := (VW.done ((BE.not (BE.le (IE.fn .i64 1 (AL.lst (LE.rom 0) (AL.int .i64 (IE.lit 4) AL.nil))) (IE.lit 1))) :: pctogF1_44) (some [(G.b (BE.and (BE.fn 6 (AL.lst (LE.rom 0) AL.nil)) (BE.fn 3 (AL.lst (LE.rom 0) AL.nil))) (BE.lit false)), (G.i (IE.ite (BE.fn 6 (AL.lst (LE.rom 0) AL.nil)) (IE.lit 0) (IE.lit 130)) (IE.lit 0))]))
def wtogF1_37 : VW := (VW.cut 1 ((BE.le (IE.fn .i64 1 (AL.lst (LE.rom 0) (AL.int .i64 (IE.lit 5) AL.nil))) (IE.lit 0)) :: pctogF1_20) (Sx.Sub.mk [(.i64, (1002, (IE.add (IE.var .i64 1002) (IE.lit 1)))), (.i64, (1001, (IE.var .i64 1001))), (.i64, (1000, (IE.var .i64 1000)))] [] [] [] [] []))
def wtogF1_38 : VW := (VW.cut 1 ((BE.le (IE.fn .i64 1 (AL.lst (LE.rom 0) (AL.int .i64 (IE.lit 0) AL.nil))) (IE.lit 0)) :: pctogF1_31) (Sx.Sub.mk [(.i64, (1002, (IE.add (IE.var .i64 1002) (IE.lit 1)))), (.i64, (1001, (IE.var .i64 1001))), (.i64, (1000, (IE.var .i64 1000)))] [] [] [] [] []))
def wtogF1_39 : VW := (VW.cut 1 ((BE.not (BE.le (IE.fn .i64 1 (AL.lst (LE.rom 0) (AL.int .i64 (IE.lit 0) AL.nil))) (IE.lit 0))) :: pctogF1_31) (Sx.Sub.mk [(.i64, (1002, (IE.add (IE.var .i64 1002) (IE.lit 1)))), (.i64, (1001, (IE.var .i64 1001))), (.i64, (1000, (IE.var .i64 1000)))] [] [] [] [] []))
def wtogF1_40 : VW := (VW.cut 1 ((BE.le (IE.fn .i64 1 (AL.lst (LE.rom 0) (AL.int .i64 (IE.lit 1) AL.nil))) (IE.lit 0)) :: pctogF1_37) (Sx.Sub.mk [(.i64, (1002, (IE.add (IE.var .i64 1002) (IE.lit 1)))), (.i64, (1001, (IE.var .i64 1001))), (.i64, (1000, (IE.var .i64 1000)))] [] [] [] [] []))
def wtogF1_41 : VW := (VW.done ((BE.not (BE.le (IE.fn .i64 1 (AL.lst (LE.rom 0) (AL.int .i64 (IE.lit 1) AL.nil))) (IE.lit 0))) :: pctogF1_37) (some [(G.b (BE.and (BE.fn 6 (AL.lst (LE.rom 0) AL.nil)) (BE.fn 3 (AL.lst (LE.rom 0) AL.nil))) (BE.lit false)), (G.i (IE.ite (BE.fn 6 (AL.lst (LE.rom 0) AL.nil)) (IE.lit 0) (IE.lit 130)) (IE.lit 0))]))
def wtogF1_42 : VW := (VW.cut 1 ((BE.le (IE.fn .i64 1 (AL.lst (LE.rom 0) (AL.int .i64 (IE.lit 2) AL.nil))) (IE.lit 0)) :: pctogF1_41) (Sx.Sub.mk [(.i64, (1002, (IE.add (IE.var .i64 1002) (IE.lit 1)))), (.i64, (1001, (IE.var .i64 1001))), (.i64, (1000, (IE.var .i64 1000)))] [] [] [] [] []))
def wtogF1_43 : VW := (VW.done ((BE.not (BE.le (IE.fn .i64 1 (AL.lst (LE.rom 0) (AL.int .i64 (IE.lit 2) AL.nil))) (IE.lit 0))) :: pctogF1_41) (some [(G.b (BE.and (BE.fn 6 (AL.lst (LE.rom 0) AL.nil)) (BE.fn 3 (AL.lst (LE.rom 0) AL.nil))) (BE.lit false)), (G.i (IE.ite (BE.fn 6 (AL.lst (LE.rom 0) AL.nil)) (IE.lit 0) (IE.lit 130)) (IE.lit 0))]))
def wtogF1_44 : VW := (VW.cut 1 ((BE.le (IE.fn .i64 1 (AL.lst (LE.rom 0) (AL.int .i64 (IE.lit 3) AL.nil))) (IE.lit 0)) :: pctogF1_45) (Sx.Sub.mk [(.i64, (1002, (IE.add (IE.var .i64 1002) (IE.lit 1)))), (.i64, (1001, (IE.var .i64 1001))), (.i64, (1000, (IE.var .i64 1000)))] [] [] [] [] []))
def wtogF1_45 : VW := (VW.done ((BE.not (BE.le (IE.fn .i64 1 (AL.lst (LE.rom 0) (AL.int .i64 (IE.lit 3) AL.nil))) (IE.lit 0))) :: pctogF1_45) (some [(G.b (BE.and (BE.fn 6 (AL.lst (LE.rom 0) AL.nil)) (BE.fn 3 (AL.lst (LE.rom 0) AL.nil))) (BE.lit false)), (G.i (IE.ite (BE.fn 6 (AL.lst (LE.rom 0) AL.nil)) (IE.lit 0) (IE.lit 130)) (IE.lit 0))]))
def wtogF1_46 : VW := (VW.cut 1 ((BE.le (IE.fn .i64 1 (AL.lst (LE.rom 0) (AL.int .i64 (IE.lit 4) AL.nil))) (IE.lit 0)) :: pctogF1_47) (Sx.Sub.mk [(.i64, (1002, (IE.add (IE.var .i64 1002) (IE.lit 1)))), (.i64, (1001, (IE.var .i64 1001))), (.i64, (1000, (IE.var .i64 1000)))] [] [] [] [] []))
def wtogF1_47 : VW := (VW.done ((BE.not (BE.le (IE.fn .i64 1 (AL.lst (LE.rom 0) (AL.int .i64 (IE.lit 4) AL.nil))) (IE.lit 0))) :: pctogF1_47) (some [(G.b (BE.and (BE.fn 6 (AL.lst (LE.rom 0) AL.nil)) (BE.fn 3 (AL.lst (LE.rom 0) AL.nil))) (BE.lit false)), (G.i (IE.ite (BE.fn 6 (AL.lst (LE.rom 0) AL.nil)) (IE.lit 0) (IE.lit 130)) (IE.lit 0))]))
def wtogF1_48 : VW := (VW.cut 1 ((BE.le (IE.fn .i64 1 (AL.lst (LE.rom 0) (AL.int .i64 (IE.lit 5) AL.nil))) (IE.lit 1)) :: pctogF1_48) (Sx.Sub.mk [(.i64, (1002, (IE.add (IE.var .i64 1002) (IE.lit 1)))), (.i64, (1001, (IE.var .i64 1001))), (.i64, (1000, (IE.var .i64 1000)))] [] [] [] [] []))
def wtogF1_49 : VW := (VW.done ((BE.not (BE.le (IE.fn .i64 1 (AL.lst (LE.rom 0) (AL.int .i64 (IE.lit 5) AL.nil))) (IE.lit 1))) :: pctogF1_48) (some [(G.b (BE.and (BE.fn 6 (AL.lst (LE.rom 0) AL.nil)) (BE.fn 3 (AL.lst (LE.rom 0) AL.nil))) (BE.lit false)), (G.i (IE.ite (BE.fn 6 (AL.lst (LE.rom 0) AL.nil)) (IE.lit 0) (IE.lit 130)) (IE.lit 0))]))
def vwtogF1 : List VW := [wtogF1_0, wtogF1_1, wtogF1_2, wtogF1_3, wtogF1_4, wtogF1_5, wtogF1_6, wtogF1_7, wtogF1_8, wtogF1_9, wtogF1_10, wtogF1_11, wtogF1_12, wtogF1_13, wtogF1_14, wtogF1_15, wtogF1_16, wtogF1_17, wtogF1_18, wtogF1_19, wtogF1_20, wtogF1_21, wtogF1_22, wtogF1_23, wtogF1_24, wtogF1_25, wtogF1_26, wtogF1_27, wtogF1_28, wtogF1_29, wtogF1_30, wtogF1_31, wtogF1_32, wtogF1_33, wtogF1_34, wtogF1_35, wtogF1_36, wtogF1_37, wtogF1_38, wtogF1_39, wtogF1_40, wtogF1_41, wtogF1_42, wtogF1_43, wtogF1_44, wtogF1_45, wtogF1_46, wtogF1_47, wtogF1_48, wtogF1_49]
def vwtogF : Nat → List VW
  | 0 => vwtogF0
  | 1 => vwtogF1
  | _ => []
end
def invtogF : Nat → Lt → Prop
  | 1, l => ∀ x y : Int, 0 ≤ y → y ≤ x → (x < (l.i .i64 1000) ∨ (x = (l.i .i64 1000) ∧ y < (l.i .i64 1002))) → (cntN (l.z.rl 0) x (l.z.rl 0).length = 0 ∨ cntN (l.z.rl 0) y (l.z.rl 0).length = 0 ∨ (x = y ∧ cntN (l.z.rl 0) x (l.z.rl 0).length ≤ 1) ∨ fitsN x y = true)
  | _, _ => True
def mstogF : Nat → Lt → Nat
  | 0, l => 100
  | 1, l => (6 - (l.i .i64 1000).toNat) * 10 + (9 - (l.i .i64 1002).toNat)
  | _, _ => 0
theorem vctogF0_0 : VC TTtogF invtogF mstogF 0 (startF 101 cTogF.pat (.lit true :: cTogF.pre)) wtogF0_0 := by
  intro ρ kn hi hp
  have hF : ρ.z.F = hold.Φ := kn.F
  simp only [h_nil, h_cons, d_le, d_eq, d_not, d_var, d_lit, d_cel, d_leq, d_fn, d_and, d_iff, IE.den, LE.den, AL.den, lenV, true_and, and_true, pctogF0_0, hF, pi1, pb1, pb2, pb3, pb4, pb5, pb6] at hp
  obtain ⟨p1, p2⟩ := hp
  refine (show (∀ x y : Int, 0 ≤ y → y ≤ x → (x < (0 : Int) ∨ (x = (0 : Int) ∧ y < (0 : Int))) → (cntN (ρ.z.rl 0) x (ρ.z.rl 0).length = 0 ∨ cntN (ρ.z.rl 0) y (ρ.z.rl 0).length = 0 ∨ (x = y ∧ cntN (ρ.z.rl 0) x (ρ.z.rl 0).length ≤ 1) ∨ fitsN x y = true)) ∧ (((6 - (0 : Int).toNat) * 10 + (9 - (0 : Int).toNat) : Nat) < 100) from ?_)
  exact ⟨fun x y h1 h2 h3 => absurd h3 (by omega), by omega⟩
theorem vctogF0_1 : VC TTtogF invtogF mstogF 0 (startF 101 cTogF.pat (.lit true :: cTogF.pre)) wtogF0_1 := by
  intro ρ kn hi hp
  have hF : ρ.z.F = hold.Φ := kn.F
  simp only [h_nil, h_cons, d_le, d_eq, d_not, d_var, d_lit, d_cel, d_leq, d_fn, d_and, d_iff, IE.den, LE.den, AL.den, lenV, true_and, and_true, pctogF0_0, hF, pi1, pb1, pb2, pb3, pb4, pb5, pb6] at hp
  obtain ⟨p1, p2⟩ := hp
  refine all_cons (show (if (ρ.z.F.b 6 [.lst (ρ.z.rl 0)]) then (0 : Int) else (130 : Int)) = (130 : Int) from ?_) (all_nil)
  all_goals try simp only [hF, pi1, pb1, pb2, pb3, pb4, pb5, pb6]
  all_goals
    rw [if_neg (by assumption)]
def ivtogF1 (ρ : Rho) : Prop := ∀ x y : Int, 0 ≤ y → y ≤ x → (x < (ρ.i .i64 1000) ∨ (x = (ρ.i .i64 1000) ∧ y < (ρ.i .i64 1002))) → (cntN (ρ.z.rl 0) x (ρ.z.rl 0).length = 0 ∨ cntN (ρ.z.rl 0) y (ρ.z.rl 0).length = 0 ∨ (x = y ∧ cntN (ρ.z.rl 0) x (ρ.z.rl 0).length ≤ 1) ∨ fitsN x y = true)
theorem vcgtogF1_1 : VC TTtogF invtogF mstogF 1 ttogF1 wtogF1_23 ∧ VC TTtogF invtogF mstogF 1 ttogF1 wtogF1_32 ∧ VC TTtogF invtogF mstogF 1 ttogF1 wtogF1_34 ∧ VC TTtogF invtogF mstogF 1 ttogF1 wtogF1_36 ∧ VC TTtogF invtogF mstogF 1 ttogF1 wtogF1_41 ∧ VC TTtogF invtogF mstogF 1 ttogF1 wtogF1_43 ∧ VC TTtogF invtogF mstogF 1 ttogF1 wtogF1_45 ∧ VC TTtogF invtogF mstogF 1 ttogF1 wtogF1_47 ∧ VC TTtogF invtogF mstogF 1 ttogF1 wtogF1_49 := by
  refine ⟨?_, ?_, ?_, ?_, ?_, ?_, ?_, ?_, ?_⟩
  all_goals
    intro ρ kn hi hp
    have hi : ivtogF1 ρ := hi
    unfold ivtogF1 at hi
    have hF : ρ.z.F = hold.Φ := kn.F
    simp only [h_nil, h_cons, d_le, d_eq, d_not, d_var, d_lit, d_cel, d_leq, d_fn, d_and, d_iff, IE.den, LE.den, AL.den, lenV, true_and, and_true, pctogF1_33, pctogF1_28, pctogF1_24, pctogF1_18, pctogF1_14, pctogF1_10, pctogF1_7, pctogF1_4, pctogF1_2, pctogF1_0, pctogF1_39, pctogF1_36, pctogF1_30, pctogF1_25, pctogF1_19, pctogF1_15, pctogF1_43, pctogF1_40, pctogF1_44, pctogF1_37, pctogF1_32, pctogF1_26, pctogF1_20, pctogF1_41, pctogF1_38, pctogF1_45, pctogF1_42, pctogF1_47, pctogF1_46, pctogF1_48, hF, pi1, pb1, pb2, pb3, pb4, pb5, pb6] at hp
    have p1 := And.left hp
    replace hp := And.right hp
    repeat (have _ := And.left hp; replace hp := And.right hp)
    refine all_cons (show ((ρ.z.F.b 6 [.lst (ρ.z.rl 0)]) && (ρ.z.F.b 3 [.lst (ρ.z.rl 0)])) = false from ?_) (all_cons (show (if (ρ.z.F.b 6 [.lst (ρ.z.rl 0)]) then (0 : Int) else (130 : Int)) = (0 : Int) from ?_) (all_nil))
    all_goals try simp only [hF, pi1, pb1, pb2, pb3, pb4, pb5, pb6]
    have cl : ∀ m, clampK .i64 (cntN (ρ.z.rl 0) m (ρ.z.rl 0).length : Int) = (cntN (ρ.z.rl 0) m (ρ.z.rl 0).length : Int) := fun m => clampS (by omega) (by have := cnt_le (ρ.z.rl 0) m (ρ.z.rl 0).length; omega)
    try simp only [cl] at *
    · rw [show modesN (ρ.z.rl 0) (ρ.z.rl 0).length = true by assumption, Bool.true_and]
      have hm : modesN (ρ.z.rl 0) (ρ.z.rl 0).length = true := by assumption
      have ht := tog_cnt (ρ.z.rl 0).length hm
      simp only [togC] at ht
      refine Bool.eq_false_iff.2 fun hh => ?_
      have := ht.1 hh
      omega
    · rw [if_pos (by assumption)]
theorem vctogF1_0 : VC TTtogF invtogF mstogF 1 ttogF1 wtogF1_0 := by
  intro ρ kn hi hp
  have hi : ivtogF1 ρ := hi
  unfold ivtogF1 at hi
  have hF : ρ.z.F = hold.Φ := kn.F
  simp only [h_nil, h_cons, d_le, d_eq, d_not, d_var, d_lit, d_cel, d_leq, d_fn, d_and, d_iff, IE.den, LE.den, AL.den, lenV, true_and, and_true, pctogF1_1, pctogF1_0, hF, pi1, pb1, pb2, pb3, pb4, pb5, pb6] at hp
  obtain ⟨p1, p2, p3, p4, p5, p6, p7, p8, p9⟩ := hp
  refine all_cons (show ((ρ.z.F.b 6 [.lst (ρ.z.rl 0)]) && (ρ.z.F.b 3 [.lst (ρ.z.rl 0)])) = true from ?_) (all_cons (show (if (ρ.z.F.b 6 [.lst (ρ.z.rl 0)]) then (0 : Int) else (130 : Int)) = (0 : Int) from ?_) (all_nil))
  all_goals try simp only [hF, pi1, pb1, pb2, pb3, pb4, pb5, pb6]
  have cl : ∀ m, clampK .i64 (cntN (ρ.z.rl 0) m (ρ.z.rl 0).length : Int) = (cntN (ρ.z.rl 0) m (ρ.z.rl 0).length : Int) := fun m => clampS (by omega) (by have := cnt_le (ρ.z.rl 0) m (ρ.z.rl 0).length; omega)
  try simp only [cl] at *
  · rw [show modesN (ρ.z.rl 0) (ρ.z.rl 0).length = true by assumption, Bool.true_and]
    have hm : modesN (ρ.z.rl 0) (ρ.z.rl 0).length = true := by assumption
    have ht := tog_cnt (ρ.z.rl 0).length hm
    simp only [togC] at ht
    have g := fun x y h1 h2 (h5 : x ≤ 5) => hi x y h1 h2 (by omega)
    have g32 := g 3 2 (by omega) (by omega) (by omega)
    rw [show fitsN 3 2 = false from by decide] at g32
    have g42 := g 4 2 (by omega) (by omega) (by omega)
    rw [show fitsN 4 2 = false from by decide] at g42
    have g43 := g 4 3 (by omega) (by omega) (by omega)
    rw [show fitsN 4 3 = false from by decide] at g43
    have g44 := g 4 4 (by omega) (by omega) (by omega)
    rw [show fitsN 4 4 = false from by decide] at g44
    have g55 := g 5 5 (by omega) (by omega) (by omega)
    rw [show fitsN 5 5 = false from by decide] at g55
    have g51 := g 5 1 (by omega) (by omega) (by omega)
    rw [show fitsN 5 1 = false from by decide] at g51
    have g52 := g 5 2 (by omega) (by omega) (by omega)
    rw [show fitsN 5 2 = false from by decide] at g52
    have g53 := g 5 3 (by omega) (by omega) (by omega)
    rw [show fitsN 5 3 = false from by decide] at g53
    have g54 := g 5 4 (by omega) (by omega) (by omega)
    rw [show fitsN 5 4 = false from by decide] at g54
    refine ht.2 ?_
    simp only [Bool.false_eq_true, or_false] at *
    omega
  · rw [if_pos (by assumption)]
theorem vctogF1_1 : VC TTtogF invtogF mstogF 1 ttogF1 wtogF1_1 := by
  intro ρ kn hi hp
  have hi : ivtogF1 ρ := hi
  unfold ivtogF1 at hi
  have hF : ρ.z.F = hold.Φ := kn.F
  simp only [h_nil, h_cons, d_le, d_eq, d_not, d_var, d_lit, d_cel, d_leq, d_fn, d_and, d_iff, IE.den, LE.den, AL.den, lenV, true_and, and_true, pctogF1_1, pctogF1_0, hF, pi1, pb1, pb2, pb3, pb4, pb5, pb6] at hp
  obtain ⟨p1, p2, p3, p4, p5, p6, p7, p8, p9⟩ := hp
  refine (show (∀ x y : Int, 0 ≤ y → y ≤ x → (x < ((ρ.i .i64 1000) + (1 : Int)) ∨ (x = ((ρ.i .i64 1000) + (1 : Int)) ∧ y < (0 : Int))) → (cntN (ρ.z.rl 0) x (ρ.z.rl 0).length = 0 ∨ cntN (ρ.z.rl 0) y (ρ.z.rl 0).length = 0 ∨ (x = y ∧ cntN (ρ.z.rl 0) x (ρ.z.rl 0).length ≤ 1) ∨ fitsN x y = true)) ∧ (((6 - ((ρ.i .i64 1000) + (1 : Int)).toNat) * 10 + (9 - (0 : Int).toNat) : Nat) < (6 - (ρ.i .i64 1000).toNat) * 10 + (9 - (ρ.i .i64 1002).toNat)) from ?_)
  have cl : ∀ m, clampK .i64 (cntN (ρ.z.rl 0) m (ρ.z.rl 0).length : Int) = (cntN (ρ.z.rl 0) m (ρ.z.rl 0).length : Int) := fun m => clampS (by omega) (by have := cnt_le (ρ.z.rl 0) m (ρ.z.rl 0).length; omega)
  try simp only [cl] at *
  refine ⟨fun x y h1 h2 h3 => hi x y h1 h2 ?_, by omega⟩
  omega
theorem vctogF1_2 : VC TTtogF invtogF mstogF 1 ttogF1 wtogF1_2 := by
  intro ρ kn hi hp
  have hi : ivtogF1 ρ := hi
  unfold ivtogF1 at hi
  have hF : ρ.z.F = hold.Φ := kn.F
  simp only [h_nil, h_cons, d_le, d_eq, d_not, d_var, d_lit, d_cel, d_leq, d_fn, d_and, d_iff, IE.den, LE.den, AL.den, lenV, true_and, and_true, pctogF1_3, pctogF1_2, pctogF1_0, hF, pi1, pb1, pb2, pb3, pb4, pb5, pb6] at hp
  obtain ⟨p1, p2, p3, p4, p5, p6, p7, p8, p9, p10⟩ := hp
  refine (show (∀ x y : Int, 0 ≤ y → y ≤ x → (x < (ρ.i .i64 1000) ∨ (x = (ρ.i .i64 1000) ∧ y < ((ρ.i .i64 1002) + (1 : Int)))) → (cntN (ρ.z.rl 0) x (ρ.z.rl 0).length = 0 ∨ cntN (ρ.z.rl 0) y (ρ.z.rl 0).length = 0 ∨ (x = y ∧ cntN (ρ.z.rl 0) x (ρ.z.rl 0).length ≤ 1) ∨ fitsN x y = true)) ∧ (((6 - (ρ.i .i64 1000).toNat) * 10 + (9 - ((ρ.i .i64 1002) + (1 : Int)).toNat) : Nat) < (6 - (ρ.i .i64 1000).toNat) * 10 + (9 - (ρ.i .i64 1002).toNat)) from ?_)
  have cl : ∀ m, clampK .i64 (cntN (ρ.z.rl 0) m (ρ.z.rl 0).length : Int) = (cntN (ρ.z.rl 0) m (ρ.z.rl 0).length : Int) := fun m => clampS (by omega) (by have := cnt_le (ρ.z.rl 0) m (ρ.z.rl 0).length; omega)
  try simp only [cl] at *
  refine ⟨fun x y h1 h2 h3 => ?_, by omega⟩
  by_cases hh : x < ρ.i .i64 1000 ∨ (x = ρ.i .i64 1000 ∧ y < ρ.i .i64 1002)
  · exact hi x y h1 h2 hh
  · have e1 : x = 0 := by omega
    subst e1
    first
      | exact .inl (by omega)
      | exact .inr (.inl (by omega))
      | exact .inr (.inr (.inl ⟨by omega, by omega⟩))
      | exact .inr (.inr (.inr (by decide)))
      | (have e3 : y = 0 := by omega
         rw [e3]
         exact .inr (.inr (.inr (by decide))))
      | (have e3 : y = 1 := by omega
         rw [e3]
         exact .inr (.inr (.inr (by decide))))
      | (have e3 : y = 2 := by omega
         rw [e3]
         exact .inr (.inr (.inr (by decide))))
      | (have e3 : y = 3 := by omega
         rw [e3]
         exact .inr (.inr (.inr (by decide))))
      | (have e3 : y = 4 := by omega
         rw [e3]
         exact .inr (.inr (.inr (by decide))))
      | (have e3 : y = 5 := by omega
         rw [e3]
         exact .inr (.inr (.inr (by decide))))
      | skip
theorem vctogF1_3 : VC TTtogF invtogF mstogF 1 ttogF1 wtogF1_3 := by
  intro ρ kn hi hp
  have hi : ivtogF1 ρ := hi
  unfold ivtogF1 at hi
  have hF : ρ.z.F = hold.Φ := kn.F
  simp only [h_nil, h_cons, d_le, d_eq, d_not, d_var, d_lit, d_cel, d_leq, d_fn, d_and, d_iff, IE.den, LE.den, AL.den, lenV, true_and, and_true, pctogF1_5, pctogF1_3, pctogF1_2, pctogF1_0, hF, pi1, pb1, pb2, pb3, pb4, pb5, pb6] at hp
  obtain ⟨p1, p2, p3, p4, p5, p6, p7, p8, p9, p10, p11⟩ := hp
  refine (show (∀ x y : Int, 0 ≤ y → y ≤ x → (x < (ρ.i .i64 1000) ∨ (x = (ρ.i .i64 1000) ∧ y < ((ρ.i .i64 1002) + (1 : Int)))) → (cntN (ρ.z.rl 0) x (ρ.z.rl 0).length = 0 ∨ cntN (ρ.z.rl 0) y (ρ.z.rl 0).length = 0 ∨ (x = y ∧ cntN (ρ.z.rl 0) x (ρ.z.rl 0).length ≤ 1) ∨ fitsN x y = true)) ∧ (((6 - (ρ.i .i64 1000).toNat) * 10 + (9 - ((ρ.i .i64 1002) + (1 : Int)).toNat) : Nat) < (6 - (ρ.i .i64 1000).toNat) * 10 + (9 - (ρ.i .i64 1002).toNat)) from ?_)
  have cl : ∀ m, clampK .i64 (cntN (ρ.z.rl 0) m (ρ.z.rl 0).length : Int) = (cntN (ρ.z.rl 0) m (ρ.z.rl 0).length : Int) := fun m => clampS (by omega) (by have := cnt_le (ρ.z.rl 0) m (ρ.z.rl 0).length; omega)
  try simp only [cl] at *
  refine ⟨fun x y h1 h2 h3 => ?_, by omega⟩
  by_cases hh : x < ρ.i .i64 1000 ∨ (x = ρ.i .i64 1000 ∧ y < ρ.i .i64 1002)
  · exact hi x y h1 h2 hh
  · have e1 : x = 0 := by omega
    subst e1
    first
      | exact .inl (by omega)
      | exact .inr (.inl (by omega))
      | exact .inr (.inr (.inl ⟨by omega, by omega⟩))
      | exact .inr (.inr (.inr (by decide)))
      | (have e3 : y = 0 := by omega
         rw [e3]
         exact .inr (.inr (.inr (by decide))))
      | (have e3 : y = 1 := by omega
         rw [e3]
         exact .inr (.inr (.inr (by decide))))
      | (have e3 : y = 2 := by omega
         rw [e3]
         exact .inr (.inr (.inr (by decide))))
      | (have e3 : y = 3 := by omega
         rw [e3]
         exact .inr (.inr (.inr (by decide))))
      | (have e3 : y = 4 := by omega
         rw [e3]
         exact .inr (.inr (.inr (by decide))))
      | (have e3 : y = 5 := by omega
         rw [e3]
         exact .inr (.inr (.inr (by decide))))
      | skip
theorem vctogF1_4 : VC TTtogF invtogF mstogF 1 ttogF1 wtogF1_4 := by
  intro ρ kn hi hp
  have hi : ivtogF1 ρ := hi
  unfold ivtogF1 at hi
  have hF : ρ.z.F = hold.Φ := kn.F
  simp only [h_nil, h_cons, d_le, d_eq, d_not, d_var, d_lit, d_cel, d_leq, d_fn, d_and, d_iff, IE.den, LE.den, AL.den, lenV, true_and, and_true, pctogF1_5, pctogF1_3, pctogF1_2, pctogF1_0, hF, pi1, pb1, pb2, pb3, pb4, pb5, pb6] at hp
  obtain ⟨p1, p2, p3, p4, p5, p6, p7, p8, p9, p10, p11⟩ := hp
  refine (show (∀ x y : Int, 0 ≤ y → y ≤ x → (x < (ρ.i .i64 1000) ∨ (x = (ρ.i .i64 1000) ∧ y < ((ρ.i .i64 1002) + (1 : Int)))) → (cntN (ρ.z.rl 0) x (ρ.z.rl 0).length = 0 ∨ cntN (ρ.z.rl 0) y (ρ.z.rl 0).length = 0 ∨ (x = y ∧ cntN (ρ.z.rl 0) x (ρ.z.rl 0).length ≤ 1) ∨ fitsN x y = true)) ∧ (((6 - (ρ.i .i64 1000).toNat) * 10 + (9 - ((ρ.i .i64 1002) + (1 : Int)).toNat) : Nat) < (6 - (ρ.i .i64 1000).toNat) * 10 + (9 - (ρ.i .i64 1002).toNat)) from ?_)
  have cl : ∀ m, clampK .i64 (cntN (ρ.z.rl 0) m (ρ.z.rl 0).length : Int) = (cntN (ρ.z.rl 0) m (ρ.z.rl 0).length : Int) := fun m => clampS (by omega) (by have := cnt_le (ρ.z.rl 0) m (ρ.z.rl 0).length; omega)
  try simp only [cl] at *
  refine ⟨fun x y h1 h2 h3 => ?_, by omega⟩
  by_cases hh : x < ρ.i .i64 1000 ∨ (x = ρ.i .i64 1000 ∧ y < ρ.i .i64 1002)
  · exact hi x y h1 h2 hh
  · have e1 : x = 0 := by omega
    subst e1
    first
      | exact .inl (by omega)
      | exact .inr (.inl (by omega))
      | exact .inr (.inr (.inl ⟨by omega, by omega⟩))
      | exact .inr (.inr (.inr (by decide)))
      | (have e3 : y = 0 := by omega
         rw [e3]
         exact .inr (.inr (.inr (by decide))))
      | (have e3 : y = 1 := by omega
         rw [e3]
         exact .inr (.inr (.inr (by decide))))
      | (have e3 : y = 2 := by omega
         rw [e3]
         exact .inr (.inr (.inr (by decide))))
      | (have e3 : y = 3 := by omega
         rw [e3]
         exact .inr (.inr (.inr (by decide))))
      | (have e3 : y = 4 := by omega
         rw [e3]
         exact .inr (.inr (.inr (by decide))))
      | (have e3 : y = 5 := by omega
         rw [e3]
         exact .inr (.inr (.inr (by decide))))
      | skip
theorem vctogF1_5 : VC TTtogF invtogF mstogF 1 ttogF1 wtogF1_5 := by
  intro ρ kn hi hp
  have hi : ivtogF1 ρ := hi
  unfold ivtogF1 at hi
  have hF : ρ.z.F = hold.Φ := kn.F
  simp only [h_nil, h_cons, d_le, d_eq, d_not, d_var, d_lit, d_cel, d_leq, d_fn, d_and, d_iff, IE.den, LE.den, AL.den, lenV, true_and, and_true, pctogF1_6, pctogF1_4, pctogF1_2, pctogF1_0, hF, pi1, pb1, pb2, pb3, pb4, pb5, pb6] at hp
  obtain ⟨p1, p2, p3, p4, p5, p6, p7, p8, p9, p10, p11⟩ := hp
  refine (show (∀ x y : Int, 0 ≤ y → y ≤ x → (x < (ρ.i .i64 1000) ∨ (x = (ρ.i .i64 1000) ∧ y < ((ρ.i .i64 1002) + (1 : Int)))) → (cntN (ρ.z.rl 0) x (ρ.z.rl 0).length = 0 ∨ cntN (ρ.z.rl 0) y (ρ.z.rl 0).length = 0 ∨ (x = y ∧ cntN (ρ.z.rl 0) x (ρ.z.rl 0).length ≤ 1) ∨ fitsN x y = true)) ∧ (((6 - (ρ.i .i64 1000).toNat) * 10 + (9 - ((ρ.i .i64 1002) + (1 : Int)).toNat) : Nat) < (6 - (ρ.i .i64 1000).toNat) * 10 + (9 - (ρ.i .i64 1002).toNat)) from ?_)
  have cl : ∀ m, clampK .i64 (cntN (ρ.z.rl 0) m (ρ.z.rl 0).length : Int) = (cntN (ρ.z.rl 0) m (ρ.z.rl 0).length : Int) := fun m => clampS (by omega) (by have := cnt_le (ρ.z.rl 0) m (ρ.z.rl 0).length; omega)
  try simp only [cl] at *
  refine ⟨fun x y h1 h2 h3 => ?_, by omega⟩
  by_cases hh : x < ρ.i .i64 1000 ∨ (x = ρ.i .i64 1000 ∧ y < ρ.i .i64 1002)
  · exact hi x y h1 h2 hh
  · have e1 : x = 1 := by omega
    subst e1
    first
      | exact .inl (by omega)
      | exact .inr (.inl (by omega))
      | exact .inr (.inr (.inl ⟨by omega, by omega⟩))
      | exact .inr (.inr (.inr (by decide)))
      | (have e3 : y = 0 := by omega
         rw [e3]
         exact .inr (.inr (.inr (by decide))))
      | (have e3 : y = 1 := by omega
         rw [e3]
         exact .inr (.inr (.inr (by decide))))
      | (have e3 : y = 2 := by omega
         rw [e3]
         exact .inr (.inr (.inr (by decide))))
      | (have e3 : y = 3 := by omega
         rw [e3]
         exact .inr (.inr (.inr (by decide))))
      | (have e3 : y = 4 := by omega
         rw [e3]
         exact .inr (.inr (.inr (by decide))))
      | (have e3 : y = 5 := by omega
         rw [e3]
         exact .inr (.inr (.inr (by decide))))
      | skip
theorem vctogF1_6 : VC TTtogF invtogF mstogF 1 ttogF1 wtogF1_6 := by
  intro ρ kn hi hp
  have hi : ivtogF1 ρ := hi
  unfold ivtogF1 at hi
  have hF : ρ.z.F = hold.Φ := kn.F
  simp only [h_nil, h_cons, d_le, d_eq, d_not, d_var, d_lit, d_cel, d_leq, d_fn, d_and, d_iff, IE.den, LE.den, AL.den, lenV, true_and, and_true, pctogF1_11, pctogF1_8, pctogF1_6, pctogF1_4, pctogF1_2, pctogF1_0, hF, pi1, pb1, pb2, pb3, pb4, pb5, pb6] at hp
  obtain ⟨p1, p2, p3, p4, p5, p6, p7, p8, p9, p10, p11, p12, p13⟩ := hp
  refine (show (∀ x y : Int, 0 ≤ y → y ≤ x → (x < (ρ.i .i64 1000) ∨ (x = (ρ.i .i64 1000) ∧ y < ((ρ.i .i64 1002) + (1 : Int)))) → (cntN (ρ.z.rl 0) x (ρ.z.rl 0).length = 0 ∨ cntN (ρ.z.rl 0) y (ρ.z.rl 0).length = 0 ∨ (x = y ∧ cntN (ρ.z.rl 0) x (ρ.z.rl 0).length ≤ 1) ∨ fitsN x y = true)) ∧ (((6 - (ρ.i .i64 1000).toNat) * 10 + (9 - ((ρ.i .i64 1002) + (1 : Int)).toNat) : Nat) < (6 - (ρ.i .i64 1000).toNat) * 10 + (9 - (ρ.i .i64 1002).toNat)) from ?_)
  have cl : ∀ m, clampK .i64 (cntN (ρ.z.rl 0) m (ρ.z.rl 0).length : Int) = (cntN (ρ.z.rl 0) m (ρ.z.rl 0).length : Int) := fun m => clampS (by omega) (by have := cnt_le (ρ.z.rl 0) m (ρ.z.rl 0).length; omega)
  try simp only [cl] at *
  refine ⟨fun x y h1 h2 h3 => ?_, by omega⟩
  by_cases hh : x < ρ.i .i64 1000 ∨ (x = ρ.i .i64 1000 ∧ y < ρ.i .i64 1002)
  · exact hi x y h1 h2 hh
  · have e1 : x = 1 := by omega
    have e2 : y = 0 := by omega
    subst e2
    subst e1
    first
      | exact .inl (by omega)
      | exact .inr (.inl (by omega))
      | exact .inr (.inr (.inl ⟨by omega, by omega⟩))
      | exact .inr (.inr (.inr (by decide)))
      | (have e3 : y = 0 := by omega
         rw [e3]
         exact .inr (.inr (.inr (by decide))))
      | (have e3 : y = 1 := by omega
         rw [e3]
         exact .inr (.inr (.inr (by decide))))
      | (have e3 : y = 2 := by omega
         rw [e3]
         exact .inr (.inr (.inr (by decide))))
      | (have e3 : y = 3 := by omega
         rw [e3]
         exact .inr (.inr (.inr (by decide))))
      | (have e3 : y = 4 := by omega
         rw [e3]
         exact .inr (.inr (.inr (by decide))))
      | (have e3 : y = 5 := by omega
         rw [e3]
         exact .inr (.inr (.inr (by decide))))
      | skip
theorem vctogF1_7 : VC TTtogF invtogF mstogF 1 ttogF1 wtogF1_7 := by
  intro ρ kn hi hp
  have hi : ivtogF1 ρ := hi
  unfold ivtogF1 at hi
  have hF : ρ.z.F = hold.Φ := kn.F
  simp only [h_nil, h_cons, d_le, d_eq, d_not, d_var, d_lit, d_cel, d_leq, d_fn, d_and, d_iff, IE.den, LE.den, AL.den, lenV, true_and, and_true, pctogF1_11, pctogF1_8, pctogF1_6, pctogF1_4, pctogF1_2, pctogF1_0, hF, pi1, pb1, pb2, pb3, pb4, pb5, pb6] at hp
  obtain ⟨p1, p2, p3, p4, p5, p6, p7, p8, p9, p10, p11, p12, p13⟩ := hp
  refine (show (∀ x y : Int, 0 ≤ y → y ≤ x → (x < (ρ.i .i64 1000) ∨ (x = (ρ.i .i64 1000) ∧ y < ((ρ.i .i64 1002) + (1 : Int)))) → (cntN (ρ.z.rl 0) x (ρ.z.rl 0).length = 0 ∨ cntN (ρ.z.rl 0) y (ρ.z.rl 0).length = 0 ∨ (x = y ∧ cntN (ρ.z.rl 0) x (ρ.z.rl 0).length ≤ 1) ∨ fitsN x y = true)) ∧ (((6 - (ρ.i .i64 1000).toNat) * 10 + (9 - ((ρ.i .i64 1002) + (1 : Int)).toNat) : Nat) < (6 - (ρ.i .i64 1000).toNat) * 10 + (9 - (ρ.i .i64 1002).toNat)) from ?_)
  have cl : ∀ m, clampK .i64 (cntN (ρ.z.rl 0) m (ρ.z.rl 0).length : Int) = (cntN (ρ.z.rl 0) m (ρ.z.rl 0).length : Int) := fun m => clampS (by omega) (by have := cnt_le (ρ.z.rl 0) m (ρ.z.rl 0).length; omega)
  try simp only [cl] at *
  refine ⟨fun x y h1 h2 h3 => ?_, by omega⟩
  by_cases hh : x < ρ.i .i64 1000 ∨ (x = ρ.i .i64 1000 ∧ y < ρ.i .i64 1002)
  · exact hi x y h1 h2 hh
  · have e1 : x = 1 := by omega
    have e2 : y = 0 := by omega
    subst e2
    subst e1
    first
      | exact .inl (by omega)
      | exact .inr (.inl (by omega))
      | exact .inr (.inr (.inl ⟨by omega, by omega⟩))
      | exact .inr (.inr (.inr (by decide)))
      | (have e3 : y = 0 := by omega
         rw [e3]
         exact .inr (.inr (.inr (by decide))))
      | (have e3 : y = 1 := by omega
         rw [e3]
         exact .inr (.inr (.inr (by decide))))
      | (have e3 : y = 2 := by omega
         rw [e3]
         exact .inr (.inr (.inr (by decide))))
      | (have e3 : y = 3 := by omega
         rw [e3]
         exact .inr (.inr (.inr (by decide))))
      | (have e3 : y = 4 := by omega
         rw [e3]
         exact .inr (.inr (.inr (by decide))))
      | (have e3 : y = 5 := by omega
         rw [e3]
         exact .inr (.inr (.inr (by decide))))
      | skip
theorem vctogF1_8 : VC TTtogF invtogF mstogF 1 ttogF1 wtogF1_8 := by
  intro ρ kn hi hp
  have hi : ivtogF1 ρ := hi
  unfold ivtogF1 at hi
  have hF : ρ.z.F = hold.Φ := kn.F
  simp only [h_nil, h_cons, d_le, d_eq, d_not, d_var, d_lit, d_cel, d_leq, d_fn, d_and, d_iff, IE.den, LE.den, AL.den, lenV, true_and, and_true, pctogF1_12, pctogF1_8, pctogF1_6, pctogF1_4, pctogF1_2, pctogF1_0, hF, pi1, pb1, pb2, pb3, pb4, pb5, pb6] at hp
  obtain ⟨p1, p2, p3, p4, p5, p6, p7, p8, p9, p10, p11, p12, p13⟩ := hp
  refine (show (∀ x y : Int, 0 ≤ y → y ≤ x → (x < (ρ.i .i64 1000) ∨ (x = (ρ.i .i64 1000) ∧ y < ((ρ.i .i64 1002) + (1 : Int)))) → (cntN (ρ.z.rl 0) x (ρ.z.rl 0).length = 0 ∨ cntN (ρ.z.rl 0) y (ρ.z.rl 0).length = 0 ∨ (x = y ∧ cntN (ρ.z.rl 0) x (ρ.z.rl 0).length ≤ 1) ∨ fitsN x y = true)) ∧ (((6 - (ρ.i .i64 1000).toNat) * 10 + (9 - ((ρ.i .i64 1002) + (1 : Int)).toNat) : Nat) < (6 - (ρ.i .i64 1000).toNat) * 10 + (9 - (ρ.i .i64 1002).toNat)) from ?_)
  have cl : ∀ m, clampK .i64 (cntN (ρ.z.rl 0) m (ρ.z.rl 0).length : Int) = (cntN (ρ.z.rl 0) m (ρ.z.rl 0).length : Int) := fun m => clampS (by omega) (by have := cnt_le (ρ.z.rl 0) m (ρ.z.rl 0).length; omega)
  try simp only [cl] at *
  refine ⟨fun x y h1 h2 h3 => ?_, by omega⟩
  by_cases hh : x < ρ.i .i64 1000 ∨ (x = ρ.i .i64 1000 ∧ y < ρ.i .i64 1002)
  · exact hi x y h1 h2 hh
  · have e1 : x = 1 := by omega
    subst e1
    first
      | exact .inl (by omega)
      | exact .inr (.inl (by omega))
      | exact .inr (.inr (.inl ⟨by omega, by omega⟩))
      | exact .inr (.inr (.inr (by decide)))
      | (have e3 : y = 0 := by omega
         rw [e3]
         exact .inr (.inr (.inr (by decide))))
      | (have e3 : y = 1 := by omega
         rw [e3]
         exact .inr (.inr (.inr (by decide))))
      | (have e3 : y = 2 := by omega
         rw [e3]
         exact .inr (.inr (.inr (by decide))))
      | (have e3 : y = 3 := by omega
         rw [e3]
         exact .inr (.inr (.inr (by decide))))
      | (have e3 : y = 4 := by omega
         rw [e3]
         exact .inr (.inr (.inr (by decide))))
      | (have e3 : y = 5 := by omega
         rw [e3]
         exact .inr (.inr (.inr (by decide))))
      | skip
theorem vctogF1_9 : VC TTtogF invtogF mstogF 1 ttogF1 wtogF1_9 := by
  intro ρ kn hi hp
  have hi : ivtogF1 ρ := hi
  unfold ivtogF1 at hi
  have hF : ρ.z.F = hold.Φ := kn.F
  simp only [h_nil, h_cons, d_le, d_eq, d_not, d_var, d_lit, d_cel, d_leq, d_fn, d_and, d_iff, IE.den, LE.den, AL.den, lenV, true_and, and_true, pctogF1_12, pctogF1_8, pctogF1_6, pctogF1_4, pctogF1_2, pctogF1_0, hF, pi1, pb1, pb2, pb3, pb4, pb5, pb6] at hp
  obtain ⟨p1, p2, p3, p4, p5, p6, p7, p8, p9, p10, p11, p12, p13⟩ := hp
  refine (show (∀ x y : Int, 0 ≤ y → y ≤ x → (x < (ρ.i .i64 1000) ∨ (x = (ρ.i .i64 1000) ∧ y < ((ρ.i .i64 1002) + (1 : Int)))) → (cntN (ρ.z.rl 0) x (ρ.z.rl 0).length = 0 ∨ cntN (ρ.z.rl 0) y (ρ.z.rl 0).length = 0 ∨ (x = y ∧ cntN (ρ.z.rl 0) x (ρ.z.rl 0).length ≤ 1) ∨ fitsN x y = true)) ∧ (((6 - (ρ.i .i64 1000).toNat) * 10 + (9 - ((ρ.i .i64 1002) + (1 : Int)).toNat) : Nat) < (6 - (ρ.i .i64 1000).toNat) * 10 + (9 - (ρ.i .i64 1002).toNat)) from ?_)
  have cl : ∀ m, clampK .i64 (cntN (ρ.z.rl 0) m (ρ.z.rl 0).length : Int) = (cntN (ρ.z.rl 0) m (ρ.z.rl 0).length : Int) := fun m => clampS (by omega) (by have := cnt_le (ρ.z.rl 0) m (ρ.z.rl 0).length; omega)
  try simp only [cl] at *
  refine ⟨fun x y h1 h2 h3 => ?_, by omega⟩
  by_cases hh : x < ρ.i .i64 1000 ∨ (x = ρ.i .i64 1000 ∧ y < ρ.i .i64 1002)
  · exact hi x y h1 h2 hh
  · have e1 : x = 1 := by omega
    subst e1
    first
      | exact .inl (by omega)
      | exact .inr (.inl (by omega))
      | exact .inr (.inr (.inl ⟨by omega, by omega⟩))
      | exact .inr (.inr (.inr (by decide)))
      | (have e3 : y = 0 := by omega
         rw [e3]
         exact .inr (.inr (.inr (by decide))))
      | (have e3 : y = 1 := by omega
         rw [e3]
         exact .inr (.inr (.inr (by decide))))
      | (have e3 : y = 2 := by omega
         rw [e3]
         exact .inr (.inr (.inr (by decide))))
      | (have e3 : y = 3 := by omega
         rw [e3]
         exact .inr (.inr (.inr (by decide))))
      | (have e3 : y = 4 := by omega
         rw [e3]
         exact .inr (.inr (.inr (by decide))))
      | (have e3 : y = 5 := by omega
         rw [e3]
         exact .inr (.inr (.inr (by decide))))
      | skip
theorem vctogF1_10 : VC TTtogF invtogF mstogF 1 ttogF1 wtogF1_10 := by
  intro ρ kn hi hp
  have hi : ivtogF1 ρ := hi
  unfold ivtogF1 at hi
  have hF : ρ.z.F = hold.Φ := kn.F
  simp only [h_nil, h_cons, d_le, d_eq, d_not, d_var, d_lit, d_cel, d_leq, d_fn, d_and, d_iff, IE.den, LE.den, AL.den, lenV, true_and, and_true, pctogF1_9, pctogF1_7, pctogF1_4, pctogF1_2, pctogF1_0, hF, pi1, pb1, pb2, pb3, pb4, pb5, pb6] at hp
  obtain ⟨p1, p2, p3, p4, p5, p6, p7, p8, p9, p10, p11, p12⟩ := hp
  refine (show (∀ x y : Int, 0 ≤ y → y ≤ x → (x < (ρ.i .i64 1000) ∨ (x = (ρ.i .i64 1000) ∧ y < ((ρ.i .i64 1002) + (1 : Int)))) → (cntN (ρ.z.rl 0) x (ρ.z.rl 0).length = 0 ∨ cntN (ρ.z.rl 0) y (ρ.z.rl 0).length = 0 ∨ (x = y ∧ cntN (ρ.z.rl 0) x (ρ.z.rl 0).length ≤ 1) ∨ fitsN x y = true)) ∧ (((6 - (ρ.i .i64 1000).toNat) * 10 + (9 - ((ρ.i .i64 1002) + (1 : Int)).toNat) : Nat) < (6 - (ρ.i .i64 1000).toNat) * 10 + (9 - (ρ.i .i64 1002).toNat)) from ?_)
  have cl : ∀ m, clampK .i64 (cntN (ρ.z.rl 0) m (ρ.z.rl 0).length : Int) = (cntN (ρ.z.rl 0) m (ρ.z.rl 0).length : Int) := fun m => clampS (by omega) (by have := cnt_le (ρ.z.rl 0) m (ρ.z.rl 0).length; omega)
  try simp only [cl] at *
  refine ⟨fun x y h1 h2 h3 => ?_, by omega⟩
  by_cases hh : x < ρ.i .i64 1000 ∨ (x = ρ.i .i64 1000 ∧ y < ρ.i .i64 1002)
  · exact hi x y h1 h2 hh
  · have e1 : x = 2 := by omega
    subst e1
    first
      | exact .inl (by omega)
      | exact .inr (.inl (by omega))
      | exact .inr (.inr (.inl ⟨by omega, by omega⟩))
      | exact .inr (.inr (.inr (by decide)))
      | (have e3 : y = 0 := by omega
         rw [e3]
         exact .inr (.inr (.inr (by decide))))
      | (have e3 : y = 1 := by omega
         rw [e3]
         exact .inr (.inr (.inr (by decide))))
      | (have e3 : y = 2 := by omega
         rw [e3]
         exact .inr (.inr (.inr (by decide))))
      | (have e3 : y = 3 := by omega
         rw [e3]
         exact .inr (.inr (.inr (by decide))))
      | (have e3 : y = 4 := by omega
         rw [e3]
         exact .inr (.inr (.inr (by decide))))
      | (have e3 : y = 5 := by omega
         rw [e3]
         exact .inr (.inr (.inr (by decide))))
      | skip
theorem vctogF1_11 : VC TTtogF invtogF mstogF 1 ttogF1 wtogF1_11 := by
  intro ρ kn hi hp
  have hi : ivtogF1 ρ := hi
  unfold ivtogF1 at hi
  have hF : ρ.z.F = hold.Φ := kn.F
  simp only [h_nil, h_cons, d_le, d_eq, d_not, d_var, d_lit, d_cel, d_leq, d_fn, d_and, d_iff, IE.den, LE.den, AL.den, lenV, true_and, and_true, pctogF1_16, pctogF1_13, pctogF1_9, pctogF1_7, pctogF1_4, pctogF1_2, pctogF1_0, hF, pi1, pb1, pb2, pb3, pb4, pb5, pb6] at hp
  obtain ⟨p1, p2, p3, p4, p5, p6, p7, p8, p9, p10, p11, p12, p13, p14⟩ := hp
  refine (show (∀ x y : Int, 0 ≤ y → y ≤ x → (x < (ρ.i .i64 1000) ∨ (x = (ρ.i .i64 1000) ∧ y < ((ρ.i .i64 1002) + (1 : Int)))) → (cntN (ρ.z.rl 0) x (ρ.z.rl 0).length = 0 ∨ cntN (ρ.z.rl 0) y (ρ.z.rl 0).length = 0 ∨ (x = y ∧ cntN (ρ.z.rl 0) x (ρ.z.rl 0).length ≤ 1) ∨ fitsN x y = true)) ∧ (((6 - (ρ.i .i64 1000).toNat) * 10 + (9 - ((ρ.i .i64 1002) + (1 : Int)).toNat) : Nat) < (6 - (ρ.i .i64 1000).toNat) * 10 + (9 - (ρ.i .i64 1002).toNat)) from ?_)
  have cl : ∀ m, clampK .i64 (cntN (ρ.z.rl 0) m (ρ.z.rl 0).length : Int) = (cntN (ρ.z.rl 0) m (ρ.z.rl 0).length : Int) := fun m => clampS (by omega) (by have := cnt_le (ρ.z.rl 0) m (ρ.z.rl 0).length; omega)
  try simp only [cl] at *
  refine ⟨fun x y h1 h2 h3 => ?_, by omega⟩
  by_cases hh : x < ρ.i .i64 1000 ∨ (x = ρ.i .i64 1000 ∧ y < ρ.i .i64 1002)
  · exact hi x y h1 h2 hh
  · have e1 : x = 2 := by omega
    have e2 : y = 0 := by omega
    subst e2
    subst e1
    first
      | exact .inl (by omega)
      | exact .inr (.inl (by omega))
      | exact .inr (.inr (.inl ⟨by omega, by omega⟩))
      | exact .inr (.inr (.inr (by decide)))
      | (have e3 : y = 0 := by omega
         rw [e3]
         exact .inr (.inr (.inr (by decide))))
      | (have e3 : y = 1 := by omega
         rw [e3]
         exact .inr (.inr (.inr (by decide))))
      | (have e3 : y = 2 := by omega
         rw [e3]
         exact .inr (.inr (.inr (by decide))))
      | (have e3 : y = 3 := by omega
         rw [e3]
         exact .inr (.inr (.inr (by decide))))
      | (have e3 : y = 4 := by omega
         rw [e3]
         exact .inr (.inr (.inr (by decide))))
      | (have e3 : y = 5 := by omega
         rw [e3]
         exact .inr (.inr (.inr (by decide))))
      | skip
theorem vctogF1_12 : VC TTtogF invtogF mstogF 1 ttogF1 wtogF1_12 := by
  intro ρ kn hi hp
  have hi : ivtogF1 ρ := hi
  unfold ivtogF1 at hi
  have hF : ρ.z.F = hold.Φ := kn.F
  simp only [h_nil, h_cons, d_le, d_eq, d_not, d_var, d_lit, d_cel, d_leq, d_fn, d_and, d_iff, IE.den, LE.den, AL.den, lenV, true_and, and_true, pctogF1_16, pctogF1_13, pctogF1_9, pctogF1_7, pctogF1_4, pctogF1_2, pctogF1_0, hF, pi1, pb1, pb2, pb3, pb4, pb5, pb6] at hp
  obtain ⟨p1, p2, p3, p4, p5, p6, p7, p8, p9, p10, p11, p12, p13, p14⟩ := hp
  refine (show (∀ x y : Int, 0 ≤ y → y ≤ x → (x < (ρ.i .i64 1000) ∨ (x = (ρ.i .i64 1000) ∧ y < ((ρ.i .i64 1002) + (1 : Int)))) → (cntN (ρ.z.rl 0) x (ρ.z.rl 0).length = 0 ∨ cntN (ρ.z.rl 0) y (ρ.z.rl 0).length = 0 ∨ (x = y ∧ cntN (ρ.z.rl 0) x (ρ.z.rl 0).length ≤ 1) ∨ fitsN x y = true)) ∧ (((6 - (ρ.i .i64 1000).toNat) * 10 + (9 - ((ρ.i .i64 1002) + (1 : Int)).toNat) : Nat) < (6 - (ρ.i .i64 1000).toNat) * 10 + (9 - (ρ.i .i64 1002).toNat)) from ?_)
  have cl : ∀ m, clampK .i64 (cntN (ρ.z.rl 0) m (ρ.z.rl 0).length : Int) = (cntN (ρ.z.rl 0) m (ρ.z.rl 0).length : Int) := fun m => clampS (by omega) (by have := cnt_le (ρ.z.rl 0) m (ρ.z.rl 0).length; omega)
  try simp only [cl] at *
  refine ⟨fun x y h1 h2 h3 => ?_, by omega⟩
  by_cases hh : x < ρ.i .i64 1000 ∨ (x = ρ.i .i64 1000 ∧ y < ρ.i .i64 1002)
  · exact hi x y h1 h2 hh
  · have e1 : x = 2 := by omega
    have e2 : y = 0 := by omega
    subst e2
    subst e1
    first
      | exact .inl (by omega)
      | exact .inr (.inl (by omega))
      | exact .inr (.inr (.inl ⟨by omega, by omega⟩))
      | exact .inr (.inr (.inr (by decide)))
      | (have e3 : y = 0 := by omega
         rw [e3]
         exact .inr (.inr (.inr (by decide))))
      | (have e3 : y = 1 := by omega
         rw [e3]
         exact .inr (.inr (.inr (by decide))))
      | (have e3 : y = 2 := by omega
         rw [e3]
         exact .inr (.inr (.inr (by decide))))
      | (have e3 : y = 3 := by omega
         rw [e3]
         exact .inr (.inr (.inr (by decide))))
      | (have e3 : y = 4 := by omega
         rw [e3]
         exact .inr (.inr (.inr (by decide))))
      | (have e3 : y = 5 := by omega
         rw [e3]
         exact .inr (.inr (.inr (by decide))))
      | skip
theorem vctogF1_13 : VC TTtogF invtogF mstogF 1 ttogF1 wtogF1_13 := by
  intro ρ kn hi hp
  have hi : ivtogF1 ρ := hi
  unfold ivtogF1 at hi
  have hF : ρ.z.F = hold.Φ := kn.F
  simp only [h_nil, h_cons, d_le, d_eq, d_not, d_var, d_lit, d_cel, d_leq, d_fn, d_and, d_iff, IE.den, LE.den, AL.den, lenV, true_and, and_true, pctogF1_21, pctogF1_17, pctogF1_13, pctogF1_9, pctogF1_7, pctogF1_4, pctogF1_2, pctogF1_0, hF, pi1, pb1, pb2, pb3, pb4, pb5, pb6] at hp
  obtain ⟨p1, p2, p3, p4, p5, p6, p7, p8, p9, p10, p11, p12, p13, p14, p15⟩ := hp
  refine (show (∀ x y : Int, 0 ≤ y → y ≤ x → (x < (ρ.i .i64 1000) ∨ (x = (ρ.i .i64 1000) ∧ y < ((ρ.i .i64 1002) + (1 : Int)))) → (cntN (ρ.z.rl 0) x (ρ.z.rl 0).length = 0 ∨ cntN (ρ.z.rl 0) y (ρ.z.rl 0).length = 0 ∨ (x = y ∧ cntN (ρ.z.rl 0) x (ρ.z.rl 0).length ≤ 1) ∨ fitsN x y = true)) ∧ (((6 - (ρ.i .i64 1000).toNat) * 10 + (9 - ((ρ.i .i64 1002) + (1 : Int)).toNat) : Nat) < (6 - (ρ.i .i64 1000).toNat) * 10 + (9 - (ρ.i .i64 1002).toNat)) from ?_)
  have cl : ∀ m, clampK .i64 (cntN (ρ.z.rl 0) m (ρ.z.rl 0).length : Int) = (cntN (ρ.z.rl 0) m (ρ.z.rl 0).length : Int) := fun m => clampS (by omega) (by have := cnt_le (ρ.z.rl 0) m (ρ.z.rl 0).length; omega)
  try simp only [cl] at *
  refine ⟨fun x y h1 h2 h3 => ?_, by omega⟩
  by_cases hh : x < ρ.i .i64 1000 ∨ (x = ρ.i .i64 1000 ∧ y < ρ.i .i64 1002)
  · exact hi x y h1 h2 hh
  · have e1 : x = 2 := by omega
    have e2 : y = 1 := by omega
    subst e2
    subst e1
    first
      | exact .inl (by omega)
      | exact .inr (.inl (by omega))
      | exact .inr (.inr (.inl ⟨by omega, by omega⟩))
      | exact .inr (.inr (.inr (by decide)))
      | (have e3 : y = 0 := by omega
         rw [e3]
         exact .inr (.inr (.inr (by decide))))
      | (have e3 : y = 1 := by omega
         rw [e3]
         exact .inr (.inr (.inr (by decide))))
      | (have e3 : y = 2 := by omega
         rw [e3]
         exact .inr (.inr (.inr (by decide))))
      | (have e3 : y = 3 := by omega
         rw [e3]
         exact .inr (.inr (.inr (by decide))))
      | (have e3 : y = 4 := by omega
         rw [e3]
         exact .inr (.inr (.inr (by decide))))
      | (have e3 : y = 5 := by omega
         rw [e3]
         exact .inr (.inr (.inr (by decide))))
      | skip
theorem vctogF1_14 : VC TTtogF invtogF mstogF 1 ttogF1 wtogF1_14 := by
  intro ρ kn hi hp
  have hi : ivtogF1 ρ := hi
  unfold ivtogF1 at hi
  have hF : ρ.z.F = hold.Φ := kn.F
  simp only [h_nil, h_cons, d_le, d_eq, d_not, d_var, d_lit, d_cel, d_leq, d_fn, d_and, d_iff, IE.den, LE.den, AL.den, lenV, true_and, and_true, pctogF1_21, pctogF1_17, pctogF1_13, pctogF1_9, pctogF1_7, pctogF1_4, pctogF1_2, pctogF1_0, hF, pi1, pb1, pb2, pb3, pb4, pb5, pb6] at hp
  obtain ⟨p1, p2, p3, p4, p5, p6, p7, p8, p9, p10, p11, p12, p13, p14, p15⟩ := hp
  refine (show (∀ x y : Int, 0 ≤ y → y ≤ x → (x < (ρ.i .i64 1000) ∨ (x = (ρ.i .i64 1000) ∧ y < ((ρ.i .i64 1002) + (1 : Int)))) → (cntN (ρ.z.rl 0) x (ρ.z.rl 0).length = 0 ∨ cntN (ρ.z.rl 0) y (ρ.z.rl 0).length = 0 ∨ (x = y ∧ cntN (ρ.z.rl 0) x (ρ.z.rl 0).length ≤ 1) ∨ fitsN x y = true)) ∧ (((6 - (ρ.i .i64 1000).toNat) * 10 + (9 - ((ρ.i .i64 1002) + (1 : Int)).toNat) : Nat) < (6 - (ρ.i .i64 1000).toNat) * 10 + (9 - (ρ.i .i64 1002).toNat)) from ?_)
  have cl : ∀ m, clampK .i64 (cntN (ρ.z.rl 0) m (ρ.z.rl 0).length : Int) = (cntN (ρ.z.rl 0) m (ρ.z.rl 0).length : Int) := fun m => clampS (by omega) (by have := cnt_le (ρ.z.rl 0) m (ρ.z.rl 0).length; omega)
  try simp only [cl] at *
  refine ⟨fun x y h1 h2 h3 => ?_, by omega⟩
  by_cases hh : x < ρ.i .i64 1000 ∨ (x = ρ.i .i64 1000 ∧ y < ρ.i .i64 1002)
  · exact hi x y h1 h2 hh
  · have e1 : x = 2 := by omega
    have e2 : y = 1 := by omega
    subst e2
    subst e1
    first
      | exact .inl (by omega)
      | exact .inr (.inl (by omega))
      | exact .inr (.inr (.inl ⟨by omega, by omega⟩))
      | exact .inr (.inr (.inr (by decide)))
      | (have e3 : y = 0 := by omega
         rw [e3]
         exact .inr (.inr (.inr (by decide))))
      | (have e3 : y = 1 := by omega
         rw [e3]
         exact .inr (.inr (.inr (by decide))))
      | (have e3 : y = 2 := by omega
         rw [e3]
         exact .inr (.inr (.inr (by decide))))
      | (have e3 : y = 3 := by omega
         rw [e3]
         exact .inr (.inr (.inr (by decide))))
      | (have e3 : y = 4 := by omega
         rw [e3]
         exact .inr (.inr (.inr (by decide))))
      | (have e3 : y = 5 := by omega
         rw [e3]
         exact .inr (.inr (.inr (by decide))))
      | skip
theorem vctogF1_15 : VC TTtogF invtogF mstogF 1 ttogF1 wtogF1_15 := by
  intro ρ kn hi hp
  have hi : ivtogF1 ρ := hi
  unfold ivtogF1 at hi
  have hF : ρ.z.F = hold.Φ := kn.F
  simp only [h_nil, h_cons, d_le, d_eq, d_not, d_var, d_lit, d_cel, d_leq, d_fn, d_and, d_iff, IE.den, LE.den, AL.den, lenV, true_and, and_true, pctogF1_22, pctogF1_17, pctogF1_13, pctogF1_9, pctogF1_7, pctogF1_4, pctogF1_2, pctogF1_0, hF, pi1, pb1, pb2, pb3, pb4, pb5, pb6] at hp
  obtain ⟨p1, p2, p3, p4, p5, p6, p7, p8, p9, p10, p11, p12, p13, p14, p15⟩ := hp
  refine (show (∀ x y : Int, 0 ≤ y → y ≤ x → (x < (ρ.i .i64 1000) ∨ (x = (ρ.i .i64 1000) ∧ y < ((ρ.i .i64 1002) + (1 : Int)))) → (cntN (ρ.z.rl 0) x (ρ.z.rl 0).length = 0 ∨ cntN (ρ.z.rl 0) y (ρ.z.rl 0).length = 0 ∨ (x = y ∧ cntN (ρ.z.rl 0) x (ρ.z.rl 0).length ≤ 1) ∨ fitsN x y = true)) ∧ (((6 - (ρ.i .i64 1000).toNat) * 10 + (9 - ((ρ.i .i64 1002) + (1 : Int)).toNat) : Nat) < (6 - (ρ.i .i64 1000).toNat) * 10 + (9 - (ρ.i .i64 1002).toNat)) from ?_)
  have cl : ∀ m, clampK .i64 (cntN (ρ.z.rl 0) m (ρ.z.rl 0).length : Int) = (cntN (ρ.z.rl 0) m (ρ.z.rl 0).length : Int) := fun m => clampS (by omega) (by have := cnt_le (ρ.z.rl 0) m (ρ.z.rl 0).length; omega)
  try simp only [cl] at *
  refine ⟨fun x y h1 h2 h3 => ?_, by omega⟩
  by_cases hh : x < ρ.i .i64 1000 ∨ (x = ρ.i .i64 1000 ∧ y < ρ.i .i64 1002)
  · exact hi x y h1 h2 hh
  · have e1 : x = 2 := by omega
    subst e1
    first
      | exact .inl (by omega)
      | exact .inr (.inl (by omega))
      | exact .inr (.inr (.inl ⟨by omega, by omega⟩))
      | exact .inr (.inr (.inr (by decide)))
      | (have e3 : y = 0 := by omega
         rw [e3]
         exact .inr (.inr (.inr (by decide))))
      | (have e3 : y = 1 := by omega
         rw [e3]
         exact .inr (.inr (.inr (by decide))))
      | (have e3 : y = 2 := by omega
         rw [e3]
         exact .inr (.inr (.inr (by decide))))
      | (have e3 : y = 3 := by omega
         rw [e3]
         exact .inr (.inr (.inr (by decide))))
      | (have e3 : y = 4 := by omega
         rw [e3]
         exact .inr (.inr (.inr (by decide))))
      | (have e3 : y = 5 := by omega
         rw [e3]
         exact .inr (.inr (.inr (by decide))))
      | skip
theorem vctogF1_16 : VC TTtogF invtogF mstogF 1 ttogF1 wtogF1_16 := by
  intro ρ kn hi hp
  have hi : ivtogF1 ρ := hi
  unfold ivtogF1 at hi
  have hF : ρ.z.F = hold.Φ := kn.F
  simp only [h_nil, h_cons, d_le, d_eq, d_not, d_var, d_lit, d_cel, d_leq, d_fn, d_and, d_iff, IE.den, LE.den, AL.den, lenV, true_and, and_true, pctogF1_22, pctogF1_17, pctogF1_13, pctogF1_9, pctogF1_7, pctogF1_4, pctogF1_2, pctogF1_0, hF, pi1, pb1, pb2, pb3, pb4, pb5, pb6] at hp
  obtain ⟨p1, p2, p3, p4, p5, p6, p7, p8, p9, p10, p11, p12, p13, p14, p15⟩ := hp
  refine (show (∀ x y : Int, 0 ≤ y → y ≤ x → (x < (ρ.i .i64 1000) ∨ (x = (ρ.i .i64 1000) ∧ y < ((ρ.i .i64 1002) + (1 : Int)))) → (cntN (ρ.z.rl 0) x (ρ.z.rl 0).length = 0 ∨ cntN (ρ.z.rl 0) y (ρ.z.rl 0).length = 0 ∨ (x = y ∧ cntN (ρ.z.rl 0) x (ρ.z.rl 0).length ≤ 1) ∨ fitsN x y = true)) ∧ (((6 - (ρ.i .i64 1000).toNat) * 10 + (9 - ((ρ.i .i64 1002) + (1 : Int)).toNat) : Nat) < (6 - (ρ.i .i64 1000).toNat) * 10 + (9 - (ρ.i .i64 1002).toNat)) from ?_)
  have cl : ∀ m, clampK .i64 (cntN (ρ.z.rl 0) m (ρ.z.rl 0).length : Int) = (cntN (ρ.z.rl 0) m (ρ.z.rl 0).length : Int) := fun m => clampS (by omega) (by have := cnt_le (ρ.z.rl 0) m (ρ.z.rl 0).length; omega)
  try simp only [cl] at *
  refine ⟨fun x y h1 h2 h3 => ?_, by omega⟩
  by_cases hh : x < ρ.i .i64 1000 ∨ (x = ρ.i .i64 1000 ∧ y < ρ.i .i64 1002)
  · exact hi x y h1 h2 hh
  · have e1 : x = 2 := by omega
    subst e1
    first
      | exact .inl (by omega)
      | exact .inr (.inl (by omega))
      | exact .inr (.inr (.inl ⟨by omega, by omega⟩))
      | exact .inr (.inr (.inr (by decide)))
      | (have e3 : y = 0 := by omega
         rw [e3]
         exact .inr (.inr (.inr (by decide))))
      | (have e3 : y = 1 := by omega
         rw [e3]
         exact .inr (.inr (.inr (by decide))))
      | (have e3 : y = 2 := by omega
         rw [e3]
         exact .inr (.inr (.inr (by decide))))
      | (have e3 : y = 3 := by omega
         rw [e3]
         exact .inr (.inr (.inr (by decide))))
      | (have e3 : y = 4 := by omega
         rw [e3]
         exact .inr (.inr (.inr (by decide))))
      | (have e3 : y = 5 := by omega
         rw [e3]
         exact .inr (.inr (.inr (by decide))))
      | skip
theorem vctogF1_17 : VC TTtogF invtogF mstogF 1 ttogF1 wtogF1_17 := by
  intro ρ kn hi hp
  have hi : ivtogF1 ρ := hi
  unfold ivtogF1 at hi
  have hF : ρ.z.F = hold.Φ := kn.F
  simp only [h_nil, h_cons, d_le, d_eq, d_not, d_var, d_lit, d_cel, d_leq, d_fn, d_and, d_iff, IE.den, LE.den, AL.den, lenV, true_and, and_true, pctogF1_14, pctogF1_10, pctogF1_7, pctogF1_4, pctogF1_2, pctogF1_0, hF, pi1, pb1, pb2, pb3, pb4, pb5, pb6] at hp
  obtain ⟨p1, p2, p3, p4, p5, p6, p7, p8, p9, p10, p11, p12, p13⟩ := hp
  refine (show (∀ x y : Int, 0 ≤ y → y ≤ x → (x < (ρ.i .i64 1000) ∨ (x = (ρ.i .i64 1000) ∧ y < ((ρ.i .i64 1002) + (1 : Int)))) → (cntN (ρ.z.rl 0) x (ρ.z.rl 0).length = 0 ∨ cntN (ρ.z.rl 0) y (ρ.z.rl 0).length = 0 ∨ (x = y ∧ cntN (ρ.z.rl 0) x (ρ.z.rl 0).length ≤ 1) ∨ fitsN x y = true)) ∧ (((6 - (ρ.i .i64 1000).toNat) * 10 + (9 - ((ρ.i .i64 1002) + (1 : Int)).toNat) : Nat) < (6 - (ρ.i .i64 1000).toNat) * 10 + (9 - (ρ.i .i64 1002).toNat)) from ?_)
  have cl : ∀ m, clampK .i64 (cntN (ρ.z.rl 0) m (ρ.z.rl 0).length : Int) = (cntN (ρ.z.rl 0) m (ρ.z.rl 0).length : Int) := fun m => clampS (by omega) (by have := cnt_le (ρ.z.rl 0) m (ρ.z.rl 0).length; omega)
  try simp only [cl] at *
  refine ⟨fun x y h1 h2 h3 => ?_, by omega⟩
  by_cases hh : x < ρ.i .i64 1000 ∨ (x = ρ.i .i64 1000 ∧ y < ρ.i .i64 1002)
  · exact hi x y h1 h2 hh
  · have e1 : x = 3 := by omega
    subst e1
    first
      | exact .inl (by omega)
      | exact .inr (.inl (by omega))
      | exact .inr (.inr (.inl ⟨by omega, by omega⟩))
      | exact .inr (.inr (.inr (by decide)))
      | (have e3 : y = 0 := by omega
         rw [e3]
         exact .inr (.inr (.inr (by decide))))
      | (have e3 : y = 1 := by omega
         rw [e3]
         exact .inr (.inr (.inr (by decide))))
      | (have e3 : y = 2 := by omega
         rw [e3]
         exact .inr (.inr (.inr (by decide))))
      | (have e3 : y = 3 := by omega
         rw [e3]
         exact .inr (.inr (.inr (by decide))))
      | (have e3 : y = 4 := by omega
         rw [e3]
         exact .inr (.inr (.inr (by decide))))
      | (have e3 : y = 5 := by omega
         rw [e3]
         exact .inr (.inr (.inr (by decide))))
      | skip
theorem vctogF1_18 : VC TTtogF invtogF mstogF 1 ttogF1 wtogF1_18 := by
  intro ρ kn hi hp
  have hi : ivtogF1 ρ := hi
  unfold ivtogF1 at hi
  have hF : ρ.z.F = hold.Φ := kn.F
  simp only [h_nil, h_cons, d_le, d_eq, d_not, d_var, d_lit, d_cel, d_leq, d_fn, d_and, d_iff, IE.den, LE.den, AL.den, lenV, true_and, and_true, pctogF1_23, pctogF1_18, pctogF1_14, pctogF1_10, pctogF1_7, pctogF1_4, pctogF1_2, pctogF1_0, hF, pi1, pb1, pb2, pb3, pb4, pb5, pb6] at hp
  obtain ⟨p1, p2, p3, p4, p5, p6, p7, p8, p9, p10, p11, p12, p13, p14, p15⟩ := hp
  refine (show (∀ x y : Int, 0 ≤ y → y ≤ x → (x < (ρ.i .i64 1000) ∨ (x = (ρ.i .i64 1000) ∧ y < ((ρ.i .i64 1002) + (1 : Int)))) → (cntN (ρ.z.rl 0) x (ρ.z.rl 0).length = 0 ∨ cntN (ρ.z.rl 0) y (ρ.z.rl 0).length = 0 ∨ (x = y ∧ cntN (ρ.z.rl 0) x (ρ.z.rl 0).length ≤ 1) ∨ fitsN x y = true)) ∧ (((6 - (ρ.i .i64 1000).toNat) * 10 + (9 - ((ρ.i .i64 1002) + (1 : Int)).toNat) : Nat) < (6 - (ρ.i .i64 1000).toNat) * 10 + (9 - (ρ.i .i64 1002).toNat)) from ?_)
  have cl : ∀ m, clampK .i64 (cntN (ρ.z.rl 0) m (ρ.z.rl 0).length : Int) = (cntN (ρ.z.rl 0) m (ρ.z.rl 0).length : Int) := fun m => clampS (by omega) (by have := cnt_le (ρ.z.rl 0) m (ρ.z.rl 0).length; omega)
  try simp only [cl] at *
  refine ⟨fun x y h1 h2 h3 => ?_, by omega⟩
  by_cases hh : x < ρ.i .i64 1000 ∨ (x = ρ.i .i64 1000 ∧ y < ρ.i .i64 1002)
  · exact hi x y h1 h2 hh
  · have e1 : x = 3 := by omega
    have e2 : y = 0 := by omega
    subst e2
    subst e1
    first
      | exact .inl (by omega)
      | exact .inr (.inl (by omega))
      | exact .inr (.inr (.inl ⟨by omega, by omega⟩))
      | exact .inr (.inr (.inr (by decide)))
      | (have e3 : y = 0 := by omega
         rw [e3]
         exact .inr (.inr (.inr (by decide))))
      | (have e3 : y = 1 := by omega
         rw [e3]
         exact .inr (.inr (.inr (by decide))))
      | (have e3 : y = 2 := by omega
         rw [e3]
         exact .inr (.inr (.inr (by decide))))
      | (have e3 : y = 3 := by omega
         rw [e3]
         exact .inr (.inr (.inr (by decide))))
      | (have e3 : y = 4 := by omega
         rw [e3]
         exact .inr (.inr (.inr (by decide))))
      | (have e3 : y = 5 := by omega
         rw [e3]
         exact .inr (.inr (.inr (by decide))))
      | skip
theorem vctogF1_19 : VC TTtogF invtogF mstogF 1 ttogF1 wtogF1_19 := by
  intro ρ kn hi hp
  have hi : ivtogF1 ρ := hi
  unfold ivtogF1 at hi
  have hF : ρ.z.F = hold.Φ := kn.F
  simp only [h_nil, h_cons, d_le, d_eq, d_not, d_var, d_lit, d_cel, d_leq, d_fn, d_and, d_iff, IE.den, LE.den, AL.den, lenV, true_and, and_true, pctogF1_23, pctogF1_18, pctogF1_14, pctogF1_10, pctogF1_7, pctogF1_4, pctogF1_2, pctogF1_0, hF, pi1, pb1, pb2, pb3, pb4, pb5, pb6] at hp
  obtain ⟨p1, p2, p3, p4, p5, p6, p7, p8, p9, p10, p11, p12, p13, p14, p15⟩ := hp
  refine (show (∀ x y : Int, 0 ≤ y → y ≤ x → (x < (ρ.i .i64 1000) ∨ (x = (ρ.i .i64 1000) ∧ y < ((ρ.i .i64 1002) + (1 : Int)))) → (cntN (ρ.z.rl 0) x (ρ.z.rl 0).length = 0 ∨ cntN (ρ.z.rl 0) y (ρ.z.rl 0).length = 0 ∨ (x = y ∧ cntN (ρ.z.rl 0) x (ρ.z.rl 0).length ≤ 1) ∨ fitsN x y = true)) ∧ (((6 - (ρ.i .i64 1000).toNat) * 10 + (9 - ((ρ.i .i64 1002) + (1 : Int)).toNat) : Nat) < (6 - (ρ.i .i64 1000).toNat) * 10 + (9 - (ρ.i .i64 1002).toNat)) from ?_)
  have cl : ∀ m, clampK .i64 (cntN (ρ.z.rl 0) m (ρ.z.rl 0).length : Int) = (cntN (ρ.z.rl 0) m (ρ.z.rl 0).length : Int) := fun m => clampS (by omega) (by have := cnt_le (ρ.z.rl 0) m (ρ.z.rl 0).length; omega)
  try simp only [cl] at *
  refine ⟨fun x y h1 h2 h3 => ?_, by omega⟩
  by_cases hh : x < ρ.i .i64 1000 ∨ (x = ρ.i .i64 1000 ∧ y < ρ.i .i64 1002)
  · exact hi x y h1 h2 hh
  · have e1 : x = 3 := by omega
    have e2 : y = 0 := by omega
    subst e2
    subst e1
    first
      | exact .inl (by omega)
      | exact .inr (.inl (by omega))
      | exact .inr (.inr (.inl ⟨by omega, by omega⟩))
      | exact .inr (.inr (.inr (by decide)))
      | (have e3 : y = 0 := by omega
         rw [e3]
         exact .inr (.inr (.inr (by decide))))
      | (have e3 : y = 1 := by omega
         rw [e3]
         exact .inr (.inr (.inr (by decide))))
      | (have e3 : y = 2 := by omega
         rw [e3]
         exact .inr (.inr (.inr (by decide))))
      | (have e3 : y = 3 := by omega
         rw [e3]
         exact .inr (.inr (.inr (by decide))))
      | (have e3 : y = 4 := by omega
         rw [e3]
         exact .inr (.inr (.inr (by decide))))
      | (have e3 : y = 5 := by omega
         rw [e3]
         exact .inr (.inr (.inr (by decide))))
      | skip
theorem vctogF1_20 : VC TTtogF invtogF mstogF 1 ttogF1 wtogF1_20 := by
  intro ρ kn hi hp
  have hi : ivtogF1 ρ := hi
  unfold ivtogF1 at hi
  have hF : ρ.z.F = hold.Φ := kn.F
  simp only [h_nil, h_cons, d_le, d_eq, d_not, d_var, d_lit, d_cel, d_leq, d_fn, d_and, d_iff, IE.den, LE.den, AL.den, lenV, true_and, and_true, pctogF1_27, pctogF1_24, pctogF1_18, pctogF1_14, pctogF1_10, pctogF1_7, pctogF1_4, pctogF1_2, pctogF1_0, hF, pi1, pb1, pb2, pb3, pb4, pb5, pb6] at hp
  obtain ⟨p1, p2, p3, p4, p5, p6, p7, p8, p9, p10, p11, p12, p13, p14, p15, p16⟩ := hp
  refine (show (∀ x y : Int, 0 ≤ y → y ≤ x → (x < (ρ.i .i64 1000) ∨ (x = (ρ.i .i64 1000) ∧ y < ((ρ.i .i64 1002) + (1 : Int)))) → (cntN (ρ.z.rl 0) x (ρ.z.rl 0).length = 0 ∨ cntN (ρ.z.rl 0) y (ρ.z.rl 0).length = 0 ∨ (x = y ∧ cntN (ρ.z.rl 0) x (ρ.z.rl 0).length ≤ 1) ∨ fitsN x y = true)) ∧ (((6 - (ρ.i .i64 1000).toNat) * 10 + (9 - ((ρ.i .i64 1002) + (1 : Int)).toNat) : Nat) < (6 - (ρ.i .i64 1000).toNat) * 10 + (9 - (ρ.i .i64 1002).toNat)) from ?_)
  have cl : ∀ m, clampK .i64 (cntN (ρ.z.rl 0) m (ρ.z.rl 0).length : Int) = (cntN (ρ.z.rl 0) m (ρ.z.rl 0).length : Int) := fun m => clampS (by omega) (by have := cnt_le (ρ.z.rl 0) m (ρ.z.rl 0).length; omega)
  try simp only [cl] at *
  refine ⟨fun x y h1 h2 h3 => ?_, by omega⟩
  by_cases hh : x < ρ.i .i64 1000 ∨ (x = ρ.i .i64 1000 ∧ y < ρ.i .i64 1002)
  · exact hi x y h1 h2 hh
  · have e1 : x = 3 := by omega
    have e2 : y = 1 := by omega
    subst e2
    subst e1
    first
      | exact .inl (by omega)
      | exact .inr (.inl (by omega))
      | exact .inr (.inr (.inl ⟨by omega, by omega⟩))
      | exact .inr (.inr (.inr (by decide)))
      | (have e3 : y = 0 := by omega
         rw [e3]
         exact .inr (.inr (.inr (by decide))))
      | (have e3 : y = 1 := by omega
         rw [e3]
         exact .inr (.inr (.inr (by decide))))
      | (have e3 : y = 2 := by omega
         rw [e3]
         exact .inr (.inr (.inr (by decide))))
      | (have e3 : y = 3 := by omega
         rw [e3]
         exact .inr (.inr (.inr (by decide))))
      | (have e3 : y = 4 := by omega
         rw [e3]
         exact .inr (.inr (.inr (by decide))))
      | (have e3 : y = 5 := by omega
         rw [e3]
         exact .inr (.inr (.inr (by decide))))
      | skip
theorem vctogF1_21 : VC TTtogF invtogF mstogF 1 ttogF1 wtogF1_21 := by
  intro ρ kn hi hp
  have hi : ivtogF1 ρ := hi
  unfold ivtogF1 at hi
  have hF : ρ.z.F = hold.Φ := kn.F
  simp only [h_nil, h_cons, d_le, d_eq, d_not, d_var, d_lit, d_cel, d_leq, d_fn, d_and, d_iff, IE.den, LE.den, AL.den, lenV, true_and, and_true, pctogF1_27, pctogF1_24, pctogF1_18, pctogF1_14, pctogF1_10, pctogF1_7, pctogF1_4, pctogF1_2, pctogF1_0, hF, pi1, pb1, pb2, pb3, pb4, pb5, pb6] at hp
  obtain ⟨p1, p2, p3, p4, p5, p6, p7, p8, p9, p10, p11, p12, p13, p14, p15, p16⟩ := hp
  refine (show (∀ x y : Int, 0 ≤ y → y ≤ x → (x < (ρ.i .i64 1000) ∨ (x = (ρ.i .i64 1000) ∧ y < ((ρ.i .i64 1002) + (1 : Int)))) → (cntN (ρ.z.rl 0) x (ρ.z.rl 0).length = 0 ∨ cntN (ρ.z.rl 0) y (ρ.z.rl 0).length = 0 ∨ (x = y ∧ cntN (ρ.z.rl 0) x (ρ.z.rl 0).length ≤ 1) ∨ fitsN x y = true)) ∧ (((6 - (ρ.i .i64 1000).toNat) * 10 + (9 - ((ρ.i .i64 1002) + (1 : Int)).toNat) : Nat) < (6 - (ρ.i .i64 1000).toNat) * 10 + (9 - (ρ.i .i64 1002).toNat)) from ?_)
  have cl : ∀ m, clampK .i64 (cntN (ρ.z.rl 0) m (ρ.z.rl 0).length : Int) = (cntN (ρ.z.rl 0) m (ρ.z.rl 0).length : Int) := fun m => clampS (by omega) (by have := cnt_le (ρ.z.rl 0) m (ρ.z.rl 0).length; omega)
  try simp only [cl] at *
  refine ⟨fun x y h1 h2 h3 => ?_, by omega⟩
  by_cases hh : x < ρ.i .i64 1000 ∨ (x = ρ.i .i64 1000 ∧ y < ρ.i .i64 1002)
  · exact hi x y h1 h2 hh
  · have e1 : x = 3 := by omega
    have e2 : y = 1 := by omega
    subst e2
    subst e1
    first
      | exact .inl (by omega)
      | exact .inr (.inl (by omega))
      | exact .inr (.inr (.inl ⟨by omega, by omega⟩))
      | exact .inr (.inr (.inr (by decide)))
      | (have e3 : y = 0 := by omega
         rw [e3]
         exact .inr (.inr (.inr (by decide))))
      | (have e3 : y = 1 := by omega
         rw [e3]
         exact .inr (.inr (.inr (by decide))))
      | (have e3 : y = 2 := by omega
         rw [e3]
         exact .inr (.inr (.inr (by decide))))
      | (have e3 : y = 3 := by omega
         rw [e3]
         exact .inr (.inr (.inr (by decide))))
      | (have e3 : y = 4 := by omega
         rw [e3]
         exact .inr (.inr (.inr (by decide))))
      | (have e3 : y = 5 := by omega
         rw [e3]
         exact .inr (.inr (.inr (by decide))))
      | skip
theorem vctogF1_22 : VC TTtogF invtogF mstogF 1 ttogF1 wtogF1_22 := by
  intro ρ kn hi hp
  have hi : ivtogF1 ρ := hi
  unfold ivtogF1 at hi
  have hF : ρ.z.F = hold.Φ := kn.F
  simp only [h_nil, h_cons, d_le, d_eq, d_not, d_var, d_lit, d_cel, d_leq, d_fn, d_and, d_iff, IE.den, LE.den, AL.den, lenV, true_and, and_true, pctogF1_33, pctogF1_28, pctogF1_24, pctogF1_18, pctogF1_14, pctogF1_10, pctogF1_7, pctogF1_4, pctogF1_2, pctogF1_0, hF, pi1, pb1, pb2, pb3, pb4, pb5, pb6] at hp
  obtain ⟨p1, p2, p3, p4, p5, p6, p7, p8, p9, p10, p11, p12, p13, p14, p15, p16, p17⟩ := hp
  refine (show (∀ x y : Int, 0 ≤ y → y ≤ x → (x < (ρ.i .i64 1000) ∨ (x = (ρ.i .i64 1000) ∧ y < ((ρ.i .i64 1002) + (1 : Int)))) → (cntN (ρ.z.rl 0) x (ρ.z.rl 0).length = 0 ∨ cntN (ρ.z.rl 0) y (ρ.z.rl 0).length = 0 ∨ (x = y ∧ cntN (ρ.z.rl 0) x (ρ.z.rl 0).length ≤ 1) ∨ fitsN x y = true)) ∧ (((6 - (ρ.i .i64 1000).toNat) * 10 + (9 - ((ρ.i .i64 1002) + (1 : Int)).toNat) : Nat) < (6 - (ρ.i .i64 1000).toNat) * 10 + (9 - (ρ.i .i64 1002).toNat)) from ?_)
  have cl : ∀ m, clampK .i64 (cntN (ρ.z.rl 0) m (ρ.z.rl 0).length : Int) = (cntN (ρ.z.rl 0) m (ρ.z.rl 0).length : Int) := fun m => clampS (by omega) (by have := cnt_le (ρ.z.rl 0) m (ρ.z.rl 0).length; omega)
  try simp only [cl] at *
  refine ⟨fun x y h1 h2 h3 => ?_, by omega⟩
  by_cases hh : x < ρ.i .i64 1000 ∨ (x = ρ.i .i64 1000 ∧ y < ρ.i .i64 1002)
  · exact hi x y h1 h2 hh
  · have e1 : x = 3 := by omega
    have e2 : y = 2 := by omega
    subst e2
    subst e1
    first
      | exact .inl (by omega)
      | exact .inr (.inl (by omega))
      | exact .inr (.inr (.inl ⟨by omega, by omega⟩))
      | exact .inr (.inr (.inr (by decide)))
      | (have e3 : y = 0 := by omega
         rw [e3]
         exact .inr (.inr (.inr (by decide))))
      | (have e3 : y = 1 := by omega
         rw [e3]
         exact .inr (.inr (.inr (by decide))))
      | (have e3 : y = 2 := by omega
         rw [e3]
         exact .inr (.inr (.inr (by decide))))
      | (have e3 : y = 3 := by omega
         rw [e3]
         exact .inr (.inr (.inr (by decide))))
      | (have e3 : y = 4 := by omega
         rw [e3]
         exact .inr (.inr (.inr (by decide))))
      | (have e3 : y = 5 := by omega
         rw [e3]
         exact .inr (.inr (.inr (by decide))))
      | skip
theorem vctogF1_24 : VC TTtogF invtogF mstogF 1 ttogF1 wtogF1_24 := by
  intro ρ kn hi hp
  have hi : ivtogF1 ρ := hi
  unfold ivtogF1 at hi
  have hF : ρ.z.F = hold.Φ := kn.F
  simp only [h_nil, h_cons, d_le, d_eq, d_not, d_var, d_lit, d_cel, d_leq, d_fn, d_and, d_iff, IE.den, LE.den, AL.den, lenV, true_and, and_true, pctogF1_34, pctogF1_28, pctogF1_24, pctogF1_18, pctogF1_14, pctogF1_10, pctogF1_7, pctogF1_4, pctogF1_2, pctogF1_0, hF, pi1, pb1, pb2, pb3, pb4, pb5, pb6] at hp
  obtain ⟨p1, p2, p3, p4, p5, p6, p7, p8, p9, p10, p11, p12, p13, p14, p15, p16, p17⟩ := hp
  refine (show (∀ x y : Int, 0 ≤ y → y ≤ x → (x < (ρ.i .i64 1000) ∨ (x = (ρ.i .i64 1000) ∧ y < ((ρ.i .i64 1002) + (1 : Int)))) → (cntN (ρ.z.rl 0) x (ρ.z.rl 0).length = 0 ∨ cntN (ρ.z.rl 0) y (ρ.z.rl 0).length = 0 ∨ (x = y ∧ cntN (ρ.z.rl 0) x (ρ.z.rl 0).length ≤ 1) ∨ fitsN x y = true)) ∧ (((6 - (ρ.i .i64 1000).toNat) * 10 + (9 - ((ρ.i .i64 1002) + (1 : Int)).toNat) : Nat) < (6 - (ρ.i .i64 1000).toNat) * 10 + (9 - (ρ.i .i64 1002).toNat)) from ?_)
  have cl : ∀ m, clampK .i64 (cntN (ρ.z.rl 0) m (ρ.z.rl 0).length : Int) = (cntN (ρ.z.rl 0) m (ρ.z.rl 0).length : Int) := fun m => clampS (by omega) (by have := cnt_le (ρ.z.rl 0) m (ρ.z.rl 0).length; omega)
  try simp only [cl] at *
  refine ⟨fun x y h1 h2 h3 => ?_, by omega⟩
  by_cases hh : x < ρ.i .i64 1000 ∨ (x = ρ.i .i64 1000 ∧ y < ρ.i .i64 1002)
  · exact hi x y h1 h2 hh
  · have e1 : x = 3 := by omega
    subst e1
    first
      | exact .inl (by omega)
      | exact .inr (.inl (by omega))
      | exact .inr (.inr (.inl ⟨by omega, by omega⟩))
      | exact .inr (.inr (.inr (by decide)))
      | (have e3 : y = 0 := by omega
         rw [e3]
         exact .inr (.inr (.inr (by decide))))
      | (have e3 : y = 1 := by omega
         rw [e3]
         exact .inr (.inr (.inr (by decide))))
      | (have e3 : y = 2 := by omega
         rw [e3]
         exact .inr (.inr (.inr (by decide))))
      | (have e3 : y = 3 := by omega
         rw [e3]
         exact .inr (.inr (.inr (by decide))))
      | (have e3 : y = 4 := by omega
         rw [e3]
         exact .inr (.inr (.inr (by decide))))
      | (have e3 : y = 5 := by omega
         rw [e3]
         exact .inr (.inr (.inr (by decide))))
      | skip
theorem vctogF1_25 : VC TTtogF invtogF mstogF 1 ttogF1 wtogF1_25 := by
  intro ρ kn hi hp
  have hi : ivtogF1 ρ := hi
  unfold ivtogF1 at hi
  have hF : ρ.z.F = hold.Φ := kn.F
  simp only [h_nil, h_cons, d_le, d_eq, d_not, d_var, d_lit, d_cel, d_leq, d_fn, d_and, d_iff, IE.den, LE.den, AL.den, lenV, true_and, and_true, pctogF1_34, pctogF1_28, pctogF1_24, pctogF1_18, pctogF1_14, pctogF1_10, pctogF1_7, pctogF1_4, pctogF1_2, pctogF1_0, hF, pi1, pb1, pb2, pb3, pb4, pb5, pb6] at hp
  obtain ⟨p1, p2, p3, p4, p5, p6, p7, p8, p9, p10, p11, p12, p13, p14, p15, p16, p17⟩ := hp
  refine (show (∀ x y : Int, 0 ≤ y → y ≤ x → (x < (ρ.i .i64 1000) ∨ (x = (ρ.i .i64 1000) ∧ y < ((ρ.i .i64 1002) + (1 : Int)))) → (cntN (ρ.z.rl 0) x (ρ.z.rl 0).length = 0 ∨ cntN (ρ.z.rl 0) y (ρ.z.rl 0).length = 0 ∨ (x = y ∧ cntN (ρ.z.rl 0) x (ρ.z.rl 0).length ≤ 1) ∨ fitsN x y = true)) ∧ (((6 - (ρ.i .i64 1000).toNat) * 10 + (9 - ((ρ.i .i64 1002) + (1 : Int)).toNat) : Nat) < (6 - (ρ.i .i64 1000).toNat) * 10 + (9 - (ρ.i .i64 1002).toNat)) from ?_)
  have cl : ∀ m, clampK .i64 (cntN (ρ.z.rl 0) m (ρ.z.rl 0).length : Int) = (cntN (ρ.z.rl 0) m (ρ.z.rl 0).length : Int) := fun m => clampS (by omega) (by have := cnt_le (ρ.z.rl 0) m (ρ.z.rl 0).length; omega)
  try simp only [cl] at *
  refine ⟨fun x y h1 h2 h3 => ?_, by omega⟩
  by_cases hh : x < ρ.i .i64 1000 ∨ (x = ρ.i .i64 1000 ∧ y < ρ.i .i64 1002)
  · exact hi x y h1 h2 hh
  · have e1 : x = 3 := by omega
    subst e1
    first
      | exact .inl (by omega)
      | exact .inr (.inl (by omega))
      | exact .inr (.inr (.inl ⟨by omega, by omega⟩))
      | exact .inr (.inr (.inr (by decide)))
      | (have e3 : y = 0 := by omega
         rw [e3]
         exact .inr (.inr (.inr (by decide))))
      | (have e3 : y = 1 := by omega
         rw [e3]
         exact .inr (.inr (.inr (by decide))))
      | (have e3 : y = 2 := by omega
         rw [e3]
         exact .inr (.inr (.inr (by decide))))
      | (have e3 : y = 3 := by omega
         rw [e3]
         exact .inr (.inr (.inr (by decide))))
      | (have e3 : y = 4 := by omega
         rw [e3]
         exact .inr (.inr (.inr (by decide))))
      | (have e3 : y = 5 := by omega
         rw [e3]
         exact .inr (.inr (.inr (by decide))))
      | skip
theorem vctogF1_26 : VC TTtogF invtogF mstogF 1 ttogF1 wtogF1_26 := by
  intro ρ kn hi hp
  have hi : ivtogF1 ρ := hi
  unfold ivtogF1 at hi
  have hF : ρ.z.F = hold.Φ := kn.F
  simp only [h_nil, h_cons, d_le, d_eq, d_not, d_var, d_lit, d_cel, d_leq, d_fn, d_and, d_iff, IE.den, LE.den, AL.den, lenV, true_and, and_true, pctogF1_19, pctogF1_15, pctogF1_10, pctogF1_7, pctogF1_4, pctogF1_2, pctogF1_0, hF, pi1, pb1, pb2, pb3, pb4, pb5, pb6] at hp
  obtain ⟨p1, p2, p3, p4, p5, p6, p7, p8, p9, p10, p11, p12, p13, p14⟩ := hp
  refine (show (∀ x y : Int, 0 ≤ y → y ≤ x → (x < (ρ.i .i64 1000) ∨ (x = (ρ.i .i64 1000) ∧ y < ((ρ.i .i64 1002) + (1 : Int)))) → (cntN (ρ.z.rl 0) x (ρ.z.rl 0).length = 0 ∨ cntN (ρ.z.rl 0) y (ρ.z.rl 0).length = 0 ∨ (x = y ∧ cntN (ρ.z.rl 0) x (ρ.z.rl 0).length ≤ 1) ∨ fitsN x y = true)) ∧ (((6 - (ρ.i .i64 1000).toNat) * 10 + (9 - ((ρ.i .i64 1002) + (1 : Int)).toNat) : Nat) < (6 - (ρ.i .i64 1000).toNat) * 10 + (9 - (ρ.i .i64 1002).toNat)) from ?_)
  have cl : ∀ m, clampK .i64 (cntN (ρ.z.rl 0) m (ρ.z.rl 0).length : Int) = (cntN (ρ.z.rl 0) m (ρ.z.rl 0).length : Int) := fun m => clampS (by omega) (by have := cnt_le (ρ.z.rl 0) m (ρ.z.rl 0).length; omega)
  try simp only [cl] at *
  refine ⟨fun x y h1 h2 h3 => ?_, by omega⟩
  by_cases hh : x < ρ.i .i64 1000 ∨ (x = ρ.i .i64 1000 ∧ y < ρ.i .i64 1002)
  · exact hi x y h1 h2 hh
  · have e1 : x = 4 := by omega
    subst e1
    first
      | exact .inl (by omega)
      | exact .inr (.inl (by omega))
      | exact .inr (.inr (.inl ⟨by omega, by omega⟩))
      | exact .inr (.inr (.inr (by decide)))
      | (have e3 : y = 0 := by omega
         rw [e3]
         exact .inr (.inr (.inr (by decide))))
      | (have e3 : y = 1 := by omega
         rw [e3]
         exact .inr (.inr (.inr (by decide))))
      | (have e3 : y = 2 := by omega
         rw [e3]
         exact .inr (.inr (.inr (by decide))))
      | (have e3 : y = 3 := by omega
         rw [e3]
         exact .inr (.inr (.inr (by decide))))
      | (have e3 : y = 4 := by omega
         rw [e3]
         exact .inr (.inr (.inr (by decide))))
      | (have e3 : y = 5 := by omega
         rw [e3]
         exact .inr (.inr (.inr (by decide))))
      | skip
theorem vctogF1_27 : VC TTtogF invtogF mstogF 1 ttogF1 wtogF1_27 := by
  intro ρ kn hi hp
  have hi : ivtogF1 ρ := hi
  unfold ivtogF1 at hi
  have hF : ρ.z.F = hold.Φ := kn.F
  simp only [h_nil, h_cons, d_le, d_eq, d_not, d_var, d_lit, d_cel, d_leq, d_fn, d_and, d_iff, IE.den, LE.den, AL.den, lenV, true_and, and_true, pctogF1_29, pctogF1_25, pctogF1_19, pctogF1_15, pctogF1_10, pctogF1_7, pctogF1_4, pctogF1_2, pctogF1_0, hF, pi1, pb1, pb2, pb3, pb4, pb5, pb6] at hp
  obtain ⟨p1, p2, p3, p4, p5, p6, p7, p8, p9, p10, p11, p12, p13, p14, p15, p16⟩ := hp
  refine (show (∀ x y : Int, 0 ≤ y → y ≤ x → (x < (ρ.i .i64 1000) ∨ (x = (ρ.i .i64 1000) ∧ y < ((ρ.i .i64 1002) + (1 : Int)))) → (cntN (ρ.z.rl 0) x (ρ.z.rl 0).length = 0 ∨ cntN (ρ.z.rl 0) y (ρ.z.rl 0).length = 0 ∨ (x = y ∧ cntN (ρ.z.rl 0) x (ρ.z.rl 0).length ≤ 1) ∨ fitsN x y = true)) ∧ (((6 - (ρ.i .i64 1000).toNat) * 10 + (9 - ((ρ.i .i64 1002) + (1 : Int)).toNat) : Nat) < (6 - (ρ.i .i64 1000).toNat) * 10 + (9 - (ρ.i .i64 1002).toNat)) from ?_)
  have cl : ∀ m, clampK .i64 (cntN (ρ.z.rl 0) m (ρ.z.rl 0).length : Int) = (cntN (ρ.z.rl 0) m (ρ.z.rl 0).length : Int) := fun m => clampS (by omega) (by have := cnt_le (ρ.z.rl 0) m (ρ.z.rl 0).length; omega)
  try simp only [cl] at *
  refine ⟨fun x y h1 h2 h3 => ?_, by omega⟩
  by_cases hh : x < ρ.i .i64 1000 ∨ (x = ρ.i .i64 1000 ∧ y < ρ.i .i64 1002)
  · exact hi x y h1 h2 hh
  · have e1 : x = 4 := by omega
    have e2 : y = 0 := by omega
    subst e2
    subst e1
    first
      | exact .inl (by omega)
      | exact .inr (.inl (by omega))
      | exact .inr (.inr (.inl ⟨by omega, by omega⟩))
      | exact .inr (.inr (.inr (by decide)))
      | (have e3 : y = 0 := by omega
         rw [e3]
         exact .inr (.inr (.inr (by decide))))
      | (have e3 : y = 1 := by omega
         rw [e3]
         exact .inr (.inr (.inr (by decide))))
      | (have e3 : y = 2 := by omega
         rw [e3]
         exact .inr (.inr (.inr (by decide))))
      | (have e3 : y = 3 := by omega
         rw [e3]
         exact .inr (.inr (.inr (by decide))))
      | (have e3 : y = 4 := by omega
         rw [e3]
         exact .inr (.inr (.inr (by decide))))
      | (have e3 : y = 5 := by omega
         rw [e3]
         exact .inr (.inr (.inr (by decide))))
      | skip
theorem vctogF1_28 : VC TTtogF invtogF mstogF 1 ttogF1 wtogF1_28 := by
  intro ρ kn hi hp
  have hi : ivtogF1 ρ := hi
  unfold ivtogF1 at hi
  have hF : ρ.z.F = hold.Φ := kn.F
  simp only [h_nil, h_cons, d_le, d_eq, d_not, d_var, d_lit, d_cel, d_leq, d_fn, d_and, d_iff, IE.den, LE.den, AL.den, lenV, true_and, and_true, pctogF1_29, pctogF1_25, pctogF1_19, pctogF1_15, pctogF1_10, pctogF1_7, pctogF1_4, pctogF1_2, pctogF1_0, hF, pi1, pb1, pb2, pb3, pb4, pb5, pb6] at hp
  obtain ⟨p1, p2, p3, p4, p5, p6, p7, p8, p9, p10, p11, p12, p13, p14, p15, p16⟩ := hp
  refine (show (∀ x y : Int, 0 ≤ y → y ≤ x → (x < (ρ.i .i64 1000) ∨ (x = (ρ.i .i64 1000) ∧ y < ((ρ.i .i64 1002) + (1 : Int)))) → (cntN (ρ.z.rl 0) x (ρ.z.rl 0).length = 0 ∨ cntN (ρ.z.rl 0) y (ρ.z.rl 0).length = 0 ∨ (x = y ∧ cntN (ρ.z.rl 0) x (ρ.z.rl 0).length ≤ 1) ∨ fitsN x y = true)) ∧ (((6 - (ρ.i .i64 1000).toNat) * 10 + (9 - ((ρ.i .i64 1002) + (1 : Int)).toNat) : Nat) < (6 - (ρ.i .i64 1000).toNat) * 10 + (9 - (ρ.i .i64 1002).toNat)) from ?_)
  have cl : ∀ m, clampK .i64 (cntN (ρ.z.rl 0) m (ρ.z.rl 0).length : Int) = (cntN (ρ.z.rl 0) m (ρ.z.rl 0).length : Int) := fun m => clampS (by omega) (by have := cnt_le (ρ.z.rl 0) m (ρ.z.rl 0).length; omega)
  try simp only [cl] at *
  refine ⟨fun x y h1 h2 h3 => ?_, by omega⟩
  by_cases hh : x < ρ.i .i64 1000 ∨ (x = ρ.i .i64 1000 ∧ y < ρ.i .i64 1002)
  · exact hi x y h1 h2 hh
  · have e1 : x = 4 := by omega
    have e2 : y = 0 := by omega
    subst e2
    subst e1
    first
      | exact .inl (by omega)
      | exact .inr (.inl (by omega))
      | exact .inr (.inr (.inl ⟨by omega, by omega⟩))
      | exact .inr (.inr (.inr (by decide)))
      | (have e3 : y = 0 := by omega
         rw [e3]
         exact .inr (.inr (.inr (by decide))))
      | (have e3 : y = 1 := by omega
         rw [e3]
         exact .inr (.inr (.inr (by decide))))
      | (have e3 : y = 2 := by omega
         rw [e3]
         exact .inr (.inr (.inr (by decide))))
      | (have e3 : y = 3 := by omega
         rw [e3]
         exact .inr (.inr (.inr (by decide))))
      | (have e3 : y = 4 := by omega
         rw [e3]
         exact .inr (.inr (.inr (by decide))))
      | (have e3 : y = 5 := by omega
         rw [e3]
         exact .inr (.inr (.inr (by decide))))
      | skip
theorem vctogF1_29 : VC TTtogF invtogF mstogF 1 ttogF1 wtogF1_29 := by
  intro ρ kn hi hp
  have hi : ivtogF1 ρ := hi
  unfold ivtogF1 at hi
  have hF : ρ.z.F = hold.Φ := kn.F
  simp only [h_nil, h_cons, d_le, d_eq, d_not, d_var, d_lit, d_cel, d_leq, d_fn, d_and, d_iff, IE.den, LE.den, AL.den, lenV, true_and, and_true, pctogF1_35, pctogF1_30, pctogF1_25, pctogF1_19, pctogF1_15, pctogF1_10, pctogF1_7, pctogF1_4, pctogF1_2, pctogF1_0, hF, pi1, pb1, pb2, pb3, pb4, pb5, pb6] at hp
  obtain ⟨p1, p2, p3, p4, p5, p6, p7, p8, p9, p10, p11, p12, p13, p14, p15, p16, p17⟩ := hp
  refine (show (∀ x y : Int, 0 ≤ y → y ≤ x → (x < (ρ.i .i64 1000) ∨ (x = (ρ.i .i64 1000) ∧ y < ((ρ.i .i64 1002) + (1 : Int)))) → (cntN (ρ.z.rl 0) x (ρ.z.rl 0).length = 0 ∨ cntN (ρ.z.rl 0) y (ρ.z.rl 0).length = 0 ∨ (x = y ∧ cntN (ρ.z.rl 0) x (ρ.z.rl 0).length ≤ 1) ∨ fitsN x y = true)) ∧ (((6 - (ρ.i .i64 1000).toNat) * 10 + (9 - ((ρ.i .i64 1002) + (1 : Int)).toNat) : Nat) < (6 - (ρ.i .i64 1000).toNat) * 10 + (9 - (ρ.i .i64 1002).toNat)) from ?_)
  have cl : ∀ m, clampK .i64 (cntN (ρ.z.rl 0) m (ρ.z.rl 0).length : Int) = (cntN (ρ.z.rl 0) m (ρ.z.rl 0).length : Int) := fun m => clampS (by omega) (by have := cnt_le (ρ.z.rl 0) m (ρ.z.rl 0).length; omega)
  try simp only [cl] at *
  refine ⟨fun x y h1 h2 h3 => ?_, by omega⟩
  by_cases hh : x < ρ.i .i64 1000 ∨ (x = ρ.i .i64 1000 ∧ y < ρ.i .i64 1002)
  · exact hi x y h1 h2 hh
  · have e1 : x = 4 := by omega
    have e2 : y = 1 := by omega
    subst e2
    subst e1
    first
      | exact .inl (by omega)
      | exact .inr (.inl (by omega))
      | exact .inr (.inr (.inl ⟨by omega, by omega⟩))
      | exact .inr (.inr (.inr (by decide)))
      | (have e3 : y = 0 := by omega
         rw [e3]
         exact .inr (.inr (.inr (by decide))))
      | (have e3 : y = 1 := by omega
         rw [e3]
         exact .inr (.inr (.inr (by decide))))
      | (have e3 : y = 2 := by omega
         rw [e3]
         exact .inr (.inr (.inr (by decide))))
      | (have e3 : y = 3 := by omega
         rw [e3]
         exact .inr (.inr (.inr (by decide))))
      | (have e3 : y = 4 := by omega
         rw [e3]
         exact .inr (.inr (.inr (by decide))))
      | (have e3 : y = 5 := by omega
         rw [e3]
         exact .inr (.inr (.inr (by decide))))
      | skip
theorem vctogF1_30 : VC TTtogF invtogF mstogF 1 ttogF1 wtogF1_30 := by
  intro ρ kn hi hp
  have hi : ivtogF1 ρ := hi
  unfold ivtogF1 at hi
  have hF : ρ.z.F = hold.Φ := kn.F
  simp only [h_nil, h_cons, d_le, d_eq, d_not, d_var, d_lit, d_cel, d_leq, d_fn, d_and, d_iff, IE.den, LE.den, AL.den, lenV, true_and, and_true, pctogF1_35, pctogF1_30, pctogF1_25, pctogF1_19, pctogF1_15, pctogF1_10, pctogF1_7, pctogF1_4, pctogF1_2, pctogF1_0, hF, pi1, pb1, pb2, pb3, pb4, pb5, pb6] at hp
  obtain ⟨p1, p2, p3, p4, p5, p6, p7, p8, p9, p10, p11, p12, p13, p14, p15, p16, p17⟩ := hp
  refine (show (∀ x y : Int, 0 ≤ y → y ≤ x → (x < (ρ.i .i64 1000) ∨ (x = (ρ.i .i64 1000) ∧ y < ((ρ.i .i64 1002) + (1 : Int)))) → (cntN (ρ.z.rl 0) x (ρ.z.rl 0).length = 0 ∨ cntN (ρ.z.rl 0) y (ρ.z.rl 0).length = 0 ∨ (x = y ∧ cntN (ρ.z.rl 0) x (ρ.z.rl 0).length ≤ 1) ∨ fitsN x y = true)) ∧ (((6 - (ρ.i .i64 1000).toNat) * 10 + (9 - ((ρ.i .i64 1002) + (1 : Int)).toNat) : Nat) < (6 - (ρ.i .i64 1000).toNat) * 10 + (9 - (ρ.i .i64 1002).toNat)) from ?_)
  have cl : ∀ m, clampK .i64 (cntN (ρ.z.rl 0) m (ρ.z.rl 0).length : Int) = (cntN (ρ.z.rl 0) m (ρ.z.rl 0).length : Int) := fun m => clampS (by omega) (by have := cnt_le (ρ.z.rl 0) m (ρ.z.rl 0).length; omega)
  try simp only [cl] at *
  refine ⟨fun x y h1 h2 h3 => ?_, by omega⟩
  by_cases hh : x < ρ.i .i64 1000 ∨ (x = ρ.i .i64 1000 ∧ y < ρ.i .i64 1002)
  · exact hi x y h1 h2 hh
  · have e1 : x = 4 := by omega
    have e2 : y = 1 := by omega
    subst e2
    subst e1
    first
      | exact .inl (by omega)
      | exact .inr (.inl (by omega))
      | exact .inr (.inr (.inl ⟨by omega, by omega⟩))
      | exact .inr (.inr (.inr (by decide)))
      | (have e3 : y = 0 := by omega
         rw [e3]
         exact .inr (.inr (.inr (by decide))))
      | (have e3 : y = 1 := by omega
         rw [e3]
         exact .inr (.inr (.inr (by decide))))
      | (have e3 : y = 2 := by omega
         rw [e3]
         exact .inr (.inr (.inr (by decide))))
      | (have e3 : y = 3 := by omega
         rw [e3]
         exact .inr (.inr (.inr (by decide))))
      | (have e3 : y = 4 := by omega
         rw [e3]
         exact .inr (.inr (.inr (by decide))))
      | (have e3 : y = 5 := by omega
         rw [e3]
         exact .inr (.inr (.inr (by decide))))
      | skip
theorem vctogF1_31 : VC TTtogF invtogF mstogF 1 ttogF1 wtogF1_31 := by
  intro ρ kn hi hp
  have hi : ivtogF1 ρ := hi
  unfold ivtogF1 at hi
  have hF : ρ.z.F = hold.Φ := kn.F
  simp only [h_nil, h_cons, d_le, d_eq, d_not, d_var, d_lit, d_cel, d_leq, d_fn, d_and, d_iff, IE.den, LE.den, AL.den, lenV, true_and, and_true, pctogF1_39, pctogF1_36, pctogF1_30, pctogF1_25, pctogF1_19, pctogF1_15, pctogF1_10, pctogF1_7, pctogF1_4, pctogF1_2, pctogF1_0, hF, pi1, pb1, pb2, pb3, pb4, pb5, pb6] at hp
  obtain ⟨p1, p2, p3, p4, p5, p6, p7, p8, p9, p10, p11, p12, p13, p14, p15, p16, p17, p18⟩ := hp
  refine (show (∀ x y : Int, 0 ≤ y → y ≤ x → (x < (ρ.i .i64 1000) ∨ (x = (ρ.i .i64 1000) ∧ y < ((ρ.i .i64 1002) + (1 : Int)))) → (cntN (ρ.z.rl 0) x (ρ.z.rl 0).length = 0 ∨ cntN (ρ.z.rl 0) y (ρ.z.rl 0).length = 0 ∨ (x = y ∧ cntN (ρ.z.rl 0) x (ρ.z.rl 0).length ≤ 1) ∨ fitsN x y = true)) ∧ (((6 - (ρ.i .i64 1000).toNat) * 10 + (9 - ((ρ.i .i64 1002) + (1 : Int)).toNat) : Nat) < (6 - (ρ.i .i64 1000).toNat) * 10 + (9 - (ρ.i .i64 1002).toNat)) from ?_)
  have cl : ∀ m, clampK .i64 (cntN (ρ.z.rl 0) m (ρ.z.rl 0).length : Int) = (cntN (ρ.z.rl 0) m (ρ.z.rl 0).length : Int) := fun m => clampS (by omega) (by have := cnt_le (ρ.z.rl 0) m (ρ.z.rl 0).length; omega)
  try simp only [cl] at *
  refine ⟨fun x y h1 h2 h3 => ?_, by omega⟩
  by_cases hh : x < ρ.i .i64 1000 ∨ (x = ρ.i .i64 1000 ∧ y < ρ.i .i64 1002)
  · exact hi x y h1 h2 hh
  · have e1 : x = 4 := by omega
    have e2 : y = 2 := by omega
    subst e2
    subst e1
    first
      | exact .inl (by omega)
      | exact .inr (.inl (by omega))
      | exact .inr (.inr (.inl ⟨by omega, by omega⟩))
      | exact .inr (.inr (.inr (by decide)))
      | (have e3 : y = 0 := by omega
         rw [e3]
         exact .inr (.inr (.inr (by decide))))
      | (have e3 : y = 1 := by omega
         rw [e3]
         exact .inr (.inr (.inr (by decide))))
      | (have e3 : y = 2 := by omega
         rw [e3]
         exact .inr (.inr (.inr (by decide))))
      | (have e3 : y = 3 := by omega
         rw [e3]
         exact .inr (.inr (.inr (by decide))))
      | (have e3 : y = 4 := by omega
         rw [e3]
         exact .inr (.inr (.inr (by decide))))
      | (have e3 : y = 5 := by omega
         rw [e3]
         exact .inr (.inr (.inr (by decide))))
      | skip
theorem vctogF1_33 : VC TTtogF invtogF mstogF 1 ttogF1 wtogF1_33 := by
  intro ρ kn hi hp
  have hi : ivtogF1 ρ := hi
  unfold ivtogF1 at hi
  have hF : ρ.z.F = hold.Φ := kn.F
  simp only [h_nil, h_cons, d_le, d_eq, d_not, d_var, d_lit, d_cel, d_leq, d_fn, d_and, d_iff, IE.den, LE.den, AL.den, lenV, true_and, and_true, pctogF1_43, pctogF1_40, pctogF1_36, pctogF1_30, pctogF1_25, pctogF1_19, pctogF1_15, pctogF1_10, pctogF1_7, pctogF1_4, pctogF1_2, pctogF1_0, hF, pi1, pb1, pb2, pb3, pb4, pb5, pb6] at hp
  obtain ⟨p1, p2, p3, p4, p5, p6, p7, p8, p9, p10, p11, p12, p13, p14, p15, p16, p17, p18, p19⟩ := hp
  refine (show (∀ x y : Int, 0 ≤ y → y ≤ x → (x < (ρ.i .i64 1000) ∨ (x = (ρ.i .i64 1000) ∧ y < ((ρ.i .i64 1002) + (1 : Int)))) → (cntN (ρ.z.rl 0) x (ρ.z.rl 0).length = 0 ∨ cntN (ρ.z.rl 0) y (ρ.z.rl 0).length = 0 ∨ (x = y ∧ cntN (ρ.z.rl 0) x (ρ.z.rl 0).length ≤ 1) ∨ fitsN x y = true)) ∧ (((6 - (ρ.i .i64 1000).toNat) * 10 + (9 - ((ρ.i .i64 1002) + (1 : Int)).toNat) : Nat) < (6 - (ρ.i .i64 1000).toNat) * 10 + (9 - (ρ.i .i64 1002).toNat)) from ?_)
  have cl : ∀ m, clampK .i64 (cntN (ρ.z.rl 0) m (ρ.z.rl 0).length : Int) = (cntN (ρ.z.rl 0) m (ρ.z.rl 0).length : Int) := fun m => clampS (by omega) (by have := cnt_le (ρ.z.rl 0) m (ρ.z.rl 0).length; omega)
  try simp only [cl] at *
  refine ⟨fun x y h1 h2 h3 => ?_, by omega⟩
  by_cases hh : x < ρ.i .i64 1000 ∨ (x = ρ.i .i64 1000 ∧ y < ρ.i .i64 1002)
  · exact hi x y h1 h2 hh
  · have e1 : x = 4 := by omega
    have e2 : y = 3 := by omega
    subst e2
    subst e1
    first
      | exact .inl (by omega)
      | exact .inr (.inl (by omega))
      | exact .inr (.inr (.inl ⟨by omega, by omega⟩))
      | exact .inr (.inr (.inr (by decide)))
      | (have e3 : y = 0 := by omega
         rw [e3]
         exact .inr (.inr (.inr (by decide))))
      | (have e3 : y = 1 := by omega
         rw [e3]
         exact .inr (.inr (.inr (by decide))))
      | (have e3 : y = 2 := by omega
         rw [e3]
         exact .inr (.inr (.inr (by decide))))
      | (have e3 : y = 3 := by omega
         rw [e3]
         exact .inr (.inr (.inr (by decide))))
      | (have e3 : y = 4 := by omega
         rw [e3]
         exact .inr (.inr (.inr (by decide))))
      | (have e3 : y = 5 := by omega
         rw [e3]
         exact .inr (.inr (.inr (by decide))))
      | skip
theorem vctogF1_35 : VC TTtogF invtogF mstogF 1 ttogF1 wtogF1_35 := by
  intro ρ kn hi hp
  have hi : ivtogF1 ρ := hi
  unfold ivtogF1 at hi
  have hF : ρ.z.F = hold.Φ := kn.F
  simp only [h_nil, h_cons, d_le, d_eq, d_not, d_var, d_lit, d_cel, d_leq, d_fn, d_and, d_iff, IE.den, LE.den, AL.den, lenV, true_and, and_true, pctogF1_44, pctogF1_40, pctogF1_36, pctogF1_30, pctogF1_25, pctogF1_19, pctogF1_15, pctogF1_10, pctogF1_7, pctogF1_4, pctogF1_2, pctogF1_0, hF, pi1, pb1, pb2, pb3, pb4, pb5, pb6] at hp
  obtain ⟨p1, p2, p3, p4, p5, p6, p7, p8, p9, p10, p11, p12, p13, p14, p15, p16, p17, p18, p19⟩ := hp
  refine (show (∀ x y : Int, 0 ≤ y → y ≤ x → (x < (ρ.i .i64 1000) ∨ (x = (ρ.i .i64 1000) ∧ y < ((ρ.i .i64 1002) + (1 : Int)))) → (cntN (ρ.z.rl 0) x (ρ.z.rl 0).length = 0 ∨ cntN (ρ.z.rl 0) y (ρ.z.rl 0).length = 0 ∨ (x = y ∧ cntN (ρ.z.rl 0) x (ρ.z.rl 0).length ≤ 1) ∨ fitsN x y = true)) ∧ (((6 - (ρ.i .i64 1000).toNat) * 10 + (9 - ((ρ.i .i64 1002) + (1 : Int)).toNat) : Nat) < (6 - (ρ.i .i64 1000).toNat) * 10 + (9 - (ρ.i .i64 1002).toNat)) from ?_)
  have cl : ∀ m, clampK .i64 (cntN (ρ.z.rl 0) m (ρ.z.rl 0).length : Int) = (cntN (ρ.z.rl 0) m (ρ.z.rl 0).length : Int) := fun m => clampS (by omega) (by have := cnt_le (ρ.z.rl 0) m (ρ.z.rl 0).length; omega)
  try simp only [cl] at *
  refine ⟨fun x y h1 h2 h3 => ?_, by omega⟩
  by_cases hh : x < ρ.i .i64 1000 ∨ (x = ρ.i .i64 1000 ∧ y < ρ.i .i64 1002)
  · exact hi x y h1 h2 hh
  · have e1 : x = 4 := by omega
    subst e1
    first
      | exact .inl (by omega)
      | exact .inr (.inl (by omega))
      | exact .inr (.inr (.inl ⟨by omega, by omega⟩))
      | exact .inr (.inr (.inr (by decide)))
      | (have e3 : y = 0 := by omega
         rw [e3]
         exact .inr (.inr (.inr (by decide))))
      | (have e3 : y = 1 := by omega
         rw [e3]
         exact .inr (.inr (.inr (by decide))))
      | (have e3 : y = 2 := by omega
         rw [e3]
         exact .inr (.inr (.inr (by decide))))
      | (have e3 : y = 3 := by omega
         rw [e3]
         exact .inr (.inr (.inr (by decide))))
      | (have e3 : y = 4 := by omega
         rw [e3]
         exact .inr (.inr (.inr (by decide))))
      | (have e3 : y = 5 := by omega
         rw [e3]
         exact .inr (.inr (.inr (by decide))))
      | skip
theorem vctogF1_37 : VC TTtogF invtogF mstogF 1 ttogF1 wtogF1_37 := by
  intro ρ kn hi hp
  have hi : ivtogF1 ρ := hi
  unfold ivtogF1 at hi
  have hF : ρ.z.F = hold.Φ := kn.F
  simp only [h_nil, h_cons, d_le, d_eq, d_not, d_var, d_lit, d_cel, d_leq, d_fn, d_and, d_iff, IE.den, LE.den, AL.den, lenV, true_and, and_true, pctogF1_20, pctogF1_15, pctogF1_10, pctogF1_7, pctogF1_4, pctogF1_2, pctogF1_0, hF, pi1, pb1, pb2, pb3, pb4, pb5, pb6] at hp
  obtain ⟨p1, p2, p3, p4, p5, p6, p7, p8, p9, p10, p11, p12, p13, p14⟩ := hp
  refine (show (∀ x y : Int, 0 ≤ y → y ≤ x → (x < (ρ.i .i64 1000) ∨ (x = (ρ.i .i64 1000) ∧ y < ((ρ.i .i64 1002) + (1 : Int)))) → (cntN (ρ.z.rl 0) x (ρ.z.rl 0).length = 0 ∨ cntN (ρ.z.rl 0) y (ρ.z.rl 0).length = 0 ∨ (x = y ∧ cntN (ρ.z.rl 0) x (ρ.z.rl 0).length ≤ 1) ∨ fitsN x y = true)) ∧ (((6 - (ρ.i .i64 1000).toNat) * 10 + (9 - ((ρ.i .i64 1002) + (1 : Int)).toNat) : Nat) < (6 - (ρ.i .i64 1000).toNat) * 10 + (9 - (ρ.i .i64 1002).toNat)) from ?_)
  have cl : ∀ m, clampK .i64 (cntN (ρ.z.rl 0) m (ρ.z.rl 0).length : Int) = (cntN (ρ.z.rl 0) m (ρ.z.rl 0).length : Int) := fun m => clampS (by omega) (by have := cnt_le (ρ.z.rl 0) m (ρ.z.rl 0).length; omega)
  try simp only [cl] at *
  refine ⟨fun x y h1 h2 h3 => ?_, by omega⟩
  by_cases hh : x < ρ.i .i64 1000 ∨ (x = ρ.i .i64 1000 ∧ y < ρ.i .i64 1002)
  · exact hi x y h1 h2 hh
  · have e1 : x = 5 := by omega
    subst e1
    first
      | exact .inl (by omega)
      | exact .inr (.inl (by omega))
      | exact .inr (.inr (.inl ⟨by omega, by omega⟩))
      | exact .inr (.inr (.inr (by decide)))
      | (have e3 : y = 0 := by omega
         rw [e3]
         exact .inr (.inr (.inr (by decide))))
      | (have e3 : y = 1 := by omega
         rw [e3]
         exact .inr (.inr (.inr (by decide))))
      | (have e3 : y = 2 := by omega
         rw [e3]
         exact .inr (.inr (.inr (by decide))))
      | (have e3 : y = 3 := by omega
         rw [e3]
         exact .inr (.inr (.inr (by decide))))
      | (have e3 : y = 4 := by omega
         rw [e3]
         exact .inr (.inr (.inr (by decide))))
      | (have e3 : y = 5 := by omega
         rw [e3]
         exact .inr (.inr (.inr (by decide))))
      | skip
theorem vctogF1_38 : VC TTtogF invtogF mstogF 1 ttogF1 wtogF1_38 := by
  intro ρ kn hi hp
  have hi : ivtogF1 ρ := hi
  unfold ivtogF1 at hi
  have hF : ρ.z.F = hold.Φ := kn.F
  simp only [h_nil, h_cons, d_le, d_eq, d_not, d_var, d_lit, d_cel, d_leq, d_fn, d_and, d_iff, IE.den, LE.den, AL.den, lenV, true_and, and_true, pctogF1_31, pctogF1_26, pctogF1_20, pctogF1_15, pctogF1_10, pctogF1_7, pctogF1_4, pctogF1_2, pctogF1_0, hF, pi1, pb1, pb2, pb3, pb4, pb5, pb6] at hp
  obtain ⟨p1, p2, p3, p4, p5, p6, p7, p8, p9, p10, p11, p12, p13, p14, p15, p16⟩ := hp
  refine (show (∀ x y : Int, 0 ≤ y → y ≤ x → (x < (ρ.i .i64 1000) ∨ (x = (ρ.i .i64 1000) ∧ y < ((ρ.i .i64 1002) + (1 : Int)))) → (cntN (ρ.z.rl 0) x (ρ.z.rl 0).length = 0 ∨ cntN (ρ.z.rl 0) y (ρ.z.rl 0).length = 0 ∨ (x = y ∧ cntN (ρ.z.rl 0) x (ρ.z.rl 0).length ≤ 1) ∨ fitsN x y = true)) ∧ (((6 - (ρ.i .i64 1000).toNat) * 10 + (9 - ((ρ.i .i64 1002) + (1 : Int)).toNat) : Nat) < (6 - (ρ.i .i64 1000).toNat) * 10 + (9 - (ρ.i .i64 1002).toNat)) from ?_)
  have cl : ∀ m, clampK .i64 (cntN (ρ.z.rl 0) m (ρ.z.rl 0).length : Int) = (cntN (ρ.z.rl 0) m (ρ.z.rl 0).length : Int) := fun m => clampS (by omega) (by have := cnt_le (ρ.z.rl 0) m (ρ.z.rl 0).length; omega)
  try simp only [cl] at *
  refine ⟨fun x y h1 h2 h3 => ?_, by omega⟩
  by_cases hh : x < ρ.i .i64 1000 ∨ (x = ρ.i .i64 1000 ∧ y < ρ.i .i64 1002)
  · exact hi x y h1 h2 hh
  · have e1 : x = 5 := by omega
    have e2 : y = 0 := by omega
    subst e2
    subst e1
    first
      | exact .inl (by omega)
      | exact .inr (.inl (by omega))
      | exact .inr (.inr (.inl ⟨by omega, by omega⟩))
      | exact .inr (.inr (.inr (by decide)))
      | (have e3 : y = 0 := by omega
         rw [e3]
         exact .inr (.inr (.inr (by decide))))
      | (have e3 : y = 1 := by omega
         rw [e3]
         exact .inr (.inr (.inr (by decide))))
      | (have e3 : y = 2 := by omega
         rw [e3]
         exact .inr (.inr (.inr (by decide))))
      | (have e3 : y = 3 := by omega
         rw [e3]
         exact .inr (.inr (.inr (by decide))))
      | (have e3 : y = 4 := by omega
         rw [e3]
         exact .inr (.inr (.inr (by decide))))
      | (have e3 : y = 5 := by omega
         rw [e3]
         exact .inr (.inr (.inr (by decide))))
      | skip
theorem vctogF1_39 : VC TTtogF invtogF mstogF 1 ttogF1 wtogF1_39 := by
  intro ρ kn hi hp
  have hi : ivtogF1 ρ := hi
  unfold ivtogF1 at hi
  have hF : ρ.z.F = hold.Φ := kn.F
  simp only [h_nil, h_cons, d_le, d_eq, d_not, d_var, d_lit, d_cel, d_leq, d_fn, d_and, d_iff, IE.den, LE.den, AL.den, lenV, true_and, and_true, pctogF1_31, pctogF1_26, pctogF1_20, pctogF1_15, pctogF1_10, pctogF1_7, pctogF1_4, pctogF1_2, pctogF1_0, hF, pi1, pb1, pb2, pb3, pb4, pb5, pb6] at hp
  obtain ⟨p1, p2, p3, p4, p5, p6, p7, p8, p9, p10, p11, p12, p13, p14, p15, p16⟩ := hp
  refine (show (∀ x y : Int, 0 ≤ y → y ≤ x → (x < (ρ.i .i64 1000) ∨ (x = (ρ.i .i64 1000) ∧ y < ((ρ.i .i64 1002) + (1 : Int)))) → (cntN (ρ.z.rl 0) x (ρ.z.rl 0).length = 0 ∨ cntN (ρ.z.rl 0) y (ρ.z.rl 0).length = 0 ∨ (x = y ∧ cntN (ρ.z.rl 0) x (ρ.z.rl 0).length ≤ 1) ∨ fitsN x y = true)) ∧ (((6 - (ρ.i .i64 1000).toNat) * 10 + (9 - ((ρ.i .i64 1002) + (1 : Int)).toNat) : Nat) < (6 - (ρ.i .i64 1000).toNat) * 10 + (9 - (ρ.i .i64 1002).toNat)) from ?_)
  have cl : ∀ m, clampK .i64 (cntN (ρ.z.rl 0) m (ρ.z.rl 0).length : Int) = (cntN (ρ.z.rl 0) m (ρ.z.rl 0).length : Int) := fun m => clampS (by omega) (by have := cnt_le (ρ.z.rl 0) m (ρ.z.rl 0).length; omega)
  try simp only [cl] at *
  refine ⟨fun x y h1 h2 h3 => ?_, by omega⟩
  by_cases hh : x < ρ.i .i64 1000 ∨ (x = ρ.i .i64 1000 ∧ y < ρ.i .i64 1002)
  · exact hi x y h1 h2 hh
  · have e1 : x = 5 := by omega
    have e2 : y = 0 := by omega
    subst e2
    subst e1
    first
      | exact .inl (by omega)
      | exact .inr (.inl (by omega))
      | exact .inr (.inr (.inl ⟨by omega, by omega⟩))
      | exact .inr (.inr (.inr (by decide)))
      | (have e3 : y = 0 := by omega
         rw [e3]
         exact .inr (.inr (.inr (by decide))))
      | (have e3 : y = 1 := by omega
         rw [e3]
         exact .inr (.inr (.inr (by decide))))
      | (have e3 : y = 2 := by omega
         rw [e3]
         exact .inr (.inr (.inr (by decide))))
      | (have e3 : y = 3 := by omega
         rw [e3]
         exact .inr (.inr (.inr (by decide))))
      | (have e3 : y = 4 := by omega
         rw [e3]
         exact .inr (.inr (.inr (by decide))))
      | (have e3 : y = 5 := by omega
         rw [e3]
         exact .inr (.inr (.inr (by decide))))
      | skip
theorem vctogF1_40 : VC TTtogF invtogF mstogF 1 ttogF1 wtogF1_40 := by
  intro ρ kn hi hp
  have hi : ivtogF1 ρ := hi
  unfold ivtogF1 at hi
  have hF : ρ.z.F = hold.Φ := kn.F
  simp only [h_nil, h_cons, d_le, d_eq, d_not, d_var, d_lit, d_cel, d_leq, d_fn, d_and, d_iff, IE.den, LE.den, AL.den, lenV, true_and, and_true, pctogF1_37, pctogF1_32, pctogF1_26, pctogF1_20, pctogF1_15, pctogF1_10, pctogF1_7, pctogF1_4, pctogF1_2, pctogF1_0, hF, pi1, pb1, pb2, pb3, pb4, pb5, pb6] at hp
  obtain ⟨p1, p2, p3, p4, p5, p6, p7, p8, p9, p10, p11, p12, p13, p14, p15, p16, p17⟩ := hp
  refine (show (∀ x y : Int, 0 ≤ y → y ≤ x → (x < (ρ.i .i64 1000) ∨ (x = (ρ.i .i64 1000) ∧ y < ((ρ.i .i64 1002) + (1 : Int)))) → (cntN (ρ.z.rl 0) x (ρ.z.rl 0).length = 0 ∨ cntN (ρ.z.rl 0) y (ρ.z.rl 0).length = 0 ∨ (x = y ∧ cntN (ρ.z.rl 0) x (ρ.z.rl 0).length ≤ 1) ∨ fitsN x y = true)) ∧ (((6 - (ρ.i .i64 1000).toNat) * 10 + (9 - ((ρ.i .i64 1002) + (1 : Int)).toNat) : Nat) < (6 - (ρ.i .i64 1000).toNat) * 10 + (9 - (ρ.i .i64 1002).toNat)) from ?_)
  have cl : ∀ m, clampK .i64 (cntN (ρ.z.rl 0) m (ρ.z.rl 0).length : Int) = (cntN (ρ.z.rl 0) m (ρ.z.rl 0).length : Int) := fun m => clampS (by omega) (by have := cnt_le (ρ.z.rl 0) m (ρ.z.rl 0).length; omega)
  try simp only [cl] at *
  refine ⟨fun x y h1 h2 h3 => ?_, by omega⟩
  by_cases hh : x < ρ.i .i64 1000 ∨ (x = ρ.i .i64 1000 ∧ y < ρ.i .i64 1002)
  · exact hi x y h1 h2 hh
  · have e1 : x = 5 := by omega
    have e2 : y = 1 := by omega
    subst e2
    subst e1
    first
      | exact .inl (by omega)
      | exact .inr (.inl (by omega))
      | exact .inr (.inr (.inl ⟨by omega, by omega⟩))
      | exact .inr (.inr (.inr (by decide)))
      | (have e3 : y = 0 := by omega
         rw [e3]
         exact .inr (.inr (.inr (by decide))))
      | (have e3 : y = 1 := by omega
         rw [e3]
         exact .inr (.inr (.inr (by decide))))
      | (have e3 : y = 2 := by omega
         rw [e3]
         exact .inr (.inr (.inr (by decide))))
      | (have e3 : y = 3 := by omega
         rw [e3]
         exact .inr (.inr (.inr (by decide))))
      | (have e3 : y = 4 := by omega
         rw [e3]
         exact .inr (.inr (.inr (by decide))))
      | (have e3 : y = 5 := by omega
         rw [e3]
         exact .inr (.inr (.inr (by decide))))
      | skip
theorem vctogF1_42 : VC TTtogF invtogF mstogF 1 ttogF1 wtogF1_42 := by
  intro ρ kn hi hp
  have hi : ivtogF1 ρ := hi
  unfold ivtogF1 at hi
  have hF : ρ.z.F = hold.Φ := kn.F
  simp only [h_nil, h_cons, d_le, d_eq, d_not, d_var, d_lit, d_cel, d_leq, d_fn, d_and, d_iff, IE.den, LE.den, AL.den, lenV, true_and, and_true, pctogF1_41, pctogF1_38, pctogF1_32, pctogF1_26, pctogF1_20, pctogF1_15, pctogF1_10, pctogF1_7, pctogF1_4, pctogF1_2, pctogF1_0, hF, pi1, pb1, pb2, pb3, pb4, pb5, pb6] at hp
  obtain ⟨p1, p2, p3, p4, p5, p6, p7, p8, p9, p10, p11, p12, p13, p14, p15, p16, p17, p18⟩ := hp
  refine (show (∀ x y : Int, 0 ≤ y → y ≤ x → (x < (ρ.i .i64 1000) ∨ (x = (ρ.i .i64 1000) ∧ y < ((ρ.i .i64 1002) + (1 : Int)))) → (cntN (ρ.z.rl 0) x (ρ.z.rl 0).length = 0 ∨ cntN (ρ.z.rl 0) y (ρ.z.rl 0).length = 0 ∨ (x = y ∧ cntN (ρ.z.rl 0) x (ρ.z.rl 0).length ≤ 1) ∨ fitsN x y = true)) ∧ (((6 - (ρ.i .i64 1000).toNat) * 10 + (9 - ((ρ.i .i64 1002) + (1 : Int)).toNat) : Nat) < (6 - (ρ.i .i64 1000).toNat) * 10 + (9 - (ρ.i .i64 1002).toNat)) from ?_)
  have cl : ∀ m, clampK .i64 (cntN (ρ.z.rl 0) m (ρ.z.rl 0).length : Int) = (cntN (ρ.z.rl 0) m (ρ.z.rl 0).length : Int) := fun m => clampS (by omega) (by have := cnt_le (ρ.z.rl 0) m (ρ.z.rl 0).length; omega)
  try simp only [cl] at *
  refine ⟨fun x y h1 h2 h3 => ?_, by omega⟩
  by_cases hh : x < ρ.i .i64 1000 ∨ (x = ρ.i .i64 1000 ∧ y < ρ.i .i64 1002)
  · exact hi x y h1 h2 hh
  · have e1 : x = 5 := by omega
    have e2 : y = 2 := by omega
    subst e2
    subst e1
    first
      | exact .inl (by omega)
      | exact .inr (.inl (by omega))
      | exact .inr (.inr (.inl ⟨by omega, by omega⟩))
      | exact .inr (.inr (.inr (by decide)))
      | (have e3 : y = 0 := by omega
         rw [e3]
         exact .inr (.inr (.inr (by decide))))
      | (have e3 : y = 1 := by omega
         rw [e3]
         exact .inr (.inr (.inr (by decide))))
      | (have e3 : y = 2 := by omega
         rw [e3]
         exact .inr (.inr (.inr (by decide))))
      | (have e3 : y = 3 := by omega
         rw [e3]
         exact .inr (.inr (.inr (by decide))))
      | (have e3 : y = 4 := by omega
         rw [e3]
         exact .inr (.inr (.inr (by decide))))
      | (have e3 : y = 5 := by omega
         rw [e3]
         exact .inr (.inr (.inr (by decide))))
      | skip
theorem vctogF1_44 : VC TTtogF invtogF mstogF 1 ttogF1 wtogF1_44 := by
  intro ρ kn hi hp
  have hi : ivtogF1 ρ := hi
  unfold ivtogF1 at hi
  have hF : ρ.z.F = hold.Φ := kn.F
  simp only [h_nil, h_cons, d_le, d_eq, d_not, d_var, d_lit, d_cel, d_leq, d_fn, d_and, d_iff, IE.den, LE.den, AL.den, lenV, true_and, and_true, pctogF1_45, pctogF1_42, pctogF1_38, pctogF1_32, pctogF1_26, pctogF1_20, pctogF1_15, pctogF1_10, pctogF1_7, pctogF1_4, pctogF1_2, pctogF1_0, hF, pi1, pb1, pb2, pb3, pb4, pb5, pb6] at hp
  obtain ⟨p1, p2, p3, p4, p5, p6, p7, p8, p9, p10, p11, p12, p13, p14, p15, p16, p17, p18, p19⟩ := hp
  refine (show (∀ x y : Int, 0 ≤ y → y ≤ x → (x < (ρ.i .i64 1000) ∨ (x = (ρ.i .i64 1000) ∧ y < ((ρ.i .i64 1002) + (1 : Int)))) → (cntN (ρ.z.rl 0) x (ρ.z.rl 0).length = 0 ∨ cntN (ρ.z.rl 0) y (ρ.z.rl 0).length = 0 ∨ (x = y ∧ cntN (ρ.z.rl 0) x (ρ.z.rl 0).length ≤ 1) ∨ fitsN x y = true)) ∧ (((6 - (ρ.i .i64 1000).toNat) * 10 + (9 - ((ρ.i .i64 1002) + (1 : Int)).toNat) : Nat) < (6 - (ρ.i .i64 1000).toNat) * 10 + (9 - (ρ.i .i64 1002).toNat)) from ?_)
  have cl : ∀ m, clampK .i64 (cntN (ρ.z.rl 0) m (ρ.z.rl 0).length : Int) = (cntN (ρ.z.rl 0) m (ρ.z.rl 0).length : Int) := fun m => clampS (by omega) (by have := cnt_le (ρ.z.rl 0) m (ρ.z.rl 0).length; omega)
  try simp only [cl] at *
  refine ⟨fun x y h1 h2 h3 => ?_, by omega⟩
  by_cases hh : x < ρ.i .i64 1000 ∨ (x = ρ.i .i64 1000 ∧ y < ρ.i .i64 1002)
  · exact hi x y h1 h2 hh
  · have e1 : x = 5 := by omega
    have e2 : y = 3 := by omega
    subst e2
    subst e1
    first
      | exact .inl (by omega)
      | exact .inr (.inl (by omega))
      | exact .inr (.inr (.inl ⟨by omega, by omega⟩))
      | exact .inr (.inr (.inr (by decide)))
      | (have e3 : y = 0 := by omega
         rw [e3]
         exact .inr (.inr (.inr (by decide))))
      | (have e3 : y = 1 := by omega
         rw [e3]
         exact .inr (.inr (.inr (by decide))))
      | (have e3 : y = 2 := by omega
         rw [e3]
         exact .inr (.inr (.inr (by decide))))
      | (have e3 : y = 3 := by omega
         rw [e3]
         exact .inr (.inr (.inr (by decide))))
      | (have e3 : y = 4 := by omega
         rw [e3]
         exact .inr (.inr (.inr (by decide))))
      | (have e3 : y = 5 := by omega
         rw [e3]
         exact .inr (.inr (.inr (by decide))))
      | skip
theorem vctogF1_46 : VC TTtogF invtogF mstogF 1 ttogF1 wtogF1_46 := by
  intro ρ kn hi hp
  have hi : ivtogF1 ρ := hi
  unfold ivtogF1 at hi
  have hF : ρ.z.F = hold.Φ := kn.F
  simp only [h_nil, h_cons, d_le, d_eq, d_not, d_var, d_lit, d_cel, d_leq, d_fn, d_and, d_iff, IE.den, LE.den, AL.den, lenV, true_and, and_true, pctogF1_47, pctogF1_46, pctogF1_42, pctogF1_38, pctogF1_32, pctogF1_26, pctogF1_20, pctogF1_15, pctogF1_10, pctogF1_7, pctogF1_4, pctogF1_2, pctogF1_0, hF, pi1, pb1, pb2, pb3, pb4, pb5, pb6] at hp
  obtain ⟨p1, p2, p3, p4, p5, p6, p7, p8, p9, p10, p11, p12, p13, p14, p15, p16, p17, p18, p19, p20⟩ := hp
  refine (show (∀ x y : Int, 0 ≤ y → y ≤ x → (x < (ρ.i .i64 1000) ∨ (x = (ρ.i .i64 1000) ∧ y < ((ρ.i .i64 1002) + (1 : Int)))) → (cntN (ρ.z.rl 0) x (ρ.z.rl 0).length = 0 ∨ cntN (ρ.z.rl 0) y (ρ.z.rl 0).length = 0 ∨ (x = y ∧ cntN (ρ.z.rl 0) x (ρ.z.rl 0).length ≤ 1) ∨ fitsN x y = true)) ∧ (((6 - (ρ.i .i64 1000).toNat) * 10 + (9 - ((ρ.i .i64 1002) + (1 : Int)).toNat) : Nat) < (6 - (ρ.i .i64 1000).toNat) * 10 + (9 - (ρ.i .i64 1002).toNat)) from ?_)
  have cl : ∀ m, clampK .i64 (cntN (ρ.z.rl 0) m (ρ.z.rl 0).length : Int) = (cntN (ρ.z.rl 0) m (ρ.z.rl 0).length : Int) := fun m => clampS (by omega) (by have := cnt_le (ρ.z.rl 0) m (ρ.z.rl 0).length; omega)
  try simp only [cl] at *
  refine ⟨fun x y h1 h2 h3 => ?_, by omega⟩
  by_cases hh : x < ρ.i .i64 1000 ∨ (x = ρ.i .i64 1000 ∧ y < ρ.i .i64 1002)
  · exact hi x y h1 h2 hh
  · have e1 : x = 5 := by omega
    have e2 : y = 4 := by omega
    subst e2
    subst e1
    first
      | exact .inl (by omega)
      | exact .inr (.inl (by omega))
      | exact .inr (.inr (.inl ⟨by omega, by omega⟩))
      | exact .inr (.inr (.inr (by decide)))
      | (have e3 : y = 0 := by omega
         rw [e3]
         exact .inr (.inr (.inr (by decide))))
      | (have e3 : y = 1 := by omega
         rw [e3]
         exact .inr (.inr (.inr (by decide))))
      | (have e3 : y = 2 := by omega
         rw [e3]
         exact .inr (.inr (.inr (by decide))))
      | (have e3 : y = 3 := by omega
         rw [e3]
         exact .inr (.inr (.inr (by decide))))
      | (have e3 : y = 4 := by omega
         rw [e3]
         exact .inr (.inr (.inr (by decide))))
      | (have e3 : y = 5 := by omega
         rw [e3]
         exact .inr (.inr (.inr (by decide))))
      | skip
theorem vctogF1_48 : VC TTtogF invtogF mstogF 1 ttogF1 wtogF1_48 := by
  intro ρ kn hi hp
  have hi : ivtogF1 ρ := hi
  unfold ivtogF1 at hi
  have hF : ρ.z.F = hold.Φ := kn.F
  simp only [h_nil, h_cons, d_le, d_eq, d_not, d_var, d_lit, d_cel, d_leq, d_fn, d_and, d_iff, IE.den, LE.den, AL.den, lenV, true_and, and_true, pctogF1_48, pctogF1_46, pctogF1_42, pctogF1_38, pctogF1_32, pctogF1_26, pctogF1_20, pctogF1_15, pctogF1_10, pctogF1_7, pctogF1_4, pctogF1_2, pctogF1_0, hF, pi1, pb1, pb2, pb3, pb4, pb5, pb6] at hp
  obtain ⟨p1, p2, p3, p4, p5, p6, p7, p8, p9, p10, p11, p12, p13, p14, p15, p16, p17, p18, p19, p20⟩ := hp
  refine (show (∀ x y : Int, 0 ≤ y → y ≤ x → (x < (ρ.i .i64 1000) ∨ (x = (ρ.i .i64 1000) ∧ y < ((ρ.i .i64 1002) + (1 : Int)))) → (cntN (ρ.z.rl 0) x (ρ.z.rl 0).length = 0 ∨ cntN (ρ.z.rl 0) y (ρ.z.rl 0).length = 0 ∨ (x = y ∧ cntN (ρ.z.rl 0) x (ρ.z.rl 0).length ≤ 1) ∨ fitsN x y = true)) ∧ (((6 - (ρ.i .i64 1000).toNat) * 10 + (9 - ((ρ.i .i64 1002) + (1 : Int)).toNat) : Nat) < (6 - (ρ.i .i64 1000).toNat) * 10 + (9 - (ρ.i .i64 1002).toNat)) from ?_)
  have cl : ∀ m, clampK .i64 (cntN (ρ.z.rl 0) m (ρ.z.rl 0).length : Int) = (cntN (ρ.z.rl 0) m (ρ.z.rl 0).length : Int) := fun m => clampS (by omega) (by have := cnt_le (ρ.z.rl 0) m (ρ.z.rl 0).length; omega)
  try simp only [cl] at *
  refine ⟨fun x y h1 h2 h3 => ?_, by omega⟩
  by_cases hh : x < ρ.i .i64 1000 ∨ (x = ρ.i .i64 1000 ∧ y < ρ.i .i64 1002)
  · exact hi x y h1 h2 hh
  · have e1 : x = 5 := by omega
    subst e1
    first
      | exact .inl (by omega)
      | exact .inr (.inl (by omega))
      | exact .inr (.inr (.inl ⟨by omega, by omega⟩))
      | exact .inr (.inr (.inr (by decide)))
      | (have e3 : y = 0 := by omega
         rw [e3]
         exact .inr (.inr (.inr (by decide))))
      | (have e3 : y = 1 := by omega
         rw [e3]
         exact .inr (.inr (.inr (by decide))))
      | (have e3 : y = 2 := by omega
         rw [e3]
         exact .inr (.inr (.inr (by decide))))
      | (have e3 : y = 3 := by omega
         rw [e3]
         exact .inr (.inr (.inr (by decide))))
      | (have e3 : y = 4 := by omega
         rw [e3]
         exact .inr (.inr (.inr (by decide))))
      | (have e3 : y = 5 := by omega
         rw [e3]
         exact .inr (.inr (.inr (by decide))))
      | skip
theorem vcstogF0 : ∀ v ∈ vwtogF 0, VC TTtogF invtogF mstogF 0 (startF 101 cTogF.pat (.lit true :: cTogF.pre)) v := all_cons vctogF0_0 (all_cons vctogF0_1 (all_nil))
theorem oktogF0 : cfgOk (startF 101 cTogF.pat (.lit true :: cTogF.pre)) = true := by kernel_rfl
theorem sgtogF0 : segL cTogF.roms cTogF (seg TTtogF seltogF 2000 tmtogF (startF 101 cTogF.pat (.lit true :: cTogF.pre))) = (true, codesR tmtogF (views (seg TTtogF seltogF 2000 tmtogF (startF 101 cTogF.pat (.lit true :: cTogF.pre)))), vwtogF 0) := by kernel_rfl
theorem vcstogF1 : ∀ v ∈ vwtogF 1, VC TTtogF invtogF mstogF 1 ttogF1 v := all_cons vctogF1_0 (all_cons vctogF1_1 (all_cons vctogF1_2 (all_cons vctogF1_3 (all_cons vctogF1_4 (all_cons vctogF1_5 (all_cons vctogF1_6 (all_cons vctogF1_7 (all_cons vctogF1_8 (all_cons vctogF1_9 (all_cons vctogF1_10 (all_cons vctogF1_11 (all_cons vctogF1_12 (all_cons vctogF1_13 (all_cons vctogF1_14 (all_cons vctogF1_15 (all_cons vctogF1_16 (all_cons vctogF1_17 (all_cons vctogF1_18 (all_cons vctogF1_19 (all_cons vctogF1_20 (all_cons vctogF1_21 (all_cons vctogF1_22 (all_cons vcgtogF1_1.1 (all_cons vctogF1_24 (all_cons vctogF1_25 (all_cons vctogF1_26 (all_cons vctogF1_27 (all_cons vctogF1_28 (all_cons vctogF1_29 (all_cons vctogF1_30 (all_cons vctogF1_31 (all_cons vcgtogF1_1.2.1 (all_cons vctogF1_33 (all_cons vcgtogF1_1.2.2.1 (all_cons vctogF1_35 (all_cons vcgtogF1_1.2.2.2.1 (all_cons vctogF1_37 (all_cons vctogF1_38 (all_cons vctogF1_39 (all_cons vctogF1_40 (all_cons vcgtogF1_1.2.2.2.2.1 (all_cons vctogF1_42 (all_cons vcgtogF1_1.2.2.2.2.2.1 (all_cons vctogF1_44 (all_cons vcgtogF1_1.2.2.2.2.2.2.1 (all_cons vctogF1_46 (all_cons vcgtogF1_1.2.2.2.2.2.2.2.1 (all_cons vctogF1_48 (all_cons vcgtogF1_1.2.2.2.2.2.2.2.2 (all_nil))))))))))))))))))))))))))))))))))))))))))))))))))
theorem oktogF1 : cfgOk ttogF1 = true := by kernel_rfl
theorem sgtogF1 : segL cTogF.roms cTogF (seg TTtogF seltogF 2000 tmtogF ttogF1) = (true, codesR tmtogF (views (seg TTtogF seltogF 2000 tmtogF ttogF1)), vwtogF 1) := by kernel_rfl
theorem lntogF0 : ∀ ρ, Known TTtogF (startF 101 cTogF.pat (.lit true :: cTogF.pre)) ρ → invtogF 0 ρ.lt → Holds ρ (leanOf (Cfg.pc (startF 101 cTogF.pat (.lit true :: cTogF.pre)))) := by
  intro ρ _ _
  exact (show Holds ρ [] from fun p hp => by cases hp)
theorem lntogF1 : ∀ ρ, Known TTtogF ttogF1 ρ → invtogF 1 ρ.lt → Holds ρ (leanOf (Cfg.pc ttogF1)) := by
  intro ρ _ _
  exact (show Holds ρ [] from fun p hp => by cases hp)
theorem told_togF : Sx.Told hold.Φ cTogF := by
  refine told_of (cs := [cModesR, cCnt]) (all_cons told_modesR (all_cons told_cnt (all_nil))) (sel := seltogF) 2000 tmtogF invtogF mstogF vwtogF 0 (pc0 := (.lit true :: cTogF.pre)) (by kernel_rfl) (by kernel_rfl) (by kernel_rfl) (post_nil rfl) ?_ ?_ ?_ rfl (fun ρ _ h => h.cons (p := .lit true) (by simp only [BE.den])) (fun _ _ _ _ => trivial) ?_
  · intro k C h
    have := lk_mem h
    simp only [tmtogF, List.mem_cons, Prod.mk.injEq, List.not_mem_nil, or_false] at this
    rcases this with ⟨rfl, rfl⟩ | ⟨rfl, rfl⟩
    · exact oktogF0
    · exact oktogF1
  · intro k C h
    have := lk_mem h
    simp only [tmtogF, List.mem_cons, Prod.mk.injEq, List.not_mem_nil, or_false] at this
    rcases this with ⟨rfl, rfl⟩ | ⟨rfl, rfl⟩
    · exact sgtogF0
    · exact sgtogF1
  · intro k C h
    have := lk_mem h
    simp only [tmtogF, List.mem_cons, Prod.mk.injEq, List.not_mem_nil, or_false] at this
    rcases this with ⟨rfl, rfl⟩ | ⟨rfl, rfl⟩
    · exact vcstogF0
    · exact vcstogF1
  · intro k C h
    have := lk_mem h
    simp only [tmtogF, List.mem_cons, Prod.mk.injEq, List.not_mem_nil, or_false] at this
    rcases this with ⟨rfl, rfl⟩ | ⟨rfl, rfl⟩
    · exact lntogF0
    · exact lntogF1
end Go.Proofs.YteblnjgghbclpaaDoor.hold
