/- Layer call: bytes of asks. No condition. -/
import Derived.Test.YthenenacmiiphaaCb
set_option linter.unusedVariables false
set_option linter.unusedSimpArgs false
set_option linter.deprecated false
namespace Go.Proofs.Ythenenacmiiphaa.oct
open Go Go.Proofs.Ythenenacmiiphaa.Sx
noncomputable section
abbrev TTbytes : Tab := T oct.Φ cBytes.roms [cShp, cShpN, cNumber, cSigned]
abbrev tbytes0 : AL := AL.int .i64 (IE.var .i64 4) (AL.int .i64 (IE.var .i64 5) (AL.int .i64 (IE.var .i64 6) (AL.int .i64 (IE.var .i64 7) (AL.int .i64 (IE.var .i64 8) (AL.int .i64 (IE.var .i64 9) (AL.int .i64 (IE.var .i64 10) (AL.int .i64 (IE.var .i64 11) AL.nil)))))))
abbrev tbytes2 : LE := LE.fn 1 (AL.int .u64 (IE.var .i64 5) AL.nil)
abbrev tbytes3 : LE := LE.fn 1 (AL.int .u64 (IE.var .i64 4) AL.nil)
abbrev tbytes4 : BE := BE.le (IE.var .i64 5) (IE.wrap .i64 (IE.sub (IE.var .i64 2) (IE.lit 1)))
abbrev tbytes5 : LE := LE.fn 1 (AL.int .u64 (IE.var .i64 10) AL.nil)
abbrev tbytes6 : BE := BE.le (IE.var .i64 9) (IE.wrap .i64 (IE.sub (IE.var .i64 3) (IE.lit 1)))
abbrev tbytes7 : LE := LE.fn 1 (AL.int .u64 (IE.var .i64 9) AL.nil)
abbrev tbytes9 : BE := BE.eq (IE.var .i64 11) (IE.lit 0)
abbrev tbytes10 : BE := BE.le (IE.var .i64 10) (IE.lit 1099511627776)
abbrev tbytes11 : BE := BE.le (IE.lit 0) (IE.var .i64 5)
abbrev tbytes12 : BE := BE.eq (IE.var .i64 8) (IE.lit 0)
abbrev tbytes13 : LE := LE.fn 1 (AL.int .u64 (IE.fn .u64 2 (AL.int .i64 (IE.var .i64 11) AL.nil)) AL.nil)
abbrev tbytes14 : BE := BE.le (IE.lit 1) (IE.var .i64 10)
abbrev tbytes15 : BE := BE.le (IE.lit 0) (IE.var .i64 9)
abbrev tbytes16 : BE := BE.eq (IE.var .i64 6) (IE.lit 0)
abbrev tbytes17 : BE := BE.eq (IE.var .i64 7) (IE.lit 0)
abbrev tbytes18 : LE := LE.fn 1 (AL.int .u64 (IE.var .i64 7) AL.nil)
abbrev tbytes19 : LE := LE.fn 1 (AL.int .u64 (IE.var .i64 6) AL.nil)
abbrev tbytes20 : LE := LE.cat (LE.cat (LE.cat tbytes3 tbytes2) tbytes7) tbytes5
abbrev tbytes21 : BE := BE.le (IE.len tbytes2) (IE.lit 10)
abbrev tbytes22 : BE := BE.le (IE.len tbytes3) (IE.lit 10)
abbrev tbytes23 : BE := BE.le (IE.lit 1) (IE.len tbytes2)
abbrev tbytes24 : BE := BE.le (IE.lit 1) (IE.len tbytes3)
abbrev tbytes25 : LE := LE.fn 1 (AL.int .u64 (IE.var .i64 8) AL.nil)
abbrev tbytes26 : BE := BE.le (IE.len tbytes5) (IE.lit 10)
abbrev tbytes27 : BE := BE.le (IE.len tbytes7) (IE.lit 10)
abbrev tbytes28 : BE := BE.le (IE.lit 1) (IE.len tbytes5)
abbrev tbytes29 : BE := BE.le (IE.lit 1) (IE.len tbytes7)
abbrev tbytes30 : BE := BE.fn 10 (AL.int .i64 (IE.var .i64 1) (AL.int .i64 (IE.var .i64 2) (AL.int .i64 (IE.var .i64 3) AL.nil)))
abbrev tbytes1 : IE := IE.add (IE.add (IE.add (IE.len tbytes3) (IE.len tbytes2)) (IE.len tbytes7)) (IE.len tbytes5)
abbrev tbytes8 : IE := IE.add (IE.add (IE.add (IE.len tbytes3) (IE.len tbytes2)) (IE.len tbytes19)) (IE.len tbytes18)
abbrev pcbytes_0 : List BE := [(BE.lit true), (BE.fn 11 (AL.int .i64 (IE.var .i64 1) (AL.int .i64 (IE.var .i64 2) (AL.int .i64 (IE.var .i64 3) tbytes0))))]
abbrev pcbytes_1 : List BE := (tbytes30 :: pcbytes_0)
abbrev pcbytes_2 : List BE := ((BE.eq (IE.var .i64 4) (IE.lit 1)) :: pcbytes_1)
abbrev pcbytes_3 : List BE := ((BE.not (BE.eq (IE.var .i64 4) (IE.lit 1))) :: pcbytes_1)
abbrev pcbytes_4 : List BE := (tbytes11 :: pcbytes_2)
abbrev pcbytes_5 : List BE := ((BE.eq (IE.var .i64 4) (IE.lit 2)) :: pcbytes_3)
abbrev pcbytes_6 : List BE := ((BE.not (BE.eq (IE.var .i64 4) (IE.lit 2))) :: pcbytes_3)
abbrev pcbytes_7 : List BE := (tbytes4 :: pcbytes_4)
abbrev pcbytes_8 : List BE := (tbytes11 :: pcbytes_5)
abbrev pcbytes_9 : List BE := ((BE.eq (IE.var .i64 4) (IE.lit 3)) :: pcbytes_6)
abbrev pcbytes_10 : List BE := ((BE.not (BE.eq (IE.var .i64 4) (IE.lit 3))) :: pcbytes_6)
abbrev pcbytes_11 : List BE := ((BE.le (IE.lit 1) (IE.var .i64 6)) :: pcbytes_7)
abbrev pcbytes_12 : List BE := (tbytes4 :: pcbytes_8)
abbrev pcbytes_13 : List BE := (tbytes11 :: pcbytes_9)
abbrev pcbytes_14 : List BE := ((BE.eq (IE.var .i64 4) (IE.lit 4)) :: pcbytes_10)
abbrev pcbytes_15 : List BE := ((BE.not (BE.eq (IE.var .i64 4) (IE.lit 4))) :: pcbytes_10)
abbrev pcbytes_16 : List BE := ((BE.le (IE.var .i64 6) (IE.lit 5)) :: pcbytes_11)
abbrev pcbytes_17 : List BE := ((BE.le (IE.lit 1) (IE.var .i64 6)) :: pcbytes_12)
abbrev pcbytes_18 : List BE := (tbytes4 :: pcbytes_13)
abbrev pcbytes_19 : List BE := (tbytes11 :: pcbytes_14)
abbrev pcbytes_20 : List BE := ((BE.eq (IE.var .i64 4) (IE.lit 5)) :: pcbytes_15)
abbrev pcbytes_21 : List BE := ((BE.not (BE.eq (IE.var .i64 4) (IE.lit 5))) :: pcbytes_15)
abbrev pcbytes_22 : List BE := ((BE.le (IE.lit 0) (IE.var .i64 7)) :: pcbytes_16)
abbrev pcbytes_23 : List BE := ((BE.le (IE.var .i64 6) (IE.lit 5)) :: pcbytes_17)
abbrev pcbytes_24 : List BE := (tbytes15 :: pcbytes_18)
abbrev pcbytes_25 : List BE := (tbytes4 :: pcbytes_19)
abbrev pcbytes_26 : List BE := (tbytes11 :: pcbytes_20)
abbrev pcbytes_27 : List BE := ((BE.eq (IE.var .i64 4) (IE.lit 6)) :: pcbytes_21)
abbrev pcbytes_28 : List BE := ((BE.not (BE.eq (IE.var .i64 4) (IE.lit 6))) :: pcbytes_21)
abbrev pcbytes_29 : List BE := ((BE.le (IE.var .i64 7) (IE.lit 3)) :: pcbytes_22)
abbrev pcbytes_30 : List BE := ((BE.le (IE.lit 0) (IE.var .i64 7)) :: pcbytes_23)
abbrev pcbytes_31 : List BE := (tbytes6 :: pcbytes_24)
abbrev pcbytes_32 : List BE := (tbytes15 :: pcbytes_25)
abbrev pcbytes_33 : List BE := (tbytes4 :: pcbytes_26)
abbrev pcbytes_34 : List BE := (tbytes11 :: pcbytes_27)
abbrev pcbytes_35 : List BE := ((BE.eq (IE.var .i64 4) (IE.lit 7)) :: pcbytes_28)
abbrev pcbytes_36 : List BE := ((BE.le (IE.lit 0) (IE.var .i64 8)) :: pcbytes_29)
abbrev pcbytes_37 : List BE := ((BE.le (IE.var .i64 7) (IE.lit 3)) :: pcbytes_30)
abbrev pcbytes_38 : List BE := (tbytes14 :: pcbytes_31)
abbrev pcbytes_39 : List BE := (tbytes6 :: pcbytes_32)
abbrev pcbytes_40 : List BE := (tbytes15 :: pcbytes_33)
abbrev pcbytes_41 : List BE := (tbytes4 :: pcbytes_34)
abbrev pcbytes_42 : List BE := (tbytes11 :: pcbytes_35)
abbrev pcbytes_43 : List BE := ((BE.le (IE.var .i64 8) (IE.lit 1099511627776)) :: pcbytes_36)
abbrev pcbytes_44 : List BE := (tbytes12 :: pcbytes_37)
abbrev pcbytes_45 : List BE := (tbytes10 :: pcbytes_38)
abbrev pcbytes_46 : List BE := (tbytes14 :: pcbytes_39)
abbrev pcbytes_47 : List BE := (tbytes6 :: pcbytes_40)
abbrev pcbytes_48 : List BE := (tbytes15 :: pcbytes_41)
abbrev pcbytes_49 : List BE := (tbytes4 :: pcbytes_42)
abbrev pcbytes_50 : List BE := ((BE.eq (IE.var .i64 9) (IE.lit 0)) :: pcbytes_43)
abbrev pcbytes_51 : List BE := ((BE.eq (IE.var .i64 9) (IE.lit 0)) :: pcbytes_44)
abbrev pcbytes_52 : List BE := (tbytes16 :: pcbytes_45)
abbrev pcbytes_53 : List BE := (tbytes10 :: pcbytes_46)
abbrev pcbytes_54 : List BE := (tbytes14 :: pcbytes_47)
abbrev pcbytes_55 : List BE := (tbytes6 :: pcbytes_48)
abbrev pcbytes_56 : List BE := (tbytes15 :: pcbytes_49)
abbrev pcbytes_57 : List BE := ((BE.eq (IE.var .i64 10) (IE.lit 0)) :: pcbytes_50)
abbrev pcbytes_58 : List BE := ((BE.eq (IE.var .i64 10) (IE.lit 0)) :: pcbytes_51)
abbrev pcbytes_59 : List BE := (tbytes17 :: pcbytes_52)
abbrev pcbytes_60 : List BE := (tbytes16 :: pcbytes_53)
abbrev pcbytes_61 : List BE := (tbytes10 :: pcbytes_54)
abbrev pcbytes_62 : List BE := (tbytes14 :: pcbytes_55)
abbrev pcbytes_63 : List BE := (tbytes6 :: pcbytes_56)
abbrev pcbytes_64 : List BE := (tbytes12 :: pcbytes_59)
abbrev pcbytes_65 : List BE := (tbytes17 :: pcbytes_60)
abbrev pcbytes_66 : List BE := (tbytes16 :: pcbytes_61)
abbrev pcbytes_67 : List BE := (tbytes10 :: pcbytes_62)
abbrev pcbytes_68 : List BE := (tbytes14 :: pcbytes_63)
abbrev pcbytes_69 : List BE := (tbytes12 :: pcbytes_65)
abbrev pcbytes_70 : List BE := (tbytes17 :: pcbytes_66)
abbrev pcbytes_71 : List BE := (tbytes16 :: pcbytes_67)
abbrev pcbytes_72 : List BE := (tbytes10 :: pcbytes_68)
abbrev pcbytes_73 : List BE := (tbytes12 :: pcbytes_70)
abbrev pcbytes_74 : List BE := (tbytes17 :: pcbytes_71)
abbrev pcbytes_75 : List BE := ((BE.not tbytes9) :: pcbytes_72)
abbrev pcbytes_76 : List BE := (tbytes12 :: pcbytes_74)
abbrev pcbytes_77 : List BE := (tbytes16 :: pcbytes_75)
abbrev pcbytes_78 : List BE := (tbytes17 :: pcbytes_77)
def wbytes_0 : VW := (VW.done ((BE.le (IE.lit 1) (IE.len tbytes25)) :: (BE.le (IE.len tbytes25) (IE.lit 10)) :: (BE.le (IE.lit 1) (IE.len tbytes18)) :: (BE.le (IE.len tbytes18) (IE.lit 10)) :: (BE.le (IE.lit 1) (IE.len tbytes19)) :: (BE.le (IE.len tbytes19) (IE.lit 10)) :: tbytes23 :: tbytes21 :: tbytes24 :: tbytes22 :: tbytes9 :: pcbytes_57) (some [(G.i (IE.len (LE.fn 7 tbytes0)) (IE.add tbytes8 (IE.len tbytes25))), (G.l (LE.fn 7 tbytes0) (LE.cat (LE.cat (LE.cat (LE.cat tbytes3 tbytes2) tbytes19) tbytes18) tbytes25)), (G.i (IE.len (LE.fn 7 tbytes0)) (IE.add tbytes8 (IE.len tbytes25)))]))
def wbytes_1 : VW := (VW.done ((BE.not tbytes9) :: pcbytes_57) (some [(G.b (BE.lit true) (BE.lit false))]))
def wbytes_2 : VW := (VW.done ((BE.not (BE.eq (IE.var .i64 10) (IE.lit 0))) :: pcbytes_50) (some [(G.b (BE.lit true) (BE.lit false))]))
def wbytes_3 : VW := (VW.done ((BE.not (BE.eq (IE.var .i64 9) (IE.lit 0))) :: pcbytes_43) (some [(G.b (BE.lit true) (BE.lit false))]))
def wbytes_4 : VW := (VW.done ((BE.not (BE.le (IE.var .i64 8) (IE.lit 1099511627776))) :: pcbytes_36) (some [(G.b (BE.lit true) (BE.lit false))]))
def wbytes_5 : VW := (VW.done ((BE.not (BE.le (IE.lit 0) (IE.var .i64 8))) :: pcbytes_29) (some [(G.b (BE.lit true) (BE.lit false))]))
def wbytes_6 : VW := (VW.done ((BE.not (BE.le (IE.var .i64 7) (IE.lit 3))) :: pcbytes_22) (some [(G.b (BE.lit true) (BE.lit false))]))
def wbytes_7 : VW := (VW.done ((BE.not (BE.le (IE.lit 0) (IE.var .i64 7))) :: pcbytes_16) (some [(G.b (BE.lit true) (BE.lit false))]))
def wbytes_8 : VW := (VW.done ((BE.not (BE.le (IE.var .i64 6) (IE.lit 5))) :: pcbytes_11) (some [(G.b (BE.lit true) (BE.lit false))]))
def wbytes_9 : VW := (VW.done ((BE.not (BE.le (IE.lit 1) (IE.var .i64 6))) :: pcbytes_7) (some [(G.b (BE.lit true) (BE.lit false))]))
def wbytes_10 : VW := (VW.done ((BE.not tbytes4) :: pcbytes_4) (some [(G.b (BE.lit true) (BE.lit false))]))
def wbytes_11 : VW := (VW.done ((BE.not tbytes11) :: pcbytes_2) (some [(G.b (BE.lit true) (BE.lit false))]))
def wbytes_12 : VW := (VW.done ((BE.le (IE.lit 1) (IE.len tbytes18)) :: (BE.le (IE.len tbytes18) (IE.lit 10)) :: (BE.le (IE.lit 1) (IE.len tbytes19)) :: (BE.le (IE.len tbytes19) (IE.lit 10)) :: tbytes23 :: tbytes21 :: tbytes24 :: tbytes22 :: tbytes9 :: pcbytes_58) (some [(G.i (IE.len (LE.fn 7 tbytes0)) tbytes8), (G.l (LE.fn 7 tbytes0) (LE.cat (LE.cat (LE.cat tbytes3 tbytes2) tbytes19) tbytes18)), (G.i (IE.len (LE.fn 7 tbytes0)) tbytes8)]))
def wbytes_13 : VW := (VW.done ((BE.not tbytes9) :: pcbytes_58) (some [(G.b (BE.lit true) (BE.lit false))]))
def wbytes_14 : VW := (VW.done ((BE.not (BE.eq (IE.var .i64 10) (IE.lit 0))) :: pcbytes_51) (some [(G.b (BE.lit true) (BE.lit false))]))
def wbytes_15 : VW := (VW.done ((BE.not (BE.eq (IE.var .i64 9) (IE.lit 0))) :: pcbytes_44) (some [(G.b (BE.lit true) (BE.lit false))]))
def wbytes_16 : VW := (VW.done ((BE.not tbytes12) :: pcbytes_37) (some [(G.b (BE.lit true) (BE.lit false))]))
def wbytes_17 : VW := (VW.done ((BE.not (BE.le (IE.var .i64 7) (IE.lit 3))) :: pcbytes_30) (some [(G.b (BE.lit true) (BE.lit false))]))
def wbytes_18 : VW := (VW.done ((BE.not (BE.le (IE.lit 0) (IE.var .i64 7))) :: pcbytes_23) (some [(G.b (BE.lit true) (BE.lit false))]))
def wbytes_19 : VW := (VW.done ((BE.not (BE.le (IE.var .i64 6) (IE.lit 5))) :: pcbytes_17) (some [(G.b (BE.lit true) (BE.lit false))]))
def wbytes_20 : VW := (VW.done ((BE.not (BE.le (IE.lit 1) (IE.var .i64 6))) :: pcbytes_12) (some [(G.b (BE.lit true) (BE.lit false))]))
def wbytes_21 : VW := (VW.done ((BE.not tbytes4) :: pcbytes_8) (some [(G.b (BE.lit true) (BE.lit false))]))
def wbytes_22 : VW := (VW.done ((BE.not tbytes11) :: pcbytes_5) (some [(G.b (BE.lit true) (BE.lit false))]))
def wbytes_23 : VW := (VW.done (tbytes28 :: tbytes26 :: tbytes29 :: tbytes27 :: tbytes23 :: tbytes21 :: tbytes24 :: tbytes22 :: tbytes9 :: pcbytes_64) (some [(G.i (IE.len (LE.fn 7 tbytes0)) tbytes1), (G.l (LE.fn 7 tbytes0) tbytes20), (G.i (IE.len (LE.fn 7 tbytes0)) tbytes1)]))
def wbytes_24 : VW := (VW.done ((BE.not tbytes9) :: pcbytes_64) (some [(G.b (BE.lit true) (BE.lit false))]))
def wbytes_25 : VW := (VW.done ((BE.not tbytes12) :: pcbytes_59) (some [(G.b (BE.lit true) (BE.lit false))]))
def wbytes_26 : VW := (VW.done ((BE.not tbytes17) :: pcbytes_52) (some [(G.b (BE.lit true) (BE.lit false))]))
def wbytes_27 : VW := (VW.done ((BE.not tbytes16) :: pcbytes_45) (some [(G.b (BE.lit true) (BE.lit false))]))
def wbytes_28 : VW := (VW.done ((BE.not tbytes10) :: pcbytes_38) (some [(G.b (BE.lit true) (BE.lit false))]))
def wbytes_29 : VW := (VW.done ((BE.not tbytes14) :: pcbytes_31) (some [(G.b (BE.lit true) (BE.lit false))]))
def wbytes_30 : VW := (VW.done ((BE.not tbytes6) :: pcbytes_24) (some [(G.b (BE.lit true) (BE.lit false))]))
def wbytes_31 : VW := (VW.done ((BE.not tbytes15) :: pcbytes_18) (some [(G.b (BE.lit true) (BE.lit false))]))
def wbytes_32 : VW := (VW.done ((BE.not tbytes4) :: pcbytes_13) (some [(G.b (BE.lit true) (BE.lit false))]))
def wbytes_33 : VW := (VW.done ((BE.not tbytes11) :: pcbytes_9) (some [(G.b (BE.lit true) (BE.lit false))]))
def wbytes_34 : VW := (VW.done (tbytes28 :: tbytes26 :: tbytes29 :: tbytes27 :: tbytes23 :: tbytes21 :: tbytes24 :: tbytes22 :: tbytes9 :: pcbytes_69) (some [(G.i (IE.len (LE.fn 7 tbytes0)) tbytes1), (G.l (LE.fn 7 tbytes0) tbytes20), (G.i (IE.len (LE.fn 7 tbytes0)) tbytes1)]))
def wbytes_35 : VW := (VW.done ((BE.not tbytes9) :: pcbytes_69) (some [(G.b (BE.lit true) (BE.lit false))]))
def wbytes_36 : VW := (VW.done ((BE.not tbytes12) :: pcbytes_65) (some [(G.b (BE.lit true) (BE.lit false))]))
def wbytes_37 : VW := (VW.done ((BE.not tbytes17) :: pcbytes_60) (some [(G.b (BE.lit true) (BE.lit false))]))
def wbytes_38 : VW := (VW.done ((BE.not tbytes16) :: pcbytes_53) (some [(G.b (BE.lit true) (BE.lit false))]))
def wbytes_39 : VW := (VW.done ((BE.not tbytes10) :: pcbytes_46) (some [(G.b (BE.lit true) (BE.lit false))]))
def wbytes_40 : VW := (VW.done ((BE.not tbytes14) :: pcbytes_39) (some [(G.b (BE.lit true) (BE.lit false))]))
def wbytes_41 : VW := (VW.done ((BE.not tbytes6) :: pcbytes_32) (some [(G.b (BE.lit true) (BE.lit false))]))
def wbytes_42 : VW := (VW.done ((BE.not tbytes15) :: pcbytes_25) (some [(G.b (BE.lit true) (BE.lit false))]))
def wbytes_43 : VW := (VW.done ((BE.not tbytes4) :: pcbytes_19) (some [(G.b (BE.lit true) (BE.lit false))]))
def wbytes_44 : VW := (VW.done ((BE.not tbytes11) :: pcbytes_14) (some [(G.b (BE.lit true) (BE.lit false))]))
def wbytes_45 : VW := (VW.done (tbytes28 :: tbytes26 :: tbytes29 :: tbytes27 :: tbytes23 :: tbytes21 :: tbytes24 :: tbytes22 :: tbytes9 :: pcbytes_73) (some [(G.i (IE.len (LE.fn 7 tbytes0)) tbytes1), (G.l (LE.fn 7 tbytes0) tbytes20), (G.i (IE.len (LE.fn 7 tbytes0)) tbytes1)]))
def wbytes_46 : VW := (VW.done ((BE.not tbytes9) :: pcbytes_73) (some [(G.b (BE.lit true) (BE.lit false))]))
def wbytes_47 : VW := (VW.done ((BE.not tbytes12) :: pcbytes_70) (some [(G.b (BE.lit true) (BE.lit false))]))
def wbytes_48 : VW := (VW.done ((BE.not tbytes17) :: pcbytes_66) (some [(G.b (BE.lit true) (BE.lit false))]))
def wbytes_49 : VW := (VW.done ((BE.not tbytes16) :: pcbytes_61) (some [(G.b (BE.lit true) (BE.lit false))]))
def wbytes_50 : VW := (VW.done ((BE.not tbytes10) :: pcbytes_54) (some [(G.b (BE.lit true) (BE.lit false))]))
def wbytes_51 : VW := (VW.done ((BE.not tbytes14) :: pcbytes_47) (some [(G.b (BE.lit true) (BE.lit false))]))
def wbytes_52 : VW := (VW.done ((BE.not tbytes6) :: pcbytes_40) (some [(G.b (BE.lit true) (BE.lit false))]))
def wbytes_53 : VW := (VW.done ((BE.not tbytes15) :: pcbytes_33) (some [(G.b (BE.lit true) (BE.lit false))]))
def wbytes_54 : VW := (VW.done ((BE.not tbytes4) :: pcbytes_26) (some [(G.b (BE.lit true) (BE.lit false))]))
def wbytes_55 : VW := (VW.done ((BE.not tbytes11) :: pcbytes_20) (some [(G.b (BE.lit true) (BE.lit false))]))
def wbytes_56 : VW := (VW.done (tbytes28 :: tbytes26 :: tbytes29 :: tbytes27 :: tbytes23 :: tbytes21 :: tbytes24 :: tbytes22 :: tbytes9 :: pcbytes_76) (some [(G.i (IE.len (LE.fn 7 tbytes0)) tbytes1), (G.l (LE.fn 7 tbytes0) tbytes20), (G.i (IE.len (LE.fn 7 tbytes0)) tbytes1)]))
def wbytes_57 : VW := (VW.done ((BE.not tbytes9) :: pcbytes_76) (some [(G.b (BE.lit true) (BE.lit false))]))
def wbytes_58 : VW := (VW.done ((BE.not tbytes12) :: pcbytes_74) (some [(G.b (BE.lit true) (BE.lit false))]))
def wbytes_59 : VW := (VW.done ((BE.not tbytes17) :: pcbytes_71) (some [(G.b (BE.lit true) (BE.lit false))]))
def wbytes_60 : VW := (VW.done ((BE.not tbytes16) :: pcbytes_67) (some [(G.b (BE.lit true) (BE.lit false))]))
def wbytes_61 : VW := (VW.done ((BE.not tbytes10) :: pcbytes_62) (some [(G.b (BE.lit true) (BE.lit false))]))
def wbytes_62 : VW := (VW.done ((BE.not tbytes14) :: pcbytes_55) (some [(G.b (BE.lit true) (BE.lit false))]))
def wbytes_63 : VW := (VW.done ((BE.not tbytes6) :: pcbytes_48) (some [(G.b (BE.lit true) (BE.lit false))]))
def wbytes_64 : VW := (VW.done ((BE.not tbytes15) :: pcbytes_41) (some [(G.b (BE.lit true) (BE.lit false))]))
def wbytes_65 : VW := (VW.done ((BE.not tbytes4) :: pcbytes_34) (some [(G.b (BE.lit true) (BE.lit false))]))
def wbytes_66 : VW := (VW.done ((BE.not tbytes11) :: pcbytes_27) (some [(G.b (BE.lit true) (BE.lit false))]))
def wbytes_67 : VW := (VW.done (tbytes9 :: pcbytes_72) (some [(G.b (BE.lit true) (BE.lit false))]))
def wbytes_68 : VW := (VW.done ((BE.le (IE.lit 1) (IE.len tbytes13)) :: (BE.le (IE.len tbytes13) (IE.lit 10)) :: tbytes28 :: tbytes26 :: tbytes29 :: tbytes27 :: tbytes23 :: tbytes21 :: tbytes24 :: tbytes22 :: tbytes12 :: pcbytes_78) (some [(G.i (IE.len (LE.fn 7 tbytes0)) (IE.add tbytes1 (IE.len tbytes13))), (G.l (LE.fn 7 tbytes0) (LE.cat tbytes20 tbytes13)), (G.i (IE.len (LE.fn 7 tbytes0)) (IE.add tbytes1 (IE.len tbytes13)))]))
def wbytes_69 : VW := (VW.done ((BE.not tbytes12) :: pcbytes_78) (some [(G.b (BE.lit true) (BE.lit false))]))
def wbytes_70 : VW := (VW.done ((BE.not tbytes17) :: pcbytes_77) (some [(G.b (BE.lit true) (BE.lit false))]))
def wbytes_71 : VW := (VW.done ((BE.not tbytes16) :: pcbytes_75) (some [(G.b (BE.lit true) (BE.lit false))]))
def wbytes_72 : VW := (VW.done ((BE.not tbytes10) :: pcbytes_68) (some [(G.b (BE.lit true) (BE.lit false))]))
def wbytes_73 : VW := (VW.done ((BE.not tbytes14) :: pcbytes_63) (some [(G.b (BE.lit true) (BE.lit false))]))
def wbytes_74 : VW := (VW.done ((BE.not tbytes6) :: pcbytes_56) (some [(G.b (BE.lit true) (BE.lit false))]))
def wbytes_75 : VW := (VW.done ((BE.not tbytes15) :: pcbytes_49) (some [(G.b (BE.lit true) (BE.lit false))]))
def wbytes_76 : VW := (VW.done ((BE.not tbytes4) :: pcbytes_42) (some [(G.b (BE.lit true) (BE.lit false))]))
def wbytes_77 : VW := (VW.done ((BE.not tbytes11) :: pcbytes_35) (some [(G.b (BE.lit true) (BE.lit false))]))
def wbytes_78 : VW := (VW.done ((BE.not (BE.eq (IE.var .i64 4) (IE.lit 7))) :: pcbytes_28) (some [(G.b (BE.lit true) (BE.lit false))]))
def wbytes_79 : VW := (VW.done ((BE.not tbytes30) :: pcbytes_0) (some [(G.b (BE.lit true) (BE.lit false))]))
def vwbytes : List VW := [wbytes_0, wbytes_1, wbytes_2, wbytes_3, wbytes_4, wbytes_5, wbytes_6, wbytes_7, wbytes_8, wbytes_9, wbytes_10, wbytes_11, wbytes_12, wbytes_13, wbytes_14, wbytes_15, wbytes_16, wbytes_17, wbytes_18, wbytes_19, wbytes_20, wbytes_21, wbytes_22, wbytes_23, wbytes_24, wbytes_25, wbytes_26, wbytes_27, wbytes_28, wbytes_29, wbytes_30, wbytes_31, wbytes_32, wbytes_33, wbytes_34, wbytes_35, wbytes_36, wbytes_37, wbytes_38, wbytes_39, wbytes_40, wbytes_41, wbytes_42, wbytes_43, wbytes_44, wbytes_45, wbytes_46, wbytes_47, wbytes_48, wbytes_49, wbytes_50, wbytes_51, wbytes_52, wbytes_53, wbytes_54, wbytes_55, wbytes_56, wbytes_57, wbytes_58, wbytes_59, wbytes_60, wbytes_61, wbytes_62, wbytes_63, wbytes_64, wbytes_65, wbytes_66, wbytes_67, wbytes_68, wbytes_69, wbytes_70, wbytes_71, wbytes_72, wbytes_73, wbytes_74, wbytes_75, wbytes_76, wbytes_77, wbytes_78, wbytes_79]
end
theorem vcbytes_0 : VD TTbytes (st0 cBytes) wbytes_0 := by
  intro ρ kn hp
  have hF : ρ.z.F = oct.Φ := kn.F
  simp only [h_nil, h_cons, d_le, d_eq, d_not, d_lit, d_fn, IE.den, LE.den, AL.den, lenV, true_and, and_true, hF, pi2, pl1, pb10, pb11, pb12, pl7, pl9] at hp
  obtain ⟨_, _, _, _, _, _, _, _, _, _, _, _, _, _, _, _, _, _, _, _, _, _, _, _⟩ := hp
  refine all_cons (show (((ρ.z.F.l 7 [.int .i64 (ρ.i .i64 4), .int .i64 (ρ.i .i64 5), .int .i64 (ρ.i .i64 6), .int .i64 (ρ.i .i64 7), .int .i64 (ρ.i .i64 8), .int .i64 (ρ.i .i64 9), .int .i64 (ρ.i .i64 10), .int .i64 (ρ.i .i64 11)]).length : Nat) : Int) = (((((((ρ.z.F.l 1 [.int .u64 (ρ.i .i64 4)]).length : Nat) : Int) + (((ρ.z.F.l 1 [.int .u64 (ρ.i .i64 5)]).length : Nat) : Int)) + (((ρ.z.F.l 1 [.int .u64 (ρ.i .i64 6)]).length : Nat) : Int)) + (((ρ.z.F.l 1 [.int .u64 (ρ.i .i64 7)]).length : Nat) : Int)) + (((ρ.z.F.l 1 [.int .u64 (ρ.i .i64 8)]).length : Nat) : Int)) from ?_) (all_cons (show (ρ.z.F.l 7 [.int .i64 (ρ.i .i64 4), .int .i64 (ρ.i .i64 5), .int .i64 (ρ.i .i64 6), .int .i64 (ρ.i .i64 7), .int .i64 (ρ.i .i64 8), .int .i64 (ρ.i .i64 9), .int .i64 (ρ.i .i64 10), .int .i64 (ρ.i .i64 11)]) = (((((ρ.z.F.l 1 [.int .u64 (ρ.i .i64 4)]) ++ (ρ.z.F.l 1 [.int .u64 (ρ.i .i64 5)])) ++ (ρ.z.F.l 1 [.int .u64 (ρ.i .i64 6)])) ++ (ρ.z.F.l 1 [.int .u64 (ρ.i .i64 7)])) ++ (ρ.z.F.l 1 [.int .u64 (ρ.i .i64 8)])) from ?_) (all_cons (show (((ρ.z.F.l 7 [.int .i64 (ρ.i .i64 4), .int .i64 (ρ.i .i64 5), .int .i64 (ρ.i .i64 6), .int .i64 (ρ.i .i64 7), .int .i64 (ρ.i .i64 8), .int .i64 (ρ.i .i64 9), .int .i64 (ρ.i .i64 10), .int .i64 (ρ.i .i64 11)]).length : Nat) : Int) = (((((((ρ.z.F.l 1 [.int .u64 (ρ.i .i64 4)]).length : Nat) : Int) + (((ρ.z.F.l 1 [.int .u64 (ρ.i .i64 5)]).length : Nat) : Int)) + (((ρ.z.F.l 1 [.int .u64 (ρ.i .i64 6)]).length : Nat) : Int)) + (((ρ.z.F.l 1 [.int .u64 (ρ.i .i64 7)]).length : Nat) : Int)) + (((ρ.z.F.l 1 [.int .u64 (ρ.i .i64 8)]).length : Nat) : Int)) from ?_) (all_nil)))
  all_goals try simp only [hF, pi2, pl1, pb10, pb11, pb12, pl7, pl9]
  all_goals
    obtain ⟨q0, q⟩ := ask_b (by assumption)
    first
      | (exfalso; exact absurd q0 (by assumption))
      | (obtain ⟨b1, b2, b3⟩ := shp_b q0
         try rw [wrap_1 (x := ρ.i .i64 2) (by omega)] at *
         try rw [wrap_1 (x := ρ.i .i64 3) (by omega)] at *
         exfalso
         omega)
      | (have c11 := tw_rng (i64_rng kn.ok 11)
         first
           | rw [askL_1 (by assumption)]
           | rw [askL_2 (by assumption)]
           | rw [askL_7 (by assumption)]
           | rw [askL_3 (by omega) (by omega) (by omega)]
         try simp only [c11]
         try simp only [List.length_append, Int.natCast_add, List.append_assoc]
         first
           | done
           | omega
           | rfl)
theorem vcbytes_1 : VD TTbytes (st0 cBytes) wbytes_1 := by
  intro ρ kn hp
  have hF : ρ.z.F = oct.Φ := kn.F
  simp only [h_nil, h_cons, d_le, d_eq, d_not, d_lit, d_fn, IE.den, LE.den, AL.den, lenV, true_and, and_true, hF, pi2, pl1, pb10, pb11, pb12, pl7, pl9] at hp
  obtain ⟨_, _, _, _, _, _, _, _, _, _, _, _, _, _⟩ := hp
  exfalso
  all_goals
    obtain ⟨q0, q⟩ := ask_b (by assumption)
    first
      | (exfalso; exact absurd q0 (by assumption))
      | (obtain ⟨b1, b2, b3⟩ := shp_b q0
         try rw [wrap_1 (x := ρ.i .i64 2) (by omega)] at *
         try rw [wrap_1 (x := ρ.i .i64 3) (by omega)] at *
         exfalso
         omega)
theorem vcbytes_2 : VD TTbytes (st0 cBytes) wbytes_2 := by
  intro ρ kn hp
  have hF : ρ.z.F = oct.Φ := kn.F
  simp only [h_nil, h_cons, d_le, d_eq, d_not, d_lit, d_fn, IE.den, LE.den, AL.den, lenV, true_and, and_true, hF, pi2, pl1, pb10, pb11, pb12, pl7, pl9] at hp
  obtain ⟨_, _, _, _, _, _, _, _, _, _, _, _, _⟩ := hp
  exfalso
  all_goals
    obtain ⟨q0, q⟩ := ask_b (by assumption)
    first
      | (exfalso; exact absurd q0 (by assumption))
      | (obtain ⟨b1, b2, b3⟩ := shp_b q0
         try rw [wrap_1 (x := ρ.i .i64 2) (by omega)] at *
         try rw [wrap_1 (x := ρ.i .i64 3) (by omega)] at *
         exfalso
         omega)
theorem vcbytes_3 : VD TTbytes (st0 cBytes) wbytes_3 := by
  intro ρ kn hp
  have hF : ρ.z.F = oct.Φ := kn.F
  simp only [h_nil, h_cons, d_le, d_eq, d_not, d_lit, d_fn, IE.den, LE.den, AL.den, lenV, true_and, and_true, hF, pi2, pl1, pb10, pb11, pb12, pl7, pl9] at hp
  obtain ⟨_, _, _, _, _, _, _, _, _, _, _, _⟩ := hp
  exfalso
  all_goals
    obtain ⟨q0, q⟩ := ask_b (by assumption)
    first
      | (exfalso; exact absurd q0 (by assumption))
      | (obtain ⟨b1, b2, b3⟩ := shp_b q0
         try rw [wrap_1 (x := ρ.i .i64 2) (by omega)] at *
         try rw [wrap_1 (x := ρ.i .i64 3) (by omega)] at *
         exfalso
         omega)
theorem vcbytes_4 : VD TTbytes (st0 cBytes) wbytes_4 := by
  intro ρ kn hp
  have hF : ρ.z.F = oct.Φ := kn.F
  simp only [h_nil, h_cons, d_le, d_eq, d_not, d_lit, d_fn, IE.den, LE.den, AL.den, lenV, true_and, and_true, hF, pi2, pl1, pb10, pb11, pb12, pl7, pl9] at hp
  obtain ⟨_, _, _, _, _, _, _, _, _, _, _⟩ := hp
  exfalso
  all_goals
    obtain ⟨q0, q⟩ := ask_b (by assumption)
    first
      | (exfalso; exact absurd q0 (by assumption))
      | (obtain ⟨b1, b2, b3⟩ := shp_b q0
         try rw [wrap_1 (x := ρ.i .i64 2) (by omega)] at *
         try rw [wrap_1 (x := ρ.i .i64 3) (by omega)] at *
         exfalso
         omega)
theorem vcbytes_5 : VD TTbytes (st0 cBytes) wbytes_5 := by
  intro ρ kn hp
  have hF : ρ.z.F = oct.Φ := kn.F
  simp only [h_nil, h_cons, d_le, d_eq, d_not, d_lit, d_fn, IE.den, LE.den, AL.den, lenV, true_and, and_true, hF, pi2, pl1, pb10, pb11, pb12, pl7, pl9] at hp
  obtain ⟨_, _, _, _, _, _, _, _, _, _⟩ := hp
  exfalso
  all_goals
    obtain ⟨q0, q⟩ := ask_b (by assumption)
    first
      | (exfalso; exact absurd q0 (by assumption))
      | (obtain ⟨b1, b2, b3⟩ := shp_b q0
         try rw [wrap_1 (x := ρ.i .i64 2) (by omega)] at *
         try rw [wrap_1 (x := ρ.i .i64 3) (by omega)] at *
         exfalso
         omega)
theorem vcbytes_6 : VD TTbytes (st0 cBytes) wbytes_6 := by
  intro ρ kn hp
  have hF : ρ.z.F = oct.Φ := kn.F
  simp only [h_nil, h_cons, d_le, d_eq, d_not, d_lit, d_fn, IE.den, LE.den, AL.den, lenV, true_and, and_true, hF, pi2, pl1, pb10, pb11, pb12, pl7, pl9] at hp
  obtain ⟨_, _, _, _, _, _, _, _, _⟩ := hp
  exfalso
  all_goals
    obtain ⟨q0, q⟩ := ask_b (by assumption)
    first
      | (exfalso; exact absurd q0 (by assumption))
      | (obtain ⟨b1, b2, b3⟩ := shp_b q0
         try rw [wrap_1 (x := ρ.i .i64 2) (by omega)] at *
         try rw [wrap_1 (x := ρ.i .i64 3) (by omega)] at *
         exfalso
         omega)
theorem vcbytes_7 : VD TTbytes (st0 cBytes) wbytes_7 := by
  intro ρ kn hp
  have hF : ρ.z.F = oct.Φ := kn.F
  simp only [h_nil, h_cons, d_le, d_eq, d_not, d_lit, d_fn, IE.den, LE.den, AL.den, lenV, true_and, and_true, hF, pi2, pl1, pb10, pb11, pb12, pl7, pl9] at hp
  obtain ⟨_, _, _, _, _, _, _, _⟩ := hp
  exfalso
  all_goals
    obtain ⟨q0, q⟩ := ask_b (by assumption)
    first
      | (exfalso; exact absurd q0 (by assumption))
      | (obtain ⟨b1, b2, b3⟩ := shp_b q0
         try rw [wrap_1 (x := ρ.i .i64 2) (by omega)] at *
         try rw [wrap_1 (x := ρ.i .i64 3) (by omega)] at *
         exfalso
         omega)
theorem vcbytes_8 : VD TTbytes (st0 cBytes) wbytes_8 := by
  intro ρ kn hp
  have hF : ρ.z.F = oct.Φ := kn.F
  simp only [h_nil, h_cons, d_le, d_eq, d_not, d_lit, d_fn, IE.den, LE.den, AL.den, lenV, true_and, and_true, hF, pi2, pl1, pb10, pb11, pb12, pl7, pl9] at hp
  obtain ⟨_, _, _, _, _, _, _⟩ := hp
  exfalso
  all_goals
    obtain ⟨q0, q⟩ := ask_b (by assumption)
    first
      | (exfalso; exact absurd q0 (by assumption))
      | (obtain ⟨b1, b2, b3⟩ := shp_b q0
         try rw [wrap_1 (x := ρ.i .i64 2) (by omega)] at *
         try rw [wrap_1 (x := ρ.i .i64 3) (by omega)] at *
         exfalso
         omega)
theorem vcbytes_9 : VD TTbytes (st0 cBytes) wbytes_9 := by
  intro ρ kn hp
  have hF : ρ.z.F = oct.Φ := kn.F
  simp only [h_nil, h_cons, d_le, d_eq, d_not, d_lit, d_fn, IE.den, LE.den, AL.den, lenV, true_and, and_true, hF, pi2, pl1, pb10, pb11, pb12, pl7, pl9] at hp
  obtain ⟨_, _, _, _, _, _⟩ := hp
  exfalso
  all_goals
    obtain ⟨q0, q⟩ := ask_b (by assumption)
    first
      | (exfalso; exact absurd q0 (by assumption))
      | (obtain ⟨b1, b2, b3⟩ := shp_b q0
         try rw [wrap_1 (x := ρ.i .i64 2) (by omega)] at *
         try rw [wrap_1 (x := ρ.i .i64 3) (by omega)] at *
         exfalso
         omega)
theorem vcbytes_10 : VD TTbytes (st0 cBytes) wbytes_10 := by
  intro ρ kn hp
  have hF : ρ.z.F = oct.Φ := kn.F
  simp only [h_nil, h_cons, d_le, d_eq, d_not, d_lit, d_fn, IE.den, LE.den, AL.den, lenV, true_and, and_true, hF, pi2, pl1, pb10, pb11, pb12, pl7, pl9] at hp
  obtain ⟨_, _, _, _, _⟩ := hp
  exfalso
  all_goals
    obtain ⟨q0, q⟩ := ask_b (by assumption)
    first
      | (exfalso; exact absurd q0 (by assumption))
      | (obtain ⟨b1, b2, b3⟩ := shp_b q0
         try rw [wrap_1 (x := ρ.i .i64 2) (by omega)] at *
         try rw [wrap_1 (x := ρ.i .i64 3) (by omega)] at *
         exfalso
         omega)
theorem vcbytes_11 : VD TTbytes (st0 cBytes) wbytes_11 := by
  intro ρ kn hp
  have hF : ρ.z.F = oct.Φ := kn.F
  simp only [h_nil, h_cons, d_le, d_eq, d_not, d_lit, d_fn, IE.den, LE.den, AL.den, lenV, true_and, and_true, hF, pi2, pl1, pb10, pb11, pb12, pl7, pl9] at hp
  obtain ⟨_, _, _, _⟩ := hp
  exfalso
  all_goals
    obtain ⟨q0, q⟩ := ask_b (by assumption)
    first
      | (exfalso; exact absurd q0 (by assumption))
      | (obtain ⟨b1, b2, b3⟩ := shp_b q0
         try rw [wrap_1 (x := ρ.i .i64 2) (by omega)] at *
         try rw [wrap_1 (x := ρ.i .i64 3) (by omega)] at *
         exfalso
         omega)
theorem vcbytes_12 : VD TTbytes (st0 cBytes) wbytes_12 := by
  intro ρ kn hp
  have hF : ρ.z.F = oct.Φ := kn.F
  simp only [h_nil, h_cons, d_le, d_eq, d_not, d_lit, d_fn, IE.den, LE.den, AL.den, lenV, true_and, and_true, hF, pi2, pl1, pb10, pb11, pb12, pl7, pl9] at hp
  obtain ⟨_, _, _, _, _, _, _, _, _, _, _, _, _, _, _, _, _, _, _, _, _, _⟩ := hp
  refine all_cons (show (((ρ.z.F.l 7 [.int .i64 (ρ.i .i64 4), .int .i64 (ρ.i .i64 5), .int .i64 (ρ.i .i64 6), .int .i64 (ρ.i .i64 7), .int .i64 (ρ.i .i64 8), .int .i64 (ρ.i .i64 9), .int .i64 (ρ.i .i64 10), .int .i64 (ρ.i .i64 11)]).length : Nat) : Int) = ((((((ρ.z.F.l 1 [.int .u64 (ρ.i .i64 4)]).length : Nat) : Int) + (((ρ.z.F.l 1 [.int .u64 (ρ.i .i64 5)]).length : Nat) : Int)) + (((ρ.z.F.l 1 [.int .u64 (ρ.i .i64 6)]).length : Nat) : Int)) + (((ρ.z.F.l 1 [.int .u64 (ρ.i .i64 7)]).length : Nat) : Int)) from ?_) (all_cons (show (ρ.z.F.l 7 [.int .i64 (ρ.i .i64 4), .int .i64 (ρ.i .i64 5), .int .i64 (ρ.i .i64 6), .int .i64 (ρ.i .i64 7), .int .i64 (ρ.i .i64 8), .int .i64 (ρ.i .i64 9), .int .i64 (ρ.i .i64 10), .int .i64 (ρ.i .i64 11)]) = ((((ρ.z.F.l 1 [.int .u64 (ρ.i .i64 4)]) ++ (ρ.z.F.l 1 [.int .u64 (ρ.i .i64 5)])) ++ (ρ.z.F.l 1 [.int .u64 (ρ.i .i64 6)])) ++ (ρ.z.F.l 1 [.int .u64 (ρ.i .i64 7)])) from ?_) (all_cons (show (((ρ.z.F.l 7 [.int .i64 (ρ.i .i64 4), .int .i64 (ρ.i .i64 5), .int .i64 (ρ.i .i64 6), .int .i64 (ρ.i .i64 7), .int .i64 (ρ.i .i64 8), .int .i64 (ρ.i .i64 9), .int .i64 (ρ.i .i64 10), .int .i64 (ρ.i .i64 11)]).length : Nat) : Int) = ((((((ρ.z.F.l 1 [.int .u64 (ρ.i .i64 4)]).length : Nat) : Int) + (((ρ.z.F.l 1 [.int .u64 (ρ.i .i64 5)]).length : Nat) : Int)) + (((ρ.z.F.l 1 [.int .u64 (ρ.i .i64 6)]).length : Nat) : Int)) + (((ρ.z.F.l 1 [.int .u64 (ρ.i .i64 7)]).length : Nat) : Int)) from ?_) (all_nil)))
  all_goals try simp only [hF, pi2, pl1, pb10, pb11, pb12, pl7, pl9]
  all_goals
    obtain ⟨q0, q⟩ := ask_b (by assumption)
    first
      | (exfalso; exact absurd q0 (by assumption))
      | (obtain ⟨b1, b2, b3⟩ := shp_b q0
         try rw [wrap_1 (x := ρ.i .i64 2) (by omega)] at *
         try rw [wrap_1 (x := ρ.i .i64 3) (by omega)] at *
         exfalso
         omega)
      | (have c11 := tw_rng (i64_rng kn.ok 11)
         first
           | rw [askL_1 (by assumption)]
           | rw [askL_2 (by assumption)]
           | rw [askL_7 (by assumption)]
           | rw [askL_3 (by omega) (by omega) (by omega)]
         try simp only [c11]
         try simp only [List.length_append, Int.natCast_add, List.append_assoc]
         first
           | done
           | omega
           | rfl)
theorem vcbytes_13 : VD TTbytes (st0 cBytes) wbytes_13 := by
  intro ρ kn hp
  have hF : ρ.z.F = oct.Φ := kn.F
  simp only [h_nil, h_cons, d_le, d_eq, d_not, d_lit, d_fn, IE.den, LE.den, AL.den, lenV, true_and, and_true, hF, pi2, pl1, pb10, pb11, pb12, pl7, pl9] at hp
  obtain ⟨_, _, _, _, _, _, _, _, _, _, _, _, _, _⟩ := hp
  exfalso
  all_goals
    obtain ⟨q0, q⟩ := ask_b (by assumption)
    first
      | (exfalso; exact absurd q0 (by assumption))
      | (obtain ⟨b1, b2, b3⟩ := shp_b q0
         try rw [wrap_1 (x := ρ.i .i64 2) (by omega)] at *
         try rw [wrap_1 (x := ρ.i .i64 3) (by omega)] at *
         exfalso
         omega)
theorem vcbytes_14 : VD TTbytes (st0 cBytes) wbytes_14 := by
  intro ρ kn hp
  have hF : ρ.z.F = oct.Φ := kn.F
  simp only [h_nil, h_cons, d_le, d_eq, d_not, d_lit, d_fn, IE.den, LE.den, AL.den, lenV, true_and, and_true, hF, pi2, pl1, pb10, pb11, pb12, pl7, pl9] at hp
  obtain ⟨_, _, _, _, _, _, _, _, _, _, _, _, _⟩ := hp
  exfalso
  all_goals
    obtain ⟨q0, q⟩ := ask_b (by assumption)
    first
      | (exfalso; exact absurd q0 (by assumption))
      | (obtain ⟨b1, b2, b3⟩ := shp_b q0
         try rw [wrap_1 (x := ρ.i .i64 2) (by omega)] at *
         try rw [wrap_1 (x := ρ.i .i64 3) (by omega)] at *
         exfalso
         omega)
theorem vcbytes_15 : VD TTbytes (st0 cBytes) wbytes_15 := by
  intro ρ kn hp
  have hF : ρ.z.F = oct.Φ := kn.F
  simp only [h_nil, h_cons, d_le, d_eq, d_not, d_lit, d_fn, IE.den, LE.den, AL.den, lenV, true_and, and_true, hF, pi2, pl1, pb10, pb11, pb12, pl7, pl9] at hp
  obtain ⟨_, _, _, _, _, _, _, _, _, _, _, _⟩ := hp
  exfalso
  all_goals
    obtain ⟨q0, q⟩ := ask_b (by assumption)
    first
      | (exfalso; exact absurd q0 (by assumption))
      | (obtain ⟨b1, b2, b3⟩ := shp_b q0
         try rw [wrap_1 (x := ρ.i .i64 2) (by omega)] at *
         try rw [wrap_1 (x := ρ.i .i64 3) (by omega)] at *
         exfalso
         omega)
theorem vcbytes_16 : VD TTbytes (st0 cBytes) wbytes_16 := by
  intro ρ kn hp
  have hF : ρ.z.F = oct.Φ := kn.F
  simp only [h_nil, h_cons, d_le, d_eq, d_not, d_lit, d_fn, IE.den, LE.den, AL.den, lenV, true_and, and_true, hF, pi2, pl1, pb10, pb11, pb12, pl7, pl9] at hp
  obtain ⟨_, _, _, _, _, _, _, _, _, _, _⟩ := hp
  exfalso
  all_goals
    obtain ⟨q0, q⟩ := ask_b (by assumption)
    first
      | (exfalso; exact absurd q0 (by assumption))
      | (obtain ⟨b1, b2, b3⟩ := shp_b q0
         try rw [wrap_1 (x := ρ.i .i64 2) (by omega)] at *
         try rw [wrap_1 (x := ρ.i .i64 3) (by omega)] at *
         exfalso
         omega)
theorem vcbytes_17 : VD TTbytes (st0 cBytes) wbytes_17 := by
  intro ρ kn hp
  have hF : ρ.z.F = oct.Φ := kn.F
  simp only [h_nil, h_cons, d_le, d_eq, d_not, d_lit, d_fn, IE.den, LE.den, AL.den, lenV, true_and, and_true, hF, pi2, pl1, pb10, pb11, pb12, pl7, pl9] at hp
  obtain ⟨_, _, _, _, _, _, _, _, _, _⟩ := hp
  exfalso
  all_goals
    obtain ⟨q0, q⟩ := ask_b (by assumption)
    first
      | (exfalso; exact absurd q0 (by assumption))
      | (obtain ⟨b1, b2, b3⟩ := shp_b q0
         try rw [wrap_1 (x := ρ.i .i64 2) (by omega)] at *
         try rw [wrap_1 (x := ρ.i .i64 3) (by omega)] at *
         exfalso
         omega)
theorem vcbytes_18 : VD TTbytes (st0 cBytes) wbytes_18 := by
  intro ρ kn hp
  have hF : ρ.z.F = oct.Φ := kn.F
  simp only [h_nil, h_cons, d_le, d_eq, d_not, d_lit, d_fn, IE.den, LE.den, AL.den, lenV, true_and, and_true, hF, pi2, pl1, pb10, pb11, pb12, pl7, pl9] at hp
  obtain ⟨_, _, _, _, _, _, _, _, _⟩ := hp
  exfalso
  all_goals
    obtain ⟨q0, q⟩ := ask_b (by assumption)
    first
      | (exfalso; exact absurd q0 (by assumption))
      | (obtain ⟨b1, b2, b3⟩ := shp_b q0
         try rw [wrap_1 (x := ρ.i .i64 2) (by omega)] at *
         try rw [wrap_1 (x := ρ.i .i64 3) (by omega)] at *
         exfalso
         omega)
theorem vcbytes_19 : VD TTbytes (st0 cBytes) wbytes_19 := by
  intro ρ kn hp
  have hF : ρ.z.F = oct.Φ := kn.F
  simp only [h_nil, h_cons, d_le, d_eq, d_not, d_lit, d_fn, IE.den, LE.den, AL.den, lenV, true_and, and_true, hF, pi2, pl1, pb10, pb11, pb12, pl7, pl9] at hp
  obtain ⟨_, _, _, _, _, _, _, _⟩ := hp
  exfalso
  all_goals
    obtain ⟨q0, q⟩ := ask_b (by assumption)
    first
      | (exfalso; exact absurd q0 (by assumption))
      | (obtain ⟨b1, b2, b3⟩ := shp_b q0
         try rw [wrap_1 (x := ρ.i .i64 2) (by omega)] at *
         try rw [wrap_1 (x := ρ.i .i64 3) (by omega)] at *
         exfalso
         omega)
theorem vcbytes_20 : VD TTbytes (st0 cBytes) wbytes_20 := by
  intro ρ kn hp
  have hF : ρ.z.F = oct.Φ := kn.F
  simp only [h_nil, h_cons, d_le, d_eq, d_not, d_lit, d_fn, IE.den, LE.den, AL.den, lenV, true_and, and_true, hF, pi2, pl1, pb10, pb11, pb12, pl7, pl9] at hp
  obtain ⟨_, _, _, _, _, _, _⟩ := hp
  exfalso
  all_goals
    obtain ⟨q0, q⟩ := ask_b (by assumption)
    first
      | (exfalso; exact absurd q0 (by assumption))
      | (obtain ⟨b1, b2, b3⟩ := shp_b q0
         try rw [wrap_1 (x := ρ.i .i64 2) (by omega)] at *
         try rw [wrap_1 (x := ρ.i .i64 3) (by omega)] at *
         exfalso
         omega)
theorem vcbytes_21 : VD TTbytes (st0 cBytes) wbytes_21 := by
  intro ρ kn hp
  have hF : ρ.z.F = oct.Φ := kn.F
  simp only [h_nil, h_cons, d_le, d_eq, d_not, d_lit, d_fn, IE.den, LE.den, AL.den, lenV, true_and, and_true, hF, pi2, pl1, pb10, pb11, pb12, pl7, pl9] at hp
  obtain ⟨_, _, _, _, _, _⟩ := hp
  exfalso
  all_goals
    obtain ⟨q0, q⟩ := ask_b (by assumption)
    first
      | (exfalso; exact absurd q0 (by assumption))
      | (obtain ⟨b1, b2, b3⟩ := shp_b q0
         try rw [wrap_1 (x := ρ.i .i64 2) (by omega)] at *
         try rw [wrap_1 (x := ρ.i .i64 3) (by omega)] at *
         exfalso
         omega)
theorem vcbytes_22 : VD TTbytes (st0 cBytes) wbytes_22 := by
  intro ρ kn hp
  have hF : ρ.z.F = oct.Φ := kn.F
  simp only [h_nil, h_cons, d_le, d_eq, d_not, d_lit, d_fn, IE.den, LE.den, AL.den, lenV, true_and, and_true, hF, pi2, pl1, pb10, pb11, pb12, pl7, pl9] at hp
  obtain ⟨_, _, _, _, _⟩ := hp
  exfalso
  all_goals
    obtain ⟨q0, q⟩ := ask_b (by assumption)
    first
      | (exfalso; exact absurd q0 (by assumption))
      | (obtain ⟨b1, b2, b3⟩ := shp_b q0
         try rw [wrap_1 (x := ρ.i .i64 2) (by omega)] at *
         try rw [wrap_1 (x := ρ.i .i64 3) (by omega)] at *
         exfalso
         omega)
theorem vcbytes_23 : VD TTbytes (st0 cBytes) wbytes_23 := by
  intro ρ kn hp
  have hF : ρ.z.F = oct.Φ := kn.F
  simp only [h_nil, h_cons, d_le, d_eq, d_not, d_lit, d_fn, IE.den, LE.den, AL.den, lenV, true_and, and_true, hF, pi2, pl1, pb10, pb11, pb12, pl7, pl9] at hp
  obtain ⟨_, _, _, _, _, _, _, _, _, _, _, _, _, _, _, _, _, _, _, _, _, _, _⟩ := hp
  refine all_cons (show (((ρ.z.F.l 7 [.int .i64 (ρ.i .i64 4), .int .i64 (ρ.i .i64 5), .int .i64 (ρ.i .i64 6), .int .i64 (ρ.i .i64 7), .int .i64 (ρ.i .i64 8), .int .i64 (ρ.i .i64 9), .int .i64 (ρ.i .i64 10), .int .i64 (ρ.i .i64 11)]).length : Nat) : Int) = ((((((ρ.z.F.l 1 [.int .u64 (ρ.i .i64 4)]).length : Nat) : Int) + (((ρ.z.F.l 1 [.int .u64 (ρ.i .i64 5)]).length : Nat) : Int)) + (((ρ.z.F.l 1 [.int .u64 (ρ.i .i64 9)]).length : Nat) : Int)) + (((ρ.z.F.l 1 [.int .u64 (ρ.i .i64 10)]).length : Nat) : Int)) from ?_) (all_cons (show (ρ.z.F.l 7 [.int .i64 (ρ.i .i64 4), .int .i64 (ρ.i .i64 5), .int .i64 (ρ.i .i64 6), .int .i64 (ρ.i .i64 7), .int .i64 (ρ.i .i64 8), .int .i64 (ρ.i .i64 9), .int .i64 (ρ.i .i64 10), .int .i64 (ρ.i .i64 11)]) = ((((ρ.z.F.l 1 [.int .u64 (ρ.i .i64 4)]) ++ (ρ.z.F.l 1 [.int .u64 (ρ.i .i64 5)])) ++ (ρ.z.F.l 1 [.int .u64 (ρ.i .i64 9)])) ++ (ρ.z.F.l 1 [.int .u64 (ρ.i .i64 10)])) from ?_) (all_cons (show (((ρ.z.F.l 7 [.int .i64 (ρ.i .i64 4), .int .i64 (ρ.i .i64 5), .int .i64 (ρ.i .i64 6), .int .i64 (ρ.i .i64 7), .int .i64 (ρ.i .i64 8), .int .i64 (ρ.i .i64 9), .int .i64 (ρ.i .i64 10), .int .i64 (ρ.i .i64 11)]).length : Nat) : Int) = ((((((ρ.z.F.l 1 [.int .u64 (ρ.i .i64 4)]).length : Nat) : Int) + (((ρ.z.F.l 1 [.int .u64 (ρ.i .i64 5)]).length : Nat) : Int)) + (((ρ.z.F.l 1 [.int .u64 (ρ.i .i64 9)]).length : Nat) : Int)) + (((ρ.z.F.l 1 [.int .u64 (ρ.i .i64 10)]).length : Nat) : Int)) from ?_) (all_nil)))
  all_goals try simp only [hF, pi2, pl1, pb10, pb11, pb12, pl7, pl9]
  all_goals
    obtain ⟨q0, q⟩ := ask_b (by assumption)
    first
      | (exfalso; exact absurd q0 (by assumption))
      | (obtain ⟨b1, b2, b3⟩ := shp_b q0
         try rw [wrap_1 (x := ρ.i .i64 2) (by omega)] at *
         try rw [wrap_1 (x := ρ.i .i64 3) (by omega)] at *
         exfalso
         omega)
      | (have c11 := tw_rng (i64_rng kn.ok 11)
         first
           | rw [askL_1 (by assumption)]
           | rw [askL_2 (by assumption)]
           | rw [askL_7 (by assumption)]
           | rw [askL_3 (by omega) (by omega) (by omega)]
         try simp only [c11]
         try simp only [List.length_append, Int.natCast_add, List.append_assoc]
         first
           | done
           | omega
           | rfl)
theorem vcbytes_24 : VD TTbytes (st0 cBytes) wbytes_24 := by
  intro ρ kn hp
  have hF : ρ.z.F = oct.Φ := kn.F
  simp only [h_nil, h_cons, d_le, d_eq, d_not, d_lit, d_fn, IE.den, LE.den, AL.den, lenV, true_and, and_true, hF, pi2, pl1, pb10, pb11, pb12, pl7, pl9] at hp
  obtain ⟨_, _, _, _, _, _, _, _, _, _, _, _, _, _, _⟩ := hp
  exfalso
  all_goals
    obtain ⟨q0, q⟩ := ask_b (by assumption)
    first
      | (exfalso; exact absurd q0 (by assumption))
      | (obtain ⟨b1, b2, b3⟩ := shp_b q0
         try rw [wrap_1 (x := ρ.i .i64 2) (by omega)] at *
         try rw [wrap_1 (x := ρ.i .i64 3) (by omega)] at *
         exfalso
         omega)
theorem vcbytes_25 : VD TTbytes (st0 cBytes) wbytes_25 := by
  intro ρ kn hp
  have hF : ρ.z.F = oct.Φ := kn.F
  simp only [h_nil, h_cons, d_le, d_eq, d_not, d_lit, d_fn, IE.den, LE.den, AL.den, lenV, true_and, and_true, hF, pi2, pl1, pb10, pb11, pb12, pl7, pl9] at hp
  obtain ⟨_, _, _, _, _, _, _, _, _, _, _, _, _, _⟩ := hp
  exfalso
  all_goals
    obtain ⟨q0, q⟩ := ask_b (by assumption)
    first
      | (exfalso; exact absurd q0 (by assumption))
      | (obtain ⟨b1, b2, b3⟩ := shp_b q0
         try rw [wrap_1 (x := ρ.i .i64 2) (by omega)] at *
         try rw [wrap_1 (x := ρ.i .i64 3) (by omega)] at *
         exfalso
         omega)
theorem vcbytes_26 : VD TTbytes (st0 cBytes) wbytes_26 := by
  intro ρ kn hp
  have hF : ρ.z.F = oct.Φ := kn.F
  simp only [h_nil, h_cons, d_le, d_eq, d_not, d_lit, d_fn, IE.den, LE.den, AL.den, lenV, true_and, and_true, hF, pi2, pl1, pb10, pb11, pb12, pl7, pl9] at hp
  obtain ⟨_, _, _, _, _, _, _, _, _, _, _, _, _⟩ := hp
  exfalso
  all_goals
    obtain ⟨q0, q⟩ := ask_b (by assumption)
    first
      | (exfalso; exact absurd q0 (by assumption))
      | (obtain ⟨b1, b2, b3⟩ := shp_b q0
         try rw [wrap_1 (x := ρ.i .i64 2) (by omega)] at *
         try rw [wrap_1 (x := ρ.i .i64 3) (by omega)] at *
         exfalso
         omega)
theorem vcbytes_27 : VD TTbytes (st0 cBytes) wbytes_27 := by
  intro ρ kn hp
  have hF : ρ.z.F = oct.Φ := kn.F
  simp only [h_nil, h_cons, d_le, d_eq, d_not, d_lit, d_fn, IE.den, LE.den, AL.den, lenV, true_and, and_true, hF, pi2, pl1, pb10, pb11, pb12, pl7, pl9] at hp
  obtain ⟨_, _, _, _, _, _, _, _, _, _, _, _⟩ := hp
  exfalso
  all_goals
    obtain ⟨q0, q⟩ := ask_b (by assumption)
    first
      | (exfalso; exact absurd q0 (by assumption))
      | (obtain ⟨b1, b2, b3⟩ := shp_b q0
         try rw [wrap_1 (x := ρ.i .i64 2) (by omega)] at *
         try rw [wrap_1 (x := ρ.i .i64 3) (by omega)] at *
         exfalso
         omega)
theorem vcbytes_28 : VD TTbytes (st0 cBytes) wbytes_28 := by
  intro ρ kn hp
  have hF : ρ.z.F = oct.Φ := kn.F
  simp only [h_nil, h_cons, d_le, d_eq, d_not, d_lit, d_fn, IE.den, LE.den, AL.den, lenV, true_and, and_true, hF, pi2, pl1, pb10, pb11, pb12, pl7, pl9] at hp
  obtain ⟨_, _, _, _, _, _, _, _, _, _, _⟩ := hp
  exfalso
  all_goals
    obtain ⟨q0, q⟩ := ask_b (by assumption)
    first
      | (exfalso; exact absurd q0 (by assumption))
      | (obtain ⟨b1, b2, b3⟩ := shp_b q0
         try rw [wrap_1 (x := ρ.i .i64 2) (by omega)] at *
         try rw [wrap_1 (x := ρ.i .i64 3) (by omega)] at *
         exfalso
         omega)
theorem vcbytes_29 : VD TTbytes (st0 cBytes) wbytes_29 := by
  intro ρ kn hp
  have hF : ρ.z.F = oct.Φ := kn.F
  simp only [h_nil, h_cons, d_le, d_eq, d_not, d_lit, d_fn, IE.den, LE.den, AL.den, lenV, true_and, and_true, hF, pi2, pl1, pb10, pb11, pb12, pl7, pl9] at hp
  obtain ⟨_, _, _, _, _, _, _, _, _, _⟩ := hp
  exfalso
  all_goals
    obtain ⟨q0, q⟩ := ask_b (by assumption)
    first
      | (exfalso; exact absurd q0 (by assumption))
      | (obtain ⟨b1, b2, b3⟩ := shp_b q0
         try rw [wrap_1 (x := ρ.i .i64 2) (by omega)] at *
         try rw [wrap_1 (x := ρ.i .i64 3) (by omega)] at *
         exfalso
         omega)
theorem vcbytes_30 : VD TTbytes (st0 cBytes) wbytes_30 := by
  intro ρ kn hp
  have hF : ρ.z.F = oct.Φ := kn.F
  simp only [h_nil, h_cons, d_le, d_eq, d_not, d_lit, d_fn, IE.den, LE.den, AL.den, lenV, true_and, and_true, hF, pi2, pl1, pb10, pb11, pb12, pl7, pl9] at hp
  obtain ⟨_, _, _, _, _, _, _, _, _⟩ := hp
  exfalso
  all_goals
    obtain ⟨q0, q⟩ := ask_b (by assumption)
    first
      | (exfalso; exact absurd q0 (by assumption))
      | (obtain ⟨b1, b2, b3⟩ := shp_b q0
         try rw [wrap_1 (x := ρ.i .i64 2) (by omega)] at *
         try rw [wrap_1 (x := ρ.i .i64 3) (by omega)] at *
         exfalso
         omega)
theorem vcbytes_31 : VD TTbytes (st0 cBytes) wbytes_31 := by
  intro ρ kn hp
  have hF : ρ.z.F = oct.Φ := kn.F
  simp only [h_nil, h_cons, d_le, d_eq, d_not, d_lit, d_fn, IE.den, LE.den, AL.den, lenV, true_and, and_true, hF, pi2, pl1, pb10, pb11, pb12, pl7, pl9] at hp
  obtain ⟨_, _, _, _, _, _, _, _⟩ := hp
  exfalso
  all_goals
    obtain ⟨q0, q⟩ := ask_b (by assumption)
    first
      | (exfalso; exact absurd q0 (by assumption))
      | (obtain ⟨b1, b2, b3⟩ := shp_b q0
         try rw [wrap_1 (x := ρ.i .i64 2) (by omega)] at *
         try rw [wrap_1 (x := ρ.i .i64 3) (by omega)] at *
         exfalso
         omega)
theorem vcbytes_32 : VD TTbytes (st0 cBytes) wbytes_32 := by
  intro ρ kn hp
  have hF : ρ.z.F = oct.Φ := kn.F
  simp only [h_nil, h_cons, d_le, d_eq, d_not, d_lit, d_fn, IE.den, LE.den, AL.den, lenV, true_and, and_true, hF, pi2, pl1, pb10, pb11, pb12, pl7, pl9] at hp
  obtain ⟨_, _, _, _, _, _, _⟩ := hp
  exfalso
  all_goals
    obtain ⟨q0, q⟩ := ask_b (by assumption)
    first
      | (exfalso; exact absurd q0 (by assumption))
      | (obtain ⟨b1, b2, b3⟩ := shp_b q0
         try rw [wrap_1 (x := ρ.i .i64 2) (by omega)] at *
         try rw [wrap_1 (x := ρ.i .i64 3) (by omega)] at *
         exfalso
         omega)
theorem vcbytes_33 : VD TTbytes (st0 cBytes) wbytes_33 := by
  intro ρ kn hp
  have hF : ρ.z.F = oct.Φ := kn.F
  simp only [h_nil, h_cons, d_le, d_eq, d_not, d_lit, d_fn, IE.den, LE.den, AL.den, lenV, true_and, and_true, hF, pi2, pl1, pb10, pb11, pb12, pl7, pl9] at hp
  obtain ⟨_, _, _, _, _, _⟩ := hp
  exfalso
  all_goals
    obtain ⟨q0, q⟩ := ask_b (by assumption)
    first
      | (exfalso; exact absurd q0 (by assumption))
      | (obtain ⟨b1, b2, b3⟩ := shp_b q0
         try rw [wrap_1 (x := ρ.i .i64 2) (by omega)] at *
         try rw [wrap_1 (x := ρ.i .i64 3) (by omega)] at *
         exfalso
         omega)
theorem vcbytes_34 : VD TTbytes (st0 cBytes) wbytes_34 := by
  intro ρ kn hp
  have hF : ρ.z.F = oct.Φ := kn.F
  simp only [h_nil, h_cons, d_le, d_eq, d_not, d_lit, d_fn, IE.den, LE.den, AL.den, lenV, true_and, and_true, hF, pi2, pl1, pb10, pb11, pb12, pl7, pl9] at hp
  obtain ⟨_, _, _, _, _, _, _, _, _, _, _, _, _, _, _, _, _, _, _, _, _, _, _, _⟩ := hp
  refine all_cons (show (((ρ.z.F.l 7 [.int .i64 (ρ.i .i64 4), .int .i64 (ρ.i .i64 5), .int .i64 (ρ.i .i64 6), .int .i64 (ρ.i .i64 7), .int .i64 (ρ.i .i64 8), .int .i64 (ρ.i .i64 9), .int .i64 (ρ.i .i64 10), .int .i64 (ρ.i .i64 11)]).length : Nat) : Int) = ((((((ρ.z.F.l 1 [.int .u64 (ρ.i .i64 4)]).length : Nat) : Int) + (((ρ.z.F.l 1 [.int .u64 (ρ.i .i64 5)]).length : Nat) : Int)) + (((ρ.z.F.l 1 [.int .u64 (ρ.i .i64 9)]).length : Nat) : Int)) + (((ρ.z.F.l 1 [.int .u64 (ρ.i .i64 10)]).length : Nat) : Int)) from ?_) (all_cons (show (ρ.z.F.l 7 [.int .i64 (ρ.i .i64 4), .int .i64 (ρ.i .i64 5), .int .i64 (ρ.i .i64 6), .int .i64 (ρ.i .i64 7), .int .i64 (ρ.i .i64 8), .int .i64 (ρ.i .i64 9), .int .i64 (ρ.i .i64 10), .int .i64 (ρ.i .i64 11)]) = ((((ρ.z.F.l 1 [.int .u64 (ρ.i .i64 4)]) ++ (ρ.z.F.l 1 [.int .u64 (ρ.i .i64 5)])) ++ (ρ.z.F.l 1 [.int .u64 (ρ.i .i64 9)])) ++ (ρ.z.F.l 1 [.int .u64 (ρ.i .i64 10)])) from ?_) (all_cons (show (((ρ.z.F.l 7 [.int .i64 (ρ.i .i64 4), .int .i64 (ρ.i .i64 5), .int .i64 (ρ.i .i64 6), .int .i64 (ρ.i .i64 7), .int .i64 (ρ.i .i64 8), .int .i64 (ρ.i .i64 9), .int .i64 (ρ.i .i64 10), .int .i64 (ρ.i .i64 11)]).length : Nat) : Int) = ((((((ρ.z.F.l 1 [.int .u64 (ρ.i .i64 4)]).length : Nat) : Int) + (((ρ.z.F.l 1 [.int .u64 (ρ.i .i64 5)]).length : Nat) : Int)) + (((ρ.z.F.l 1 [.int .u64 (ρ.i .i64 9)]).length : Nat) : Int)) + (((ρ.z.F.l 1 [.int .u64 (ρ.i .i64 10)]).length : Nat) : Int)) from ?_) (all_nil)))
  all_goals try simp only [hF, pi2, pl1, pb10, pb11, pb12, pl7, pl9]
  all_goals
    obtain ⟨q0, q⟩ := ask_b (by assumption)
    first
      | (exfalso; exact absurd q0 (by assumption))
      | (obtain ⟨b1, b2, b3⟩ := shp_b q0
         try rw [wrap_1 (x := ρ.i .i64 2) (by omega)] at *
         try rw [wrap_1 (x := ρ.i .i64 3) (by omega)] at *
         exfalso
         omega)
      | (have c11 := tw_rng (i64_rng kn.ok 11)
         first
           | rw [askL_1 (by assumption)]
           | rw [askL_2 (by assumption)]
           | rw [askL_7 (by assumption)]
           | rw [askL_3 (by omega) (by omega) (by omega)]
         try simp only [c11]
         try simp only [List.length_append, Int.natCast_add, List.append_assoc]
         first
           | done
           | omega
           | rfl)
theorem vcbytes_35 : VD TTbytes (st0 cBytes) wbytes_35 := by
  intro ρ kn hp
  have hF : ρ.z.F = oct.Φ := kn.F
  simp only [h_nil, h_cons, d_le, d_eq, d_not, d_lit, d_fn, IE.den, LE.den, AL.den, lenV, true_and, and_true, hF, pi2, pl1, pb10, pb11, pb12, pl7, pl9] at hp
  obtain ⟨_, _, _, _, _, _, _, _, _, _, _, _, _, _, _, _⟩ := hp
  exfalso
  all_goals
    obtain ⟨q0, q⟩ := ask_b (by assumption)
    first
      | (exfalso; exact absurd q0 (by assumption))
      | (obtain ⟨b1, b2, b3⟩ := shp_b q0
         try rw [wrap_1 (x := ρ.i .i64 2) (by omega)] at *
         try rw [wrap_1 (x := ρ.i .i64 3) (by omega)] at *
         exfalso
         omega)
theorem vcbytes_36 : VD TTbytes (st0 cBytes) wbytes_36 := by
  intro ρ kn hp
  have hF : ρ.z.F = oct.Φ := kn.F
  simp only [h_nil, h_cons, d_le, d_eq, d_not, d_lit, d_fn, IE.den, LE.den, AL.den, lenV, true_and, and_true, hF, pi2, pl1, pb10, pb11, pb12, pl7, pl9] at hp
  obtain ⟨_, _, _, _, _, _, _, _, _, _, _, _, _, _, _⟩ := hp
  exfalso
  all_goals
    obtain ⟨q0, q⟩ := ask_b (by assumption)
    first
      | (exfalso; exact absurd q0 (by assumption))
      | (obtain ⟨b1, b2, b3⟩ := shp_b q0
         try rw [wrap_1 (x := ρ.i .i64 2) (by omega)] at *
         try rw [wrap_1 (x := ρ.i .i64 3) (by omega)] at *
         exfalso
         omega)
theorem vcbytes_37 : VD TTbytes (st0 cBytes) wbytes_37 := by
  intro ρ kn hp
  have hF : ρ.z.F = oct.Φ := kn.F
  simp only [h_nil, h_cons, d_le, d_eq, d_not, d_lit, d_fn, IE.den, LE.den, AL.den, lenV, true_and, and_true, hF, pi2, pl1, pb10, pb11, pb12, pl7, pl9] at hp
  obtain ⟨_, _, _, _, _, _, _, _, _, _, _, _, _, _⟩ := hp
  exfalso
  all_goals
    obtain ⟨q0, q⟩ := ask_b (by assumption)
    first
      | (exfalso; exact absurd q0 (by assumption))
      | (obtain ⟨b1, b2, b3⟩ := shp_b q0
         try rw [wrap_1 (x := ρ.i .i64 2) (by omega)] at *
         try rw [wrap_1 (x := ρ.i .i64 3) (by omega)] at *
         exfalso
         omega)
theorem vcbytes_38 : VD TTbytes (st0 cBytes) wbytes_38 := by
  intro ρ kn hp
  have hF : ρ.z.F = oct.Φ := kn.F
  simp only [h_nil, h_cons, d_le, d_eq, d_not, d_lit, d_fn, IE.den, LE.den, AL.den, lenV, true_and, and_true, hF, pi2, pl1, pb10, pb11, pb12, pl7, pl9] at hp
  obtain ⟨_, _, _, _, _, _, _, _, _, _, _, _, _⟩ := hp
  exfalso
  all_goals
    obtain ⟨q0, q⟩ := ask_b (by assumption)
    first
      | (exfalso; exact absurd q0 (by assumption))
      | (obtain ⟨b1, b2, b3⟩ := shp_b q0
         try rw [wrap_1 (x := ρ.i .i64 2) (by omega)] at *
         try rw [wrap_1 (x := ρ.i .i64 3) (by omega)] at *
         exfalso
         omega)
theorem vcbytes_39 : VD TTbytes (st0 cBytes) wbytes_39 := by
  intro ρ kn hp
  have hF : ρ.z.F = oct.Φ := kn.F
  simp only [h_nil, h_cons, d_le, d_eq, d_not, d_lit, d_fn, IE.den, LE.den, AL.den, lenV, true_and, and_true, hF, pi2, pl1, pb10, pb11, pb12, pl7, pl9] at hp
  obtain ⟨_, _, _, _, _, _, _, _, _, _, _, _⟩ := hp
  exfalso
  all_goals
    obtain ⟨q0, q⟩ := ask_b (by assumption)
    first
      | (exfalso; exact absurd q0 (by assumption))
      | (obtain ⟨b1, b2, b3⟩ := shp_b q0
         try rw [wrap_1 (x := ρ.i .i64 2) (by omega)] at *
         try rw [wrap_1 (x := ρ.i .i64 3) (by omega)] at *
         exfalso
         omega)
theorem vcbytes_40 : VD TTbytes (st0 cBytes) wbytes_40 := by
  intro ρ kn hp
  have hF : ρ.z.F = oct.Φ := kn.F
  simp only [h_nil, h_cons, d_le, d_eq, d_not, d_lit, d_fn, IE.den, LE.den, AL.den, lenV, true_and, and_true, hF, pi2, pl1, pb10, pb11, pb12, pl7, pl9] at hp
  obtain ⟨_, _, _, _, _, _, _, _, _, _, _⟩ := hp
  exfalso
  all_goals
    obtain ⟨q0, q⟩ := ask_b (by assumption)
    first
      | (exfalso; exact absurd q0 (by assumption))
      | (obtain ⟨b1, b2, b3⟩ := shp_b q0
         try rw [wrap_1 (x := ρ.i .i64 2) (by omega)] at *
         try rw [wrap_1 (x := ρ.i .i64 3) (by omega)] at *
         exfalso
         omega)
theorem vcbytes_41 : VD TTbytes (st0 cBytes) wbytes_41 := by
  intro ρ kn hp
  have hF : ρ.z.F = oct.Φ := kn.F
  simp only [h_nil, h_cons, d_le, d_eq, d_not, d_lit, d_fn, IE.den, LE.den, AL.den, lenV, true_and, and_true, hF, pi2, pl1, pb10, pb11, pb12, pl7, pl9] at hp
  obtain ⟨_, _, _, _, _, _, _, _, _, _⟩ := hp
  exfalso
  all_goals
    obtain ⟨q0, q⟩ := ask_b (by assumption)
    first
      | (exfalso; exact absurd q0 (by assumption))
      | (obtain ⟨b1, b2, b3⟩ := shp_b q0
         try rw [wrap_1 (x := ρ.i .i64 2) (by omega)] at *
         try rw [wrap_1 (x := ρ.i .i64 3) (by omega)] at *
         exfalso
         omega)
theorem vcbytes_42 : VD TTbytes (st0 cBytes) wbytes_42 := by
  intro ρ kn hp
  have hF : ρ.z.F = oct.Φ := kn.F
  simp only [h_nil, h_cons, d_le, d_eq, d_not, d_lit, d_fn, IE.den, LE.den, AL.den, lenV, true_and, and_true, hF, pi2, pl1, pb10, pb11, pb12, pl7, pl9] at hp
  obtain ⟨_, _, _, _, _, _, _, _, _⟩ := hp
  exfalso
  all_goals
    obtain ⟨q0, q⟩ := ask_b (by assumption)
    first
      | (exfalso; exact absurd q0 (by assumption))
      | (obtain ⟨b1, b2, b3⟩ := shp_b q0
         try rw [wrap_1 (x := ρ.i .i64 2) (by omega)] at *
         try rw [wrap_1 (x := ρ.i .i64 3) (by omega)] at *
         exfalso
         omega)
theorem vcbytes_43 : VD TTbytes (st0 cBytes) wbytes_43 := by
  intro ρ kn hp
  have hF : ρ.z.F = oct.Φ := kn.F
  simp only [h_nil, h_cons, d_le, d_eq, d_not, d_lit, d_fn, IE.den, LE.den, AL.den, lenV, true_and, and_true, hF, pi2, pl1, pb10, pb11, pb12, pl7, pl9] at hp
  obtain ⟨_, _, _, _, _, _, _, _⟩ := hp
  exfalso
  all_goals
    obtain ⟨q0, q⟩ := ask_b (by assumption)
    first
      | (exfalso; exact absurd q0 (by assumption))
      | (obtain ⟨b1, b2, b3⟩ := shp_b q0
         try rw [wrap_1 (x := ρ.i .i64 2) (by omega)] at *
         try rw [wrap_1 (x := ρ.i .i64 3) (by omega)] at *
         exfalso
         omega)
theorem vcbytes_44 : VD TTbytes (st0 cBytes) wbytes_44 := by
  intro ρ kn hp
  have hF : ρ.z.F = oct.Φ := kn.F
  simp only [h_nil, h_cons, d_le, d_eq, d_not, d_lit, d_fn, IE.den, LE.den, AL.den, lenV, true_and, and_true, hF, pi2, pl1, pb10, pb11, pb12, pl7, pl9] at hp
  obtain ⟨_, _, _, _, _, _, _⟩ := hp
  exfalso
  all_goals
    obtain ⟨q0, q⟩ := ask_b (by assumption)
    first
      | (exfalso; exact absurd q0 (by assumption))
      | (obtain ⟨b1, b2, b3⟩ := shp_b q0
         try rw [wrap_1 (x := ρ.i .i64 2) (by omega)] at *
         try rw [wrap_1 (x := ρ.i .i64 3) (by omega)] at *
         exfalso
         omega)
theorem vcbytes_45 : VD TTbytes (st0 cBytes) wbytes_45 := by
  intro ρ kn hp
  have hF : ρ.z.F = oct.Φ := kn.F
  simp only [h_nil, h_cons, d_le, d_eq, d_not, d_lit, d_fn, IE.den, LE.den, AL.den, lenV, true_and, and_true, hF, pi2, pl1, pb10, pb11, pb12, pl7, pl9] at hp
  obtain ⟨_, _, _, _, _, _, _, _, _, _, _, _, _, _, _, _, _, _, _, _, _, _, _, _, _⟩ := hp
  refine all_cons (show (((ρ.z.F.l 7 [.int .i64 (ρ.i .i64 4), .int .i64 (ρ.i .i64 5), .int .i64 (ρ.i .i64 6), .int .i64 (ρ.i .i64 7), .int .i64 (ρ.i .i64 8), .int .i64 (ρ.i .i64 9), .int .i64 (ρ.i .i64 10), .int .i64 (ρ.i .i64 11)]).length : Nat) : Int) = ((((((ρ.z.F.l 1 [.int .u64 (ρ.i .i64 4)]).length : Nat) : Int) + (((ρ.z.F.l 1 [.int .u64 (ρ.i .i64 5)]).length : Nat) : Int)) + (((ρ.z.F.l 1 [.int .u64 (ρ.i .i64 9)]).length : Nat) : Int)) + (((ρ.z.F.l 1 [.int .u64 (ρ.i .i64 10)]).length : Nat) : Int)) from ?_) (all_cons (show (ρ.z.F.l 7 [.int .i64 (ρ.i .i64 4), .int .i64 (ρ.i .i64 5), .int .i64 (ρ.i .i64 6), .int .i64 (ρ.i .i64 7), .int .i64 (ρ.i .i64 8), .int .i64 (ρ.i .i64 9), .int .i64 (ρ.i .i64 10), .int .i64 (ρ.i .i64 11)]) = ((((ρ.z.F.l 1 [.int .u64 (ρ.i .i64 4)]) ++ (ρ.z.F.l 1 [.int .u64 (ρ.i .i64 5)])) ++ (ρ.z.F.l 1 [.int .u64 (ρ.i .i64 9)])) ++ (ρ.z.F.l 1 [.int .u64 (ρ.i .i64 10)])) from ?_) (all_cons (show (((ρ.z.F.l 7 [.int .i64 (ρ.i .i64 4), .int .i64 (ρ.i .i64 5), .int .i64 (ρ.i .i64 6), .int .i64 (ρ.i .i64 7), .int .i64 (ρ.i .i64 8), .int .i64 (ρ.i .i64 9), .int .i64 (ρ.i .i64 10), .int .i64 (ρ.i .i64 11)]).length : Nat) : Int) = ((((((ρ.z.F.l 1 [.int .u64 (ρ.i .i64 4)]).length : Nat) : Int) + (((ρ.z.F.l 1 [.int .u64 (ρ.i .i64 5)]).length : Nat) : Int)) + (((ρ.z.F.l 1 [.int .u64 (ρ.i .i64 9)]).length : Nat) : Int)) + (((ρ.z.F.l 1 [.int .u64 (ρ.i .i64 10)]).length : Nat) : Int)) from ?_) (all_nil)))
  all_goals try simp only [hF, pi2, pl1, pb10, pb11, pb12, pl7, pl9]
  all_goals
    obtain ⟨q0, q⟩ := ask_b (by assumption)
    first
      | (exfalso; exact absurd q0 (by assumption))
      | (obtain ⟨b1, b2, b3⟩ := shp_b q0
         try rw [wrap_1 (x := ρ.i .i64 2) (by omega)] at *
         try rw [wrap_1 (x := ρ.i .i64 3) (by omega)] at *
         exfalso
         omega)
      | (have c11 := tw_rng (i64_rng kn.ok 11)
         first
           | rw [askL_1 (by assumption)]
           | rw [askL_2 (by assumption)]
           | rw [askL_7 (by assumption)]
           | rw [askL_3 (by omega) (by omega) (by omega)]
         try simp only [c11]
         try simp only [List.length_append, Int.natCast_add, List.append_assoc]
         first
           | done
           | omega
           | rfl)
theorem vcbytes_46 : VD TTbytes (st0 cBytes) wbytes_46 := by
  intro ρ kn hp
  have hF : ρ.z.F = oct.Φ := kn.F
  simp only [h_nil, h_cons, d_le, d_eq, d_not, d_lit, d_fn, IE.den, LE.den, AL.den, lenV, true_and, and_true, hF, pi2, pl1, pb10, pb11, pb12, pl7, pl9] at hp
  obtain ⟨_, _, _, _, _, _, _, _, _, _, _, _, _, _, _, _, _⟩ := hp
  exfalso
  all_goals
    obtain ⟨q0, q⟩ := ask_b (by assumption)
    first
      | (exfalso; exact absurd q0 (by assumption))
      | (obtain ⟨b1, b2, b3⟩ := shp_b q0
         try rw [wrap_1 (x := ρ.i .i64 2) (by omega)] at *
         try rw [wrap_1 (x := ρ.i .i64 3) (by omega)] at *
         exfalso
         omega)
theorem vcbytes_47 : VD TTbytes (st0 cBytes) wbytes_47 := by
  intro ρ kn hp
  have hF : ρ.z.F = oct.Φ := kn.F
  simp only [h_nil, h_cons, d_le, d_eq, d_not, d_lit, d_fn, IE.den, LE.den, AL.den, lenV, true_and, and_true, hF, pi2, pl1, pb10, pb11, pb12, pl7, pl9] at hp
  obtain ⟨_, _, _, _, _, _, _, _, _, _, _, _, _, _, _, _⟩ := hp
  exfalso
  all_goals
    obtain ⟨q0, q⟩ := ask_b (by assumption)
    first
      | (exfalso; exact absurd q0 (by assumption))
      | (obtain ⟨b1, b2, b3⟩ := shp_b q0
         try rw [wrap_1 (x := ρ.i .i64 2) (by omega)] at *
         try rw [wrap_1 (x := ρ.i .i64 3) (by omega)] at *
         exfalso
         omega)
theorem vcbytes_48 : VD TTbytes (st0 cBytes) wbytes_48 := by
  intro ρ kn hp
  have hF : ρ.z.F = oct.Φ := kn.F
  simp only [h_nil, h_cons, d_le, d_eq, d_not, d_lit, d_fn, IE.den, LE.den, AL.den, lenV, true_and, and_true, hF, pi2, pl1, pb10, pb11, pb12, pl7, pl9] at hp
  obtain ⟨_, _, _, _, _, _, _, _, _, _, _, _, _, _, _⟩ := hp
  exfalso
  all_goals
    obtain ⟨q0, q⟩ := ask_b (by assumption)
    first
      | (exfalso; exact absurd q0 (by assumption))
      | (obtain ⟨b1, b2, b3⟩ := shp_b q0
         try rw [wrap_1 (x := ρ.i .i64 2) (by omega)] at *
         try rw [wrap_1 (x := ρ.i .i64 3) (by omega)] at *
         exfalso
         omega)
theorem vcbytes_49 : VD TTbytes (st0 cBytes) wbytes_49 := by
  intro ρ kn hp
  have hF : ρ.z.F = oct.Φ := kn.F
  simp only [h_nil, h_cons, d_le, d_eq, d_not, d_lit, d_fn, IE.den, LE.den, AL.den, lenV, true_and, and_true, hF, pi2, pl1, pb10, pb11, pb12, pl7, pl9] at hp
  obtain ⟨_, _, _, _, _, _, _, _, _, _, _, _, _, _⟩ := hp
  exfalso
  all_goals
    obtain ⟨q0, q⟩ := ask_b (by assumption)
    first
      | (exfalso; exact absurd q0 (by assumption))
      | (obtain ⟨b1, b2, b3⟩ := shp_b q0
         try rw [wrap_1 (x := ρ.i .i64 2) (by omega)] at *
         try rw [wrap_1 (x := ρ.i .i64 3) (by omega)] at *
         exfalso
         omega)
theorem vcbytes_50 : VD TTbytes (st0 cBytes) wbytes_50 := by
  intro ρ kn hp
  have hF : ρ.z.F = oct.Φ := kn.F
  simp only [h_nil, h_cons, d_le, d_eq, d_not, d_lit, d_fn, IE.den, LE.den, AL.den, lenV, true_and, and_true, hF, pi2, pl1, pb10, pb11, pb12, pl7, pl9] at hp
  obtain ⟨_, _, _, _, _, _, _, _, _, _, _, _, _⟩ := hp
  exfalso
  all_goals
    obtain ⟨q0, q⟩ := ask_b (by assumption)
    first
      | (exfalso; exact absurd q0 (by assumption))
      | (obtain ⟨b1, b2, b3⟩ := shp_b q0
         try rw [wrap_1 (x := ρ.i .i64 2) (by omega)] at *
         try rw [wrap_1 (x := ρ.i .i64 3) (by omega)] at *
         exfalso
         omega)
theorem vcbytes_51 : VD TTbytes (st0 cBytes) wbytes_51 := by
  intro ρ kn hp
  have hF : ρ.z.F = oct.Φ := kn.F
  simp only [h_nil, h_cons, d_le, d_eq, d_not, d_lit, d_fn, IE.den, LE.den, AL.den, lenV, true_and, and_true, hF, pi2, pl1, pb10, pb11, pb12, pl7, pl9] at hp
  obtain ⟨_, _, _, _, _, _, _, _, _, _, _, _⟩ := hp
  exfalso
  all_goals
    obtain ⟨q0, q⟩ := ask_b (by assumption)
    first
      | (exfalso; exact absurd q0 (by assumption))
      | (obtain ⟨b1, b2, b3⟩ := shp_b q0
         try rw [wrap_1 (x := ρ.i .i64 2) (by omega)] at *
         try rw [wrap_1 (x := ρ.i .i64 3) (by omega)] at *
         exfalso
         omega)
theorem vcbytes_52 : VD TTbytes (st0 cBytes) wbytes_52 := by
  intro ρ kn hp
  have hF : ρ.z.F = oct.Φ := kn.F
  simp only [h_nil, h_cons, d_le, d_eq, d_not, d_lit, d_fn, IE.den, LE.den, AL.den, lenV, true_and, and_true, hF, pi2, pl1, pb10, pb11, pb12, pl7, pl9] at hp
  obtain ⟨_, _, _, _, _, _, _, _, _, _, _⟩ := hp
  exfalso
  all_goals
    obtain ⟨q0, q⟩ := ask_b (by assumption)
    first
      | (exfalso; exact absurd q0 (by assumption))
      | (obtain ⟨b1, b2, b3⟩ := shp_b q0
         try rw [wrap_1 (x := ρ.i .i64 2) (by omega)] at *
         try rw [wrap_1 (x := ρ.i .i64 3) (by omega)] at *
         exfalso
         omega)
theorem vcbytes_53 : VD TTbytes (st0 cBytes) wbytes_53 := by
  intro ρ kn hp
  have hF : ρ.z.F = oct.Φ := kn.F
  simp only [h_nil, h_cons, d_le, d_eq, d_not, d_lit, d_fn, IE.den, LE.den, AL.den, lenV, true_and, and_true, hF, pi2, pl1, pb10, pb11, pb12, pl7, pl9] at hp
  obtain ⟨_, _, _, _, _, _, _, _, _, _⟩ := hp
  exfalso
  all_goals
    obtain ⟨q0, q⟩ := ask_b (by assumption)
    first
      | (exfalso; exact absurd q0 (by assumption))
      | (obtain ⟨b1, b2, b3⟩ := shp_b q0
         try rw [wrap_1 (x := ρ.i .i64 2) (by omega)] at *
         try rw [wrap_1 (x := ρ.i .i64 3) (by omega)] at *
         exfalso
         omega)
theorem vcbytes_54 : VD TTbytes (st0 cBytes) wbytes_54 := by
  intro ρ kn hp
  have hF : ρ.z.F = oct.Φ := kn.F
  simp only [h_nil, h_cons, d_le, d_eq, d_not, d_lit, d_fn, IE.den, LE.den, AL.den, lenV, true_and, and_true, hF, pi2, pl1, pb10, pb11, pb12, pl7, pl9] at hp
  obtain ⟨_, _, _, _, _, _, _, _, _⟩ := hp
  exfalso
  all_goals
    obtain ⟨q0, q⟩ := ask_b (by assumption)
    first
      | (exfalso; exact absurd q0 (by assumption))
      | (obtain ⟨b1, b2, b3⟩ := shp_b q0
         try rw [wrap_1 (x := ρ.i .i64 2) (by omega)] at *
         try rw [wrap_1 (x := ρ.i .i64 3) (by omega)] at *
         exfalso
         omega)
theorem vcbytes_55 : VD TTbytes (st0 cBytes) wbytes_55 := by
  intro ρ kn hp
  have hF : ρ.z.F = oct.Φ := kn.F
  simp only [h_nil, h_cons, d_le, d_eq, d_not, d_lit, d_fn, IE.den, LE.den, AL.den, lenV, true_and, and_true, hF, pi2, pl1, pb10, pb11, pb12, pl7, pl9] at hp
  obtain ⟨_, _, _, _, _, _, _, _⟩ := hp
  exfalso
  all_goals
    obtain ⟨q0, q⟩ := ask_b (by assumption)
    first
      | (exfalso; exact absurd q0 (by assumption))
      | (obtain ⟨b1, b2, b3⟩ := shp_b q0
         try rw [wrap_1 (x := ρ.i .i64 2) (by omega)] at *
         try rw [wrap_1 (x := ρ.i .i64 3) (by omega)] at *
         exfalso
         omega)
theorem vcbytes_56 : VD TTbytes (st0 cBytes) wbytes_56 := by
  intro ρ kn hp
  have hF : ρ.z.F = oct.Φ := kn.F
  simp only [h_nil, h_cons, d_le, d_eq, d_not, d_lit, d_fn, IE.den, LE.den, AL.den, lenV, true_and, and_true, hF, pi2, pl1, pb10, pb11, pb12, pl7, pl9] at hp
  obtain ⟨_, _, _, _, _, _, _, _, _, _, _, _, _, _, _, _, _, _, _, _, _, _, _, _, _, _⟩ := hp
  refine all_cons (show (((ρ.z.F.l 7 [.int .i64 (ρ.i .i64 4), .int .i64 (ρ.i .i64 5), .int .i64 (ρ.i .i64 6), .int .i64 (ρ.i .i64 7), .int .i64 (ρ.i .i64 8), .int .i64 (ρ.i .i64 9), .int .i64 (ρ.i .i64 10), .int .i64 (ρ.i .i64 11)]).length : Nat) : Int) = ((((((ρ.z.F.l 1 [.int .u64 (ρ.i .i64 4)]).length : Nat) : Int) + (((ρ.z.F.l 1 [.int .u64 (ρ.i .i64 5)]).length : Nat) : Int)) + (((ρ.z.F.l 1 [.int .u64 (ρ.i .i64 9)]).length : Nat) : Int)) + (((ρ.z.F.l 1 [.int .u64 (ρ.i .i64 10)]).length : Nat) : Int)) from ?_) (all_cons (show (ρ.z.F.l 7 [.int .i64 (ρ.i .i64 4), .int .i64 (ρ.i .i64 5), .int .i64 (ρ.i .i64 6), .int .i64 (ρ.i .i64 7), .int .i64 (ρ.i .i64 8), .int .i64 (ρ.i .i64 9), .int .i64 (ρ.i .i64 10), .int .i64 (ρ.i .i64 11)]) = ((((ρ.z.F.l 1 [.int .u64 (ρ.i .i64 4)]) ++ (ρ.z.F.l 1 [.int .u64 (ρ.i .i64 5)])) ++ (ρ.z.F.l 1 [.int .u64 (ρ.i .i64 9)])) ++ (ρ.z.F.l 1 [.int .u64 (ρ.i .i64 10)])) from ?_) (all_cons (show (((ρ.z.F.l 7 [.int .i64 (ρ.i .i64 4), .int .i64 (ρ.i .i64 5), .int .i64 (ρ.i .i64 6), .int .i64 (ρ.i .i64 7), .int .i64 (ρ.i .i64 8), .int .i64 (ρ.i .i64 9), .int .i64 (ρ.i .i64 10), .int .i64 (ρ.i .i64 11)]).length : Nat) : Int) = ((((((ρ.z.F.l 1 [.int .u64 (ρ.i .i64 4)]).length : Nat) : Int) + (((ρ.z.F.l 1 [.int .u64 (ρ.i .i64 5)]).length : Nat) : Int)) + (((ρ.z.F.l 1 [.int .u64 (ρ.i .i64 9)]).length : Nat) : Int)) + (((ρ.z.F.l 1 [.int .u64 (ρ.i .i64 10)]).length : Nat) : Int)) from ?_) (all_nil)))
  all_goals try simp only [hF, pi2, pl1, pb10, pb11, pb12, pl7, pl9]
  all_goals
    obtain ⟨q0, q⟩ := ask_b (by assumption)
    first
      | (exfalso; exact absurd q0 (by assumption))
      | (obtain ⟨b1, b2, b3⟩ := shp_b q0
         try rw [wrap_1 (x := ρ.i .i64 2) (by omega)] at *
         try rw [wrap_1 (x := ρ.i .i64 3) (by omega)] at *
         exfalso
         omega)
      | (have c11 := tw_rng (i64_rng kn.ok 11)
         first
           | rw [askL_1 (by assumption)]
           | rw [askL_2 (by assumption)]
           | rw [askL_7 (by assumption)]
           | rw [askL_3 (by omega) (by omega) (by omega)]
         try simp only [c11]
         try simp only [List.length_append, Int.natCast_add, List.append_assoc]
         first
           | done
           | omega
           | rfl)
theorem vcbytes_57 : VD TTbytes (st0 cBytes) wbytes_57 := by
  intro ρ kn hp
  have hF : ρ.z.F = oct.Φ := kn.F
  simp only [h_nil, h_cons, d_le, d_eq, d_not, d_lit, d_fn, IE.den, LE.den, AL.den, lenV, true_and, and_true, hF, pi2, pl1, pb10, pb11, pb12, pl7, pl9] at hp
  obtain ⟨_, _, _, _, _, _, _, _, _, _, _, _, _, _, _, _, _, _⟩ := hp
  exfalso
  all_goals
    obtain ⟨q0, q⟩ := ask_b (by assumption)
    first
      | (exfalso; exact absurd q0 (by assumption))
      | (obtain ⟨b1, b2, b3⟩ := shp_b q0
         try rw [wrap_1 (x := ρ.i .i64 2) (by omega)] at *
         try rw [wrap_1 (x := ρ.i .i64 3) (by omega)] at *
         exfalso
         omega)
theorem vcbytes_58 : VD TTbytes (st0 cBytes) wbytes_58 := by
  intro ρ kn hp
  have hF : ρ.z.F = oct.Φ := kn.F
  simp only [h_nil, h_cons, d_le, d_eq, d_not, d_lit, d_fn, IE.den, LE.den, AL.den, lenV, true_and, and_true, hF, pi2, pl1, pb10, pb11, pb12, pl7, pl9] at hp
  obtain ⟨_, _, _, _, _, _, _, _, _, _, _, _, _, _, _, _, _⟩ := hp
  exfalso
  all_goals
    obtain ⟨q0, q⟩ := ask_b (by assumption)
    first
      | (exfalso; exact absurd q0 (by assumption))
      | (obtain ⟨b1, b2, b3⟩ := shp_b q0
         try rw [wrap_1 (x := ρ.i .i64 2) (by omega)] at *
         try rw [wrap_1 (x := ρ.i .i64 3) (by omega)] at *
         exfalso
         omega)
theorem vcbytes_59 : VD TTbytes (st0 cBytes) wbytes_59 := by
  intro ρ kn hp
  have hF : ρ.z.F = oct.Φ := kn.F
  simp only [h_nil, h_cons, d_le, d_eq, d_not, d_lit, d_fn, IE.den, LE.den, AL.den, lenV, true_and, and_true, hF, pi2, pl1, pb10, pb11, pb12, pl7, pl9] at hp
  obtain ⟨_, _, _, _, _, _, _, _, _, _, _, _, _, _, _, _⟩ := hp
  exfalso
  all_goals
    obtain ⟨q0, q⟩ := ask_b (by assumption)
    first
      | (exfalso; exact absurd q0 (by assumption))
      | (obtain ⟨b1, b2, b3⟩ := shp_b q0
         try rw [wrap_1 (x := ρ.i .i64 2) (by omega)] at *
         try rw [wrap_1 (x := ρ.i .i64 3) (by omega)] at *
         exfalso
         omega)
theorem vcbytes_60 : VD TTbytes (st0 cBytes) wbytes_60 := by
  intro ρ kn hp
  have hF : ρ.z.F = oct.Φ := kn.F
  simp only [h_nil, h_cons, d_le, d_eq, d_not, d_lit, d_fn, IE.den, LE.den, AL.den, lenV, true_and, and_true, hF, pi2, pl1, pb10, pb11, pb12, pl7, pl9] at hp
  obtain ⟨_, _, _, _, _, _, _, _, _, _, _, _, _, _, _⟩ := hp
  exfalso
  all_goals
    obtain ⟨q0, q⟩ := ask_b (by assumption)
    first
      | (exfalso; exact absurd q0 (by assumption))
      | (obtain ⟨b1, b2, b3⟩ := shp_b q0
         try rw [wrap_1 (x := ρ.i .i64 2) (by omega)] at *
         try rw [wrap_1 (x := ρ.i .i64 3) (by omega)] at *
         exfalso
         omega)
theorem vcbytes_61 : VD TTbytes (st0 cBytes) wbytes_61 := by
  intro ρ kn hp
  have hF : ρ.z.F = oct.Φ := kn.F
  simp only [h_nil, h_cons, d_le, d_eq, d_not, d_lit, d_fn, IE.den, LE.den, AL.den, lenV, true_and, and_true, hF, pi2, pl1, pb10, pb11, pb12, pl7, pl9] at hp
  obtain ⟨_, _, _, _, _, _, _, _, _, _, _, _, _, _⟩ := hp
  exfalso
  all_goals
    obtain ⟨q0, q⟩ := ask_b (by assumption)
    first
      | (exfalso; exact absurd q0 (by assumption))
      | (obtain ⟨b1, b2, b3⟩ := shp_b q0
         try rw [wrap_1 (x := ρ.i .i64 2) (by omega)] at *
         try rw [wrap_1 (x := ρ.i .i64 3) (by omega)] at *
         exfalso
         omega)
theorem vcbytes_62 : VD TTbytes (st0 cBytes) wbytes_62 := by
  intro ρ kn hp
  have hF : ρ.z.F = oct.Φ := kn.F
  simp only [h_nil, h_cons, d_le, d_eq, d_not, d_lit, d_fn, IE.den, LE.den, AL.den, lenV, true_and, and_true, hF, pi2, pl1, pb10, pb11, pb12, pl7, pl9] at hp
  obtain ⟨_, _, _, _, _, _, _, _, _, _, _, _, _⟩ := hp
  exfalso
  all_goals
    obtain ⟨q0, q⟩ := ask_b (by assumption)
    first
      | (exfalso; exact absurd q0 (by assumption))
      | (obtain ⟨b1, b2, b3⟩ := shp_b q0
         try rw [wrap_1 (x := ρ.i .i64 2) (by omega)] at *
         try rw [wrap_1 (x := ρ.i .i64 3) (by omega)] at *
         exfalso
         omega)
theorem vcbytes_63 : VD TTbytes (st0 cBytes) wbytes_63 := by
  intro ρ kn hp
  have hF : ρ.z.F = oct.Φ := kn.F
  simp only [h_nil, h_cons, d_le, d_eq, d_not, d_lit, d_fn, IE.den, LE.den, AL.den, lenV, true_and, and_true, hF, pi2, pl1, pb10, pb11, pb12, pl7, pl9] at hp
  obtain ⟨_, _, _, _, _, _, _, _, _, _, _, _⟩ := hp
  exfalso
  all_goals
    obtain ⟨q0, q⟩ := ask_b (by assumption)
    first
      | (exfalso; exact absurd q0 (by assumption))
      | (obtain ⟨b1, b2, b3⟩ := shp_b q0
         try rw [wrap_1 (x := ρ.i .i64 2) (by omega)] at *
         try rw [wrap_1 (x := ρ.i .i64 3) (by omega)] at *
         exfalso
         omega)
theorem vcbytes_64 : VD TTbytes (st0 cBytes) wbytes_64 := by
  intro ρ kn hp
  have hF : ρ.z.F = oct.Φ := kn.F
  simp only [h_nil, h_cons, d_le, d_eq, d_not, d_lit, d_fn, IE.den, LE.den, AL.den, lenV, true_and, and_true, hF, pi2, pl1, pb10, pb11, pb12, pl7, pl9] at hp
  obtain ⟨_, _, _, _, _, _, _, _, _, _, _⟩ := hp
  exfalso
  all_goals
    obtain ⟨q0, q⟩ := ask_b (by assumption)
    first
      | (exfalso; exact absurd q0 (by assumption))
      | (obtain ⟨b1, b2, b3⟩ := shp_b q0
         try rw [wrap_1 (x := ρ.i .i64 2) (by omega)] at *
         try rw [wrap_1 (x := ρ.i .i64 3) (by omega)] at *
         exfalso
         omega)
theorem vcbytes_65 : VD TTbytes (st0 cBytes) wbytes_65 := by
  intro ρ kn hp
  have hF : ρ.z.F = oct.Φ := kn.F
  simp only [h_nil, h_cons, d_le, d_eq, d_not, d_lit, d_fn, IE.den, LE.den, AL.den, lenV, true_and, and_true, hF, pi2, pl1, pb10, pb11, pb12, pl7, pl9] at hp
  obtain ⟨_, _, _, _, _, _, _, _, _, _⟩ := hp
  exfalso
  all_goals
    obtain ⟨q0, q⟩ := ask_b (by assumption)
    first
      | (exfalso; exact absurd q0 (by assumption))
      | (obtain ⟨b1, b2, b3⟩ := shp_b q0
         try rw [wrap_1 (x := ρ.i .i64 2) (by omega)] at *
         try rw [wrap_1 (x := ρ.i .i64 3) (by omega)] at *
         exfalso
         omega)
theorem vcbytes_66 : VD TTbytes (st0 cBytes) wbytes_66 := by
  intro ρ kn hp
  have hF : ρ.z.F = oct.Φ := kn.F
  simp only [h_nil, h_cons, d_le, d_eq, d_not, d_lit, d_fn, IE.den, LE.den, AL.den, lenV, true_and, and_true, hF, pi2, pl1, pb10, pb11, pb12, pl7, pl9] at hp
  obtain ⟨_, _, _, _, _, _, _, _, _⟩ := hp
  exfalso
  all_goals
    obtain ⟨q0, q⟩ := ask_b (by assumption)
    first
      | (exfalso; exact absurd q0 (by assumption))
      | (obtain ⟨b1, b2, b3⟩ := shp_b q0
         try rw [wrap_1 (x := ρ.i .i64 2) (by omega)] at *
         try rw [wrap_1 (x := ρ.i .i64 3) (by omega)] at *
         exfalso
         omega)
theorem vcbytes_67 : VD TTbytes (st0 cBytes) wbytes_67 := by
  intro ρ kn hp
  have hF : ρ.z.F = oct.Φ := kn.F
  simp only [h_nil, h_cons, d_le, d_eq, d_not, d_lit, d_fn, IE.den, LE.den, AL.den, lenV, true_and, and_true, hF, pi2, pl1, pb10, pb11, pb12, pl7, pl9] at hp
  obtain ⟨_, _, _, _, _, _, _, _, _, _, _, _, _, _, _, _⟩ := hp
  exfalso
  all_goals
    obtain ⟨q0, q⟩ := ask_b (by assumption)
    first
      | (exfalso; exact absurd q0 (by assumption))
      | (obtain ⟨b1, b2, b3⟩ := shp_b q0
         try rw [wrap_1 (x := ρ.i .i64 2) (by omega)] at *
         try rw [wrap_1 (x := ρ.i .i64 3) (by omega)] at *
         exfalso
         omega)
theorem vcbytes_68 : VD TTbytes (st0 cBytes) wbytes_68 := by
  intro ρ kn hp
  have hF : ρ.z.F = oct.Φ := kn.F
  simp only [h_nil, h_cons, d_le, d_eq, d_not, d_lit, d_fn, IE.den, LE.den, AL.den, lenV, true_and, and_true, hF, pi2, pl1, pb10, pb11, pb12, pl7, pl9] at hp
  obtain ⟨_, _, _, _, _, _, _, _, _, _, _, _, _, _, _, _, _, _, _, _, _, _, _, _, _, _, _, _, _⟩ := hp
  refine all_cons (show (((ρ.z.F.l 7 [.int .i64 (ρ.i .i64 4), .int .i64 (ρ.i .i64 5), .int .i64 (ρ.i .i64 6), .int .i64 (ρ.i .i64 7), .int .i64 (ρ.i .i64 8), .int .i64 (ρ.i .i64 9), .int .i64 (ρ.i .i64 10), .int .i64 (ρ.i .i64 11)]).length : Nat) : Int) = (((((((ρ.z.F.l 1 [.int .u64 (ρ.i .i64 4)]).length : Nat) : Int) + (((ρ.z.F.l 1 [.int .u64 (ρ.i .i64 5)]).length : Nat) : Int)) + (((ρ.z.F.l 1 [.int .u64 (ρ.i .i64 9)]).length : Nat) : Int)) + (((ρ.z.F.l 1 [.int .u64 (ρ.i .i64 10)]).length : Nat) : Int)) + (((ρ.z.F.l 1 [.int .u64 (clampK .u64 (ρ.z.F.i 2 [.int .i64 (ρ.i .i64 11)]))]).length : Nat) : Int)) from ?_) (all_cons (show (ρ.z.F.l 7 [.int .i64 (ρ.i .i64 4), .int .i64 (ρ.i .i64 5), .int .i64 (ρ.i .i64 6), .int .i64 (ρ.i .i64 7), .int .i64 (ρ.i .i64 8), .int .i64 (ρ.i .i64 9), .int .i64 (ρ.i .i64 10), .int .i64 (ρ.i .i64 11)]) = (((((ρ.z.F.l 1 [.int .u64 (ρ.i .i64 4)]) ++ (ρ.z.F.l 1 [.int .u64 (ρ.i .i64 5)])) ++ (ρ.z.F.l 1 [.int .u64 (ρ.i .i64 9)])) ++ (ρ.z.F.l 1 [.int .u64 (ρ.i .i64 10)])) ++ (ρ.z.F.l 1 [.int .u64 (clampK .u64 (ρ.z.F.i 2 [.int .i64 (ρ.i .i64 11)]))])) from ?_) (all_cons (show (((ρ.z.F.l 7 [.int .i64 (ρ.i .i64 4), .int .i64 (ρ.i .i64 5), .int .i64 (ρ.i .i64 6), .int .i64 (ρ.i .i64 7), .int .i64 (ρ.i .i64 8), .int .i64 (ρ.i .i64 9), .int .i64 (ρ.i .i64 10), .int .i64 (ρ.i .i64 11)]).length : Nat) : Int) = (((((((ρ.z.F.l 1 [.int .u64 (ρ.i .i64 4)]).length : Nat) : Int) + (((ρ.z.F.l 1 [.int .u64 (ρ.i .i64 5)]).length : Nat) : Int)) + (((ρ.z.F.l 1 [.int .u64 (ρ.i .i64 9)]).length : Nat) : Int)) + (((ρ.z.F.l 1 [.int .u64 (ρ.i .i64 10)]).length : Nat) : Int)) + (((ρ.z.F.l 1 [.int .u64 (clampK .u64 (ρ.z.F.i 2 [.int .i64 (ρ.i .i64 11)]))]).length : Nat) : Int)) from ?_) (all_nil)))
  all_goals try simp only [hF, pi2, pl1, pb10, pb11, pb12, pl7, pl9]
  all_goals
    obtain ⟨q0, q⟩ := ask_b (by assumption)
    first
      | (exfalso; exact absurd q0 (by assumption))
      | (obtain ⟨b1, b2, b3⟩ := shp_b q0
         try rw [wrap_1 (x := ρ.i .i64 2) (by omega)] at *
         try rw [wrap_1 (x := ρ.i .i64 3) (by omega)] at *
         exfalso
         omega)
      | (have c11 := tw_rng (i64_rng kn.ok 11)
         first
           | rw [askL_1 (by assumption)]
           | rw [askL_2 (by assumption)]
           | rw [askL_7 (by assumption)]
           | rw [askL_3 (by omega) (by omega) (by omega)]
         try simp only [c11]
         try simp only [List.length_append, Int.natCast_add, List.append_assoc]
         first
           | done
           | omega
           | rfl)
theorem vcbytes_69 : VD TTbytes (st0 cBytes) wbytes_69 := by
  intro ρ kn hp
  have hF : ρ.z.F = oct.Φ := kn.F
  simp only [h_nil, h_cons, d_le, d_eq, d_not, d_lit, d_fn, IE.den, LE.den, AL.den, lenV, true_and, and_true, hF, pi2, pl1, pb10, pb11, pb12, pl7, pl9] at hp
  obtain ⟨_, _, _, _, _, _, _, _, _, _, _, _, _, _, _, _, _, _, _⟩ := hp
  exfalso
  all_goals
    obtain ⟨q0, q⟩ := ask_b (by assumption)
    first
      | (exfalso; exact absurd q0 (by assumption))
      | (obtain ⟨b1, b2, b3⟩ := shp_b q0
         try rw [wrap_1 (x := ρ.i .i64 2) (by omega)] at *
         try rw [wrap_1 (x := ρ.i .i64 3) (by omega)] at *
         exfalso
         omega)
theorem vcbytes_70 : VD TTbytes (st0 cBytes) wbytes_70 := by
  intro ρ kn hp
  have hF : ρ.z.F = oct.Φ := kn.F
  simp only [h_nil, h_cons, d_le, d_eq, d_not, d_lit, d_fn, IE.den, LE.den, AL.den, lenV, true_and, and_true, hF, pi2, pl1, pb10, pb11, pb12, pl7, pl9] at hp
  obtain ⟨_, _, _, _, _, _, _, _, _, _, _, _, _, _, _, _, _, _⟩ := hp
  exfalso
  all_goals
    obtain ⟨q0, q⟩ := ask_b (by assumption)
    first
      | (exfalso; exact absurd q0 (by assumption))
      | (obtain ⟨b1, b2, b3⟩ := shp_b q0
         try rw [wrap_1 (x := ρ.i .i64 2) (by omega)] at *
         try rw [wrap_1 (x := ρ.i .i64 3) (by omega)] at *
         exfalso
         omega)
theorem vcbytes_71 : VD TTbytes (st0 cBytes) wbytes_71 := by
  intro ρ kn hp
  have hF : ρ.z.F = oct.Φ := kn.F
  simp only [h_nil, h_cons, d_le, d_eq, d_not, d_lit, d_fn, IE.den, LE.den, AL.den, lenV, true_and, and_true, hF, pi2, pl1, pb10, pb11, pb12, pl7, pl9] at hp
  obtain ⟨_, _, _, _, _, _, _, _, _, _, _, _, _, _, _, _, _⟩ := hp
  exfalso
  all_goals
    obtain ⟨q0, q⟩ := ask_b (by assumption)
    first
      | (exfalso; exact absurd q0 (by assumption))
      | (obtain ⟨b1, b2, b3⟩ := shp_b q0
         try rw [wrap_1 (x := ρ.i .i64 2) (by omega)] at *
         try rw [wrap_1 (x := ρ.i .i64 3) (by omega)] at *
         exfalso
         omega)
theorem vcbytes_72 : VD TTbytes (st0 cBytes) wbytes_72 := by
  intro ρ kn hp
  have hF : ρ.z.F = oct.Φ := kn.F
  simp only [h_nil, h_cons, d_le, d_eq, d_not, d_lit, d_fn, IE.den, LE.den, AL.den, lenV, true_and, and_true, hF, pi2, pl1, pb10, pb11, pb12, pl7, pl9] at hp
  obtain ⟨_, _, _, _, _, _, _, _, _, _, _, _, _, _, _⟩ := hp
  exfalso
  all_goals
    obtain ⟨q0, q⟩ := ask_b (by assumption)
    first
      | (exfalso; exact absurd q0 (by assumption))
      | (obtain ⟨b1, b2, b3⟩ := shp_b q0
         try rw [wrap_1 (x := ρ.i .i64 2) (by omega)] at *
         try rw [wrap_1 (x := ρ.i .i64 3) (by omega)] at *
         exfalso
         omega)
theorem vcbytes_73 : VD TTbytes (st0 cBytes) wbytes_73 := by
  intro ρ kn hp
  have hF : ρ.z.F = oct.Φ := kn.F
  simp only [h_nil, h_cons, d_le, d_eq, d_not, d_lit, d_fn, IE.den, LE.den, AL.den, lenV, true_and, and_true, hF, pi2, pl1, pb10, pb11, pb12, pl7, pl9] at hp
  obtain ⟨_, _, _, _, _, _, _, _, _, _, _, _, _, _⟩ := hp
  exfalso
  all_goals
    obtain ⟨q0, q⟩ := ask_b (by assumption)
    first
      | (exfalso; exact absurd q0 (by assumption))
      | (obtain ⟨b1, b2, b3⟩ := shp_b q0
         try rw [wrap_1 (x := ρ.i .i64 2) (by omega)] at *
         try rw [wrap_1 (x := ρ.i .i64 3) (by omega)] at *
         exfalso
         omega)
theorem vcbytes_74 : VD TTbytes (st0 cBytes) wbytes_74 := by
  intro ρ kn hp
  have hF : ρ.z.F = oct.Φ := kn.F
  simp only [h_nil, h_cons, d_le, d_eq, d_not, d_lit, d_fn, IE.den, LE.den, AL.den, lenV, true_and, and_true, hF, pi2, pl1, pb10, pb11, pb12, pl7, pl9] at hp
  obtain ⟨_, _, _, _, _, _, _, _, _, _, _, _, _⟩ := hp
  exfalso
  all_goals
    obtain ⟨q0, q⟩ := ask_b (by assumption)
    first
      | (exfalso; exact absurd q0 (by assumption))
      | (obtain ⟨b1, b2, b3⟩ := shp_b q0
         try rw [wrap_1 (x := ρ.i .i64 2) (by omega)] at *
         try rw [wrap_1 (x := ρ.i .i64 3) (by omega)] at *
         exfalso
         omega)
theorem vcbytes_75 : VD TTbytes (st0 cBytes) wbytes_75 := by
  intro ρ kn hp
  have hF : ρ.z.F = oct.Φ := kn.F
  simp only [h_nil, h_cons, d_le, d_eq, d_not, d_lit, d_fn, IE.den, LE.den, AL.den, lenV, true_and, and_true, hF, pi2, pl1, pb10, pb11, pb12, pl7, pl9] at hp
  obtain ⟨_, _, _, _, _, _, _, _, _, _, _, _⟩ := hp
  exfalso
  all_goals
    obtain ⟨q0, q⟩ := ask_b (by assumption)
    first
      | (exfalso; exact absurd q0 (by assumption))
      | (obtain ⟨b1, b2, b3⟩ := shp_b q0
         try rw [wrap_1 (x := ρ.i .i64 2) (by omega)] at *
         try rw [wrap_1 (x := ρ.i .i64 3) (by omega)] at *
         exfalso
         omega)
theorem vcbytes_76 : VD TTbytes (st0 cBytes) wbytes_76 := by
  intro ρ kn hp
  have hF : ρ.z.F = oct.Φ := kn.F
  simp only [h_nil, h_cons, d_le, d_eq, d_not, d_lit, d_fn, IE.den, LE.den, AL.den, lenV, true_and, and_true, hF, pi2, pl1, pb10, pb11, pb12, pl7, pl9] at hp
  obtain ⟨_, _, _, _, _, _, _, _, _, _, _⟩ := hp
  exfalso
  all_goals
    obtain ⟨q0, q⟩ := ask_b (by assumption)
    first
      | (exfalso; exact absurd q0 (by assumption))
      | (obtain ⟨b1, b2, b3⟩ := shp_b q0
         try rw [wrap_1 (x := ρ.i .i64 2) (by omega)] at *
         try rw [wrap_1 (x := ρ.i .i64 3) (by omega)] at *
         exfalso
         omega)
theorem vcbytes_77 : VD TTbytes (st0 cBytes) wbytes_77 := by
  intro ρ kn hp
  have hF : ρ.z.F = oct.Φ := kn.F
  simp only [h_nil, h_cons, d_le, d_eq, d_not, d_lit, d_fn, IE.den, LE.den, AL.den, lenV, true_and, and_true, hF, pi2, pl1, pb10, pb11, pb12, pl7, pl9] at hp
  obtain ⟨_, _, _, _, _, _, _, _, _, _⟩ := hp
  exfalso
  all_goals
    obtain ⟨q0, q⟩ := ask_b (by assumption)
    first
      | (exfalso; exact absurd q0 (by assumption))
      | (obtain ⟨b1, b2, b3⟩ := shp_b q0
         try rw [wrap_1 (x := ρ.i .i64 2) (by omega)] at *
         try rw [wrap_1 (x := ρ.i .i64 3) (by omega)] at *
         exfalso
         omega)
theorem vcbytes_78 : VD TTbytes (st0 cBytes) wbytes_78 := by
  intro ρ kn hp
  have hF : ρ.z.F = oct.Φ := kn.F
  simp only [h_nil, h_cons, d_le, d_eq, d_not, d_lit, d_fn, IE.den, LE.den, AL.den, lenV, true_and, and_true, hF, pi2, pl1, pb10, pb11, pb12, pl7, pl9] at hp
  obtain ⟨_, _, _, _, _, _, _, _, _⟩ := hp
  exfalso
  all_goals
    obtain ⟨q0, q⟩ := ask_b (by assumption)
    first
      | (exfalso; exact absurd q0 (by assumption))
      | (obtain ⟨b1, b2, b3⟩ := shp_b q0
         try rw [wrap_1 (x := ρ.i .i64 2) (by omega)] at *
         try rw [wrap_1 (x := ρ.i .i64 3) (by omega)] at *
         exfalso
         omega)
theorem vcbytes_79 : VD TTbytes (st0 cBytes) wbytes_79 := by
  intro ρ kn hp
  have hF : ρ.z.F = oct.Φ := kn.F
  simp only [h_nil, h_cons, d_le, d_eq, d_not, d_lit, d_fn, IE.den, LE.den, AL.den, lenV, true_and, and_true, hF, pi2, pl1, pb10, pb11, pb12, pl7, pl9] at hp
  obtain ⟨_, _⟩ := hp
  exfalso
  all_goals
    obtain ⟨q0, q⟩ := ask_b (by assumption)
    first
      | (exfalso; exact absurd q0 (by assumption))
      | (obtain ⟨b1, b2, b3⟩ := shp_b q0
         try rw [wrap_1 (x := ρ.i .i64 2) (by omega)] at *
         try rw [wrap_1 (x := ρ.i .i64 3) (by omega)] at *
         exfalso
         omega)
theorem told_bytes : Sx.Told oct.Φ cBytes := told_vw (cs := [cShp, cShpN, cNumber, cSigned]) (all_cons told_shp (all_cons told_shpn (all_cons told_number (all_cons told_signed (all_nil))))) 9000 vwbytes (by kernel_rfl) (by kernel_rfl) (by kernel_rfl) post_bytes (by kernel_rfl) (by kernel_rfl) (all_cons vcbytes_0 (all_cons vcbytes_1 (all_cons vcbytes_2 (all_cons vcbytes_3 (all_cons vcbytes_4 (all_cons vcbytes_5 (all_cons vcbytes_6 (all_cons vcbytes_7 (all_cons vcbytes_8 (all_cons vcbytes_9 (all_cons vcbytes_10 (all_cons vcbytes_11 (all_cons vcbytes_12 (all_cons vcbytes_13 (all_cons vcbytes_14 (all_cons vcbytes_15 (all_cons vcbytes_16 (all_cons vcbytes_17 (all_cons vcbytes_18 (all_cons vcbytes_19 (all_cons vcbytes_20 (all_cons vcbytes_21 (all_cons vcbytes_22 (all_cons vcbytes_23 (all_cons vcbytes_24 (all_cons vcbytes_25 (all_cons vcbytes_26 (all_cons vcbytes_27 (all_cons vcbytes_28 (all_cons vcbytes_29 (all_cons vcbytes_30 (all_cons vcbytes_31 (all_cons vcbytes_32 (all_cons vcbytes_33 (all_cons vcbytes_34 (all_cons vcbytes_35 (all_cons vcbytes_36 (all_cons vcbytes_37 (all_cons vcbytes_38 (all_cons vcbytes_39 (all_cons vcbytes_40 (all_cons vcbytes_41 (all_cons vcbytes_42 (all_cons vcbytes_43 (all_cons vcbytes_44 (all_cons vcbytes_45 (all_cons vcbytes_46 (all_cons vcbytes_47 (all_cons vcbytes_48 (all_cons vcbytes_49 (all_cons vcbytes_50 (all_cons vcbytes_51 (all_cons vcbytes_52 (all_cons vcbytes_53 (all_cons vcbytes_54 (all_cons vcbytes_55 (all_cons vcbytes_56 (all_cons vcbytes_57 (all_cons vcbytes_58 (all_cons vcbytes_59 (all_cons vcbytes_60 (all_cons vcbytes_61 (all_cons vcbytes_62 (all_cons vcbytes_63 (all_cons vcbytes_64 (all_cons vcbytes_65 (all_cons vcbytes_66 (all_cons vcbytes_67 (all_cons vcbytes_68 (all_cons vcbytes_69 (all_cons vcbytes_70 (all_cons vcbytes_71 (all_cons vcbytes_72 (all_cons vcbytes_73 (all_cons vcbytes_74 (all_cons vcbytes_75 (all_cons vcbytes_76 (all_cons vcbytes_77 (all_cons vcbytes_78 (all_cons vcbytes_79 (all_nil)))))))))))))))))))))))))))))))))))))))))))))))))))))))))))))))))))))))))))))))))
end Go.Proofs.Ythenenacmiiphaa.oct
