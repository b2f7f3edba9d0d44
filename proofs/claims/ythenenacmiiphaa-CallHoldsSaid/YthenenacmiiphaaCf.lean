/- Layer call: no bytes of asks that may not be. No condition. -/
import Derived.Test.YthenenacmiiphaaCb
set_option linter.unusedVariables false
set_option linter.unusedSimpArgs false
set_option linter.deprecated false
namespace Go.Proofs.Ythenenacmiiphaa.oct
open Go Go.Proofs.Ythenenacmiiphaa.Sx
noncomputable section
abbrev TTbytesn : Tab := T oct.Φ cBytesN.roms [cShp, cShpN, cNumber, cSigned]
abbrev tbytesn0 : BE := BE.le (IE.var .i64 5) (IE.wrap .i64 (IE.sub (IE.var .i64 2) (IE.lit 1)))
abbrev tbytesn1 : IE := IE.len (LE.fn 1 (AL.int .u64 (IE.var .i64 5) AL.nil))
abbrev tbytesn2 : IE := IE.len (LE.fn 1 (AL.int .u64 (IE.var .i64 4) AL.nil))
abbrev tbytesn3 : BE := BE.le (IE.var .i64 9) (IE.wrap .i64 (IE.sub (IE.var .i64 3) (IE.lit 1)))
abbrev tbytesn4 : IE := IE.len (LE.fn 1 (AL.int .u64 (IE.var .i64 10) AL.nil))
abbrev tbytesn5 : IE := IE.len (LE.fn 1 (AL.int .u64 (IE.var .i64 9) AL.nil))
abbrev tbytesn6 : BE := BE.eq (IE.var .i64 11) (IE.lit 0)
abbrev tbytesn7 : BE := BE.le (IE.var .i64 10) (IE.lit 1099511627776)
abbrev tbytesn8 : BE := BE.le (IE.lit 0) (IE.var .i64 5)
abbrev tbytesn9 : BE := BE.eq (IE.var .i64 8) (IE.lit 0)
abbrev tbytesn10 : BE := BE.le (IE.lit 1) (IE.var .i64 10)
abbrev tbytesn11 : BE := BE.le (IE.lit 0) (IE.var .i64 9)
abbrev tbytesn12 : BE := BE.eq (IE.var .i64 6) (IE.lit 0)
abbrev tbytesn13 : BE := BE.eq (IE.var .i64 7) (IE.lit 0)
abbrev tbytesn14 : IE := IE.len (LE.fn 1 (AL.int .u64 (IE.var .i64 7) AL.nil))
abbrev tbytesn15 : IE := IE.len (LE.fn 1 (AL.int .u64 (IE.var .i64 6) AL.nil))
abbrev tbytesn16 : BE := BE.fn 10 (AL.int .i64 (IE.var .i64 1) (AL.int .i64 (IE.var .i64 2) (AL.int .i64 (IE.var .i64 3) AL.nil)))
abbrev pcbytesn_0 : List BE := [(BE.lit true), (BE.not (BE.fn 11 (AL.int .i64 (IE.var .i64 1) (AL.int .i64 (IE.var .i64 2) (AL.int .i64 (IE.var .i64 3) (AL.int .i64 (IE.var .i64 4) (AL.int .i64 (IE.var .i64 5) (AL.int .i64 (IE.var .i64 6) (AL.int .i64 (IE.var .i64 7) (AL.int .i64 (IE.var .i64 8) (AL.int .i64 (IE.var .i64 9) (AL.int .i64 (IE.var .i64 10) (AL.int .i64 (IE.var .i64 11) AL.nil)))))))))))))]
abbrev pcbytesn_1 : List BE := (tbytesn16 :: pcbytesn_0)
abbrev pcbytesn_2 : List BE := ((BE.eq (IE.var .i64 4) (IE.lit 1)) :: pcbytesn_1)
abbrev pcbytesn_3 : List BE := ((BE.not (BE.eq (IE.var .i64 4) (IE.lit 1))) :: pcbytesn_1)
abbrev pcbytesn_4 : List BE := (tbytesn8 :: pcbytesn_2)
abbrev pcbytesn_5 : List BE := ((BE.eq (IE.var .i64 4) (IE.lit 2)) :: pcbytesn_3)
abbrev pcbytesn_6 : List BE := ((BE.not (BE.eq (IE.var .i64 4) (IE.lit 2))) :: pcbytesn_3)
abbrev pcbytesn_7 : List BE := (tbytesn0 :: pcbytesn_4)
abbrev pcbytesn_8 : List BE := (tbytesn8 :: pcbytesn_5)
abbrev pcbytesn_9 : List BE := ((BE.eq (IE.var .i64 4) (IE.lit 3)) :: pcbytesn_6)
abbrev pcbytesn_10 : List BE := ((BE.not (BE.eq (IE.var .i64 4) (IE.lit 3))) :: pcbytesn_6)
abbrev pcbytesn_11 : List BE := ((BE.le (IE.lit 1) (IE.var .i64 6)) :: pcbytesn_7)
abbrev pcbytesn_12 : List BE := (tbytesn0 :: pcbytesn_8)
abbrev pcbytesn_13 : List BE := (tbytesn8 :: pcbytesn_9)
abbrev pcbytesn_14 : List BE := ((BE.eq (IE.var .i64 4) (IE.lit 4)) :: pcbytesn_10)
abbrev pcbytesn_15 : List BE := ((BE.not (BE.eq (IE.var .i64 4) (IE.lit 4))) :: pcbytesn_10)
abbrev pcbytesn_16 : List BE := ((BE.le (IE.var .i64 6) (IE.lit 5)) :: pcbytesn_11)
abbrev pcbytesn_17 : List BE := ((BE.le (IE.lit 1) (IE.var .i64 6)) :: pcbytesn_12)
abbrev pcbytesn_18 : List BE := (tbytesn0 :: pcbytesn_13)
abbrev pcbytesn_19 : List BE := (tbytesn8 :: pcbytesn_14)
abbrev pcbytesn_20 : List BE := ((BE.eq (IE.var .i64 4) (IE.lit 5)) :: pcbytesn_15)
abbrev pcbytesn_21 : List BE := ((BE.not (BE.eq (IE.var .i64 4) (IE.lit 5))) :: pcbytesn_15)
abbrev pcbytesn_22 : List BE := ((BE.le (IE.lit 0) (IE.var .i64 7)) :: pcbytesn_16)
abbrev pcbytesn_23 : List BE := ((BE.le (IE.var .i64 6) (IE.lit 5)) :: pcbytesn_17)
abbrev pcbytesn_24 : List BE := (tbytesn11 :: pcbytesn_18)
abbrev pcbytesn_25 : List BE := (tbytesn0 :: pcbytesn_19)
abbrev pcbytesn_26 : List BE := (tbytesn8 :: pcbytesn_20)
abbrev pcbytesn_27 : List BE := ((BE.eq (IE.var .i64 4) (IE.lit 6)) :: pcbytesn_21)
abbrev pcbytesn_28 : List BE := ((BE.not (BE.eq (IE.var .i64 4) (IE.lit 6))) :: pcbytesn_21)
abbrev pcbytesn_29 : List BE := ((BE.le (IE.var .i64 7) (IE.lit 3)) :: pcbytesn_22)
abbrev pcbytesn_30 : List BE := ((BE.le (IE.lit 0) (IE.var .i64 7)) :: pcbytesn_23)
abbrev pcbytesn_31 : List BE := (tbytesn3 :: pcbytesn_24)
abbrev pcbytesn_32 : List BE := (tbytesn11 :: pcbytesn_25)
abbrev pcbytesn_33 : List BE := (tbytesn0 :: pcbytesn_26)
abbrev pcbytesn_34 : List BE := (tbytesn8 :: pcbytesn_27)
abbrev pcbytesn_35 : List BE := ((BE.eq (IE.var .i64 4) (IE.lit 7)) :: pcbytesn_28)
abbrev pcbytesn_36 : List BE := ((BE.le (IE.lit 0) (IE.var .i64 8)) :: pcbytesn_29)
abbrev pcbytesn_37 : List BE := ((BE.le (IE.var .i64 7) (IE.lit 3)) :: pcbytesn_30)
abbrev pcbytesn_38 : List BE := (tbytesn10 :: pcbytesn_31)
abbrev pcbytesn_39 : List BE := (tbytesn3 :: pcbytesn_32)
abbrev pcbytesn_40 : List BE := (tbytesn11 :: pcbytesn_33)
abbrev pcbytesn_41 : List BE := (tbytesn0 :: pcbytesn_34)
abbrev pcbytesn_42 : List BE := (tbytesn8 :: pcbytesn_35)
abbrev pcbytesn_43 : List BE := ((BE.le (IE.var .i64 8) (IE.lit 1099511627776)) :: pcbytesn_36)
abbrev pcbytesn_44 : List BE := (tbytesn9 :: pcbytesn_37)
abbrev pcbytesn_45 : List BE := (tbytesn7 :: pcbytesn_38)
abbrev pcbytesn_46 : List BE := (tbytesn10 :: pcbytesn_39)
abbrev pcbytesn_47 : List BE := (tbytesn3 :: pcbytesn_40)
abbrev pcbytesn_48 : List BE := (tbytesn11 :: pcbytesn_41)
abbrev pcbytesn_49 : List BE := (tbytesn0 :: pcbytesn_42)
abbrev pcbytesn_50 : List BE := ((BE.eq (IE.var .i64 9) (IE.lit 0)) :: pcbytesn_43)
abbrev pcbytesn_51 : List BE := ((BE.eq (IE.var .i64 9) (IE.lit 0)) :: pcbytesn_44)
abbrev pcbytesn_52 : List BE := (tbytesn12 :: pcbytesn_45)
abbrev pcbytesn_53 : List BE := (tbytesn7 :: pcbytesn_46)
abbrev pcbytesn_54 : List BE := (tbytesn10 :: pcbytesn_47)
abbrev pcbytesn_55 : List BE := (tbytesn3 :: pcbytesn_48)
abbrev pcbytesn_56 : List BE := (tbytesn11 :: pcbytesn_49)
abbrev pcbytesn_57 : List BE := ((BE.eq (IE.var .i64 10) (IE.lit 0)) :: pcbytesn_50)
abbrev pcbytesn_58 : List BE := ((BE.eq (IE.var .i64 10) (IE.lit 0)) :: pcbytesn_51)
abbrev pcbytesn_59 : List BE := (tbytesn13 :: pcbytesn_52)
abbrev pcbytesn_60 : List BE := (tbytesn12 :: pcbytesn_53)
abbrev pcbytesn_61 : List BE := (tbytesn7 :: pcbytesn_54)
abbrev pcbytesn_62 : List BE := (tbytesn10 :: pcbytesn_55)
abbrev pcbytesn_63 : List BE := (tbytesn3 :: pcbytesn_56)
abbrev pcbytesn_64 : List BE := (tbytesn9 :: pcbytesn_59)
abbrev pcbytesn_65 : List BE := (tbytesn13 :: pcbytesn_60)
abbrev pcbytesn_66 : List BE := (tbytesn12 :: pcbytesn_61)
abbrev pcbytesn_67 : List BE := (tbytesn7 :: pcbytesn_62)
abbrev pcbytesn_68 : List BE := (tbytesn10 :: pcbytesn_63)
abbrev pcbytesn_69 : List BE := (tbytesn9 :: pcbytesn_65)
abbrev pcbytesn_70 : List BE := (tbytesn13 :: pcbytesn_66)
abbrev pcbytesn_71 : List BE := (tbytesn12 :: pcbytesn_67)
abbrev pcbytesn_72 : List BE := (tbytesn7 :: pcbytesn_68)
abbrev pcbytesn_73 : List BE := (tbytesn9 :: pcbytesn_70)
abbrev pcbytesn_74 : List BE := (tbytesn13 :: pcbytesn_71)
abbrev pcbytesn_75 : List BE := ((BE.not tbytesn6) :: pcbytesn_72)
abbrev pcbytesn_76 : List BE := (tbytesn9 :: pcbytesn_74)
abbrev pcbytesn_77 : List BE := (tbytesn12 :: pcbytesn_75)
abbrev pcbytesn_78 : List BE := (tbytesn13 :: pcbytesn_77)
def wbytesn_0 : VW := (VW.done ((BE.le (IE.lit 1) (IE.len (LE.fn 1 (AL.int .u64 (IE.var .i64 8) AL.nil)))) :: (BE.le (IE.len (LE.fn 1 (AL.int .u64 (IE.var .i64 8) AL.nil))) (IE.lit 10)) :: (BE.le (IE.lit 1) tbytesn14) :: (BE.le tbytesn14 (IE.lit 10)) :: (BE.le (IE.lit 1) tbytesn15) :: (BE.le tbytesn15 (IE.lit 10)) :: (BE.le (IE.lit 1) tbytesn1) :: (BE.le tbytesn1 (IE.lit 10)) :: (BE.le (IE.lit 1) tbytesn2) :: (BE.le tbytesn2 (IE.lit 10)) :: tbytesn6 :: pcbytesn_57) (some [(G.b (BE.lit true) (BE.lit false))]))
def wbytesn_1 : VW := (VW.done ((BE.not tbytesn6) :: pcbytesn_57) (some []))
def wbytesn_2 : VW := (VW.done ((BE.not (BE.eq (IE.var .i64 10) (IE.lit 0))) :: pcbytesn_50) (some []))
def wbytesn_3 : VW := (VW.done ((BE.not (BE.eq (IE.var .i64 9) (IE.lit 0))) :: pcbytesn_43) (some []))
def wbytesn_4 : VW := (VW.done ((BE.not (BE.le (IE.var .i64 8) (IE.lit 1099511627776))) :: pcbytesn_36) (some []))
def wbytesn_5 : VW := (VW.done ((BE.not (BE.le (IE.lit 0) (IE.var .i64 8))) :: pcbytesn_29) (some []))
def wbytesn_6 : VW := (VW.done ((BE.not (BE.le (IE.var .i64 7) (IE.lit 3))) :: pcbytesn_22) (some []))
def wbytesn_7 : VW := (VW.done ((BE.not (BE.le (IE.lit 0) (IE.var .i64 7))) :: pcbytesn_16) (some []))
def wbytesn_8 : VW := (VW.done ((BE.not (BE.le (IE.var .i64 6) (IE.lit 5))) :: pcbytesn_11) (some []))
def wbytesn_9 : VW := (VW.done ((BE.not (BE.le (IE.lit 1) (IE.var .i64 6))) :: pcbytesn_7) (some []))
def wbytesn_10 : VW := (VW.done ((BE.not tbytesn0) :: pcbytesn_4) (some []))
def wbytesn_11 : VW := (VW.done ((BE.not tbytesn8) :: pcbytesn_2) (some []))
def wbytesn_12 : VW := (VW.done ((BE.le (IE.lit 1) tbytesn14) :: (BE.le tbytesn14 (IE.lit 10)) :: (BE.le (IE.lit 1) tbytesn15) :: (BE.le tbytesn15 (IE.lit 10)) :: (BE.le (IE.lit 1) tbytesn1) :: (BE.le tbytesn1 (IE.lit 10)) :: (BE.le (IE.lit 1) tbytesn2) :: (BE.le tbytesn2 (IE.lit 10)) :: tbytesn6 :: pcbytesn_58) (some [(G.b (BE.lit true) (BE.lit false))]))
def wbytesn_13 : VW := (VW.done ((BE.not tbytesn6) :: pcbytesn_58) (some []))
def wbytesn_14 : VW := (VW.done ((BE.not (BE.eq (IE.var .i64 10) (IE.lit 0))) :: pcbytesn_51) (some []))
def wbytesn_15 : VW := (VW.done ((BE.not (BE.eq (IE.var .i64 9) (IE.lit 0))) :: pcbytesn_44) (some []))
def wbytesn_16 : VW := (VW.done ((BE.not tbytesn9) :: pcbytesn_37) (some []))
def wbytesn_17 : VW := (VW.done ((BE.not (BE.le (IE.var .i64 7) (IE.lit 3))) :: pcbytesn_30) (some []))
def wbytesn_18 : VW := (VW.done ((BE.not (BE.le (IE.lit 0) (IE.var .i64 7))) :: pcbytesn_23) (some []))
def wbytesn_19 : VW := (VW.done ((BE.not (BE.le (IE.var .i64 6) (IE.lit 5))) :: pcbytesn_17) (some []))
def wbytesn_20 : VW := (VW.done ((BE.not (BE.le (IE.lit 1) (IE.var .i64 6))) :: pcbytesn_12) (some []))
def wbytesn_21 : VW := (VW.done ((BE.not tbytesn0) :: pcbytesn_8) (some []))
def wbytesn_22 : VW := (VW.done ((BE.not tbytesn8) :: pcbytesn_5) (some []))
def wbytesn_23 : VW := (VW.done ((BE.le (IE.lit 1) tbytesn4) :: (BE.le tbytesn4 (IE.lit 10)) :: (BE.le (IE.lit 1) tbytesn5) :: (BE.le tbytesn5 (IE.lit 10)) :: (BE.le (IE.lit 1) tbytesn1) :: (BE.le tbytesn1 (IE.lit 10)) :: (BE.le (IE.lit 1) tbytesn2) :: (BE.le tbytesn2 (IE.lit 10)) :: tbytesn6 :: pcbytesn_64) (some [(G.b (BE.lit true) (BE.lit false))]))
def wbytesn_24 : VW := (VW.done ((BE.not tbytesn6) :: pcbytesn_64) (some []))
def wbytesn_25 : VW := (VW.done ((BE.not tbytesn9) :: pcbytesn_59) (some []))
def wbytesn_26 : VW := (VW.done ((BE.not tbytesn13) :: pcbytesn_52) (some []))
def wbytesn_27 : VW := (VW.done ((BE.not tbytesn12) :: pcbytesn_45) (some []))
def wbytesn_28 : VW := (VW.done ((BE.not tbytesn7) :: pcbytesn_38) (some []))
def wbytesn_29 : VW := (VW.done ((BE.not tbytesn10) :: pcbytesn_31) (some []))
def wbytesn_30 : VW := (VW.done ((BE.not tbytesn3) :: pcbytesn_24) (some []))
def wbytesn_31 : VW := (VW.done ((BE.not tbytesn11) :: pcbytesn_18) (some []))
def wbytesn_32 : VW := (VW.done ((BE.not tbytesn0) :: pcbytesn_13) (some []))
def wbytesn_33 : VW := (VW.done ((BE.not tbytesn8) :: pcbytesn_9) (some []))
def wbytesn_34 : VW := (VW.done ((BE.le (IE.lit 1) tbytesn4) :: (BE.le tbytesn4 (IE.lit 10)) :: (BE.le (IE.lit 1) tbytesn5) :: (BE.le tbytesn5 (IE.lit 10)) :: (BE.le (IE.lit 1) tbytesn1) :: (BE.le tbytesn1 (IE.lit 10)) :: (BE.le (IE.lit 1) tbytesn2) :: (BE.le tbytesn2 (IE.lit 10)) :: tbytesn6 :: pcbytesn_69) (some [(G.b (BE.lit true) (BE.lit false))]))
def wbytesn_35 : VW := (VW.done ((BE.not tbytesn6) :: pcbytesn_69) (some []))
def wbytesn_36 : VW := (VW.done ((BE.not tbytesn9) :: pcbytesn_65) (some []))
def wbytesn_37 : VW := (VW.done ((BE.not tbytesn13) :: pcbytesn_60) (some []))
def wbytesn_38 : VW := (VW.done ((BE.not tbytesn12) :: pcbytesn_53) (some []))
def wbytesn_39 : VW := (VW.done ((BE.not tbytesn7) :: pcbytesn_46) (some []))
def wbytesn_40 : VW := (VW.done ((BE.not tbytesn10) :: pcbytesn_39) (some []))
def wbytesn_41 : VW := (VW.done ((BE.not tbytesn3) :: pcbytesn_32) (some []))
def wbytesn_42 : VW := (VW.done ((BE.not tbytesn11) :: pcbytesn_25) (some []))
def wbytesn_43 : VW := (VW.done ((BE.not tbytesn0) :: pcbytesn_19) (some []))
def wbytesn_44 : VW := (VW.done ((BE.not tbytesn8) :: pcbytesn_14) (some []))
def wbytesn_45 : VW := (VW.done ((BE.le (IE.lit 1) tbytesn4) :: (BE.le tbytesn4 (IE.lit 10)) :: (BE.le (IE.lit 1) tbytesn5) :: (BE.le tbytesn5 (IE.lit 10)) :: (BE.le (IE.lit 1) tbytesn1) :: (BE.le tbytesn1 (IE.lit 10)) :: (BE.le (IE.lit 1) tbytesn2) :: (BE.le tbytesn2 (IE.lit 10)) :: tbytesn6 :: pcbytesn_73) (some [(G.b (BE.lit true) (BE.lit false))]))
def wbytesn_46 : VW := (VW.done ((BE.not tbytesn6) :: pcbytesn_73) (some []))
def wbytesn_47 : VW := (VW.done ((BE.not tbytesn9) :: pcbytesn_70) (some []))
def wbytesn_48 : VW := (VW.done ((BE.not tbytesn13) :: pcbytesn_66) (some []))
def wbytesn_49 : VW := (VW.done ((BE.not tbytesn12) :: pcbytesn_61) (some []))
def wbytesn_50 : VW := (VW.done ((BE.not tbytesn7) :: pcbytesn_54) (some []))
def wbytesn_51 : VW := (VW.done ((BE.not tbytesn10) :: pcbytesn_47) (some []))
def wbytesn_52 : VW := (VW.done ((BE.not tbytesn3) :: pcbytesn_40) (some []))
def wbytesn_53 : VW := (VW.done ((BE.not tbytesn11) :: pcbytesn_33) (some []))
def wbytesn_54 : VW := (VW.done ((BE.not tbytesn0) :: pcbytesn_26) (some []))
def wbytesn_55 : VW := (VW.done ((BE.not tbytesn8) :: pcbytesn_20) (some []))
def wbytesn_56 : VW := (VW.done ((BE.le (IE.lit 1) tbytesn4) :: (BE.le tbytesn4 (IE.lit 10)) :: (BE.le (IE.lit 1) tbytesn5) :: (BE.le tbytesn5 (IE.lit 10)) :: (BE.le (IE.lit 1) tbytesn1) :: (BE.le tbytesn1 (IE.lit 10)) :: (BE.le (IE.lit 1) tbytesn2) :: (BE.le tbytesn2 (IE.lit 10)) :: tbytesn6 :: pcbytesn_76) (some [(G.b (BE.lit true) (BE.lit false))]))
def wbytesn_57 : VW := (VW.done ((BE.not tbytesn6) :: pcbytesn_76) (some []))
def wbytesn_58 : VW := (VW.done ((BE.not tbytesn9) :: pcbytesn_74) (some []))
def wbytesn_59 : VW := (VW.done ((BE.not tbytesn13) :: pcbytesn_71) (some []))
def wbytesn_60 : VW := (VW.done ((BE.not tbytesn12) :: pcbytesn_67) (some []))
def wbytesn_61 : VW := (VW.done ((BE.not tbytesn7) :: pcbytesn_62) (some []))
def wbytesn_62 : VW := (VW.done ((BE.not tbytesn10) :: pcbytesn_55) (some []))
def wbytesn_63 : VW := (VW.done ((BE.not tbytesn3) :: pcbytesn_48) (some []))
def wbytesn_64 : VW := (VW.done ((BE.not tbytesn11) :: pcbytesn_41) (some []))
def wbytesn_65 : VW := (VW.done ((BE.not tbytesn0) :: pcbytesn_34) (some []))
def wbytesn_66 : VW := (VW.done ((BE.not tbytesn8) :: pcbytesn_27) (some []))
def wbytesn_67 : VW := (VW.done (tbytesn6 :: pcbytesn_72) (some []))
def wbytesn_68 : VW := (VW.done ((BE.le (IE.lit 1) (IE.len (LE.fn 1 (AL.int .u64 (IE.fn .u64 2 (AL.int .i64 (IE.var .i64 11) AL.nil)) AL.nil)))) :: (BE.le (IE.len (LE.fn 1 (AL.int .u64 (IE.fn .u64 2 (AL.int .i64 (IE.var .i64 11) AL.nil)) AL.nil))) (IE.lit 10)) :: (BE.le (IE.lit 1) tbytesn4) :: (BE.le tbytesn4 (IE.lit 10)) :: (BE.le (IE.lit 1) tbytesn5) :: (BE.le tbytesn5 (IE.lit 10)) :: (BE.le (IE.lit 1) tbytesn1) :: (BE.le tbytesn1 (IE.lit 10)) :: (BE.le (IE.lit 1) tbytesn2) :: (BE.le tbytesn2 (IE.lit 10)) :: tbytesn9 :: pcbytesn_78) (some [(G.b (BE.lit true) (BE.lit false))]))
def wbytesn_69 : VW := (VW.done ((BE.not tbytesn9) :: pcbytesn_78) (some []))
def wbytesn_70 : VW := (VW.done ((BE.not tbytesn13) :: pcbytesn_77) (some []))
def wbytesn_71 : VW := (VW.done ((BE.not tbytesn12) :: pcbytesn_75) (some []))
def wbytesn_72 : VW := (VW.done ((BE.not tbytesn7) :: pcbytesn_68) (some []))
def wbytesn_73 : VW := (VW.done ((BE.not tbytesn10) :: pcbytesn_63) (some []))
def wbytesn_74 : VW := (VW.done ((BE.not tbytesn3) :: pcbytesn_56) (some []))
def wbytesn_75 : VW := (VW.done ((BE.not tbytesn11) :: pcbytesn_49) (some []))
def wbytesn_76 : VW := (VW.done ((BE.not tbytesn0) :: pcbytesn_42) (some []))
def wbytesn_77 : VW := (VW.done ((BE.not tbytesn8) :: pcbytesn_35) (some []))
def wbytesn_78 : VW := (VW.done ((BE.not (BE.eq (IE.var .i64 4) (IE.lit 7))) :: pcbytesn_28) (some []))
def wbytesn_79 : VW := (VW.done ((BE.not tbytesn16) :: pcbytesn_0) (some []))
def vwbytesn : List VW := [wbytesn_0, wbytesn_1, wbytesn_2, wbytesn_3, wbytesn_4, wbytesn_5, wbytesn_6, wbytesn_7, wbytesn_8, wbytesn_9, wbytesn_10, wbytesn_11, wbytesn_12, wbytesn_13, wbytesn_14, wbytesn_15, wbytesn_16, wbytesn_17, wbytesn_18, wbytesn_19, wbytesn_20, wbytesn_21, wbytesn_22, wbytesn_23, wbytesn_24, wbytesn_25, wbytesn_26, wbytesn_27, wbytesn_28, wbytesn_29, wbytesn_30, wbytesn_31, wbytesn_32, wbytesn_33, wbytesn_34, wbytesn_35, wbytesn_36, wbytesn_37, wbytesn_38, wbytesn_39, wbytesn_40, wbytesn_41, wbytesn_42, wbytesn_43, wbytesn_44, wbytesn_45, wbytesn_46, wbytesn_47, wbytesn_48, wbytesn_49, wbytesn_50, wbytesn_51, wbytesn_52, wbytesn_53, wbytesn_54, wbytesn_55, wbytesn_56, wbytesn_57, wbytesn_58, wbytesn_59, wbytesn_60, wbytesn_61, wbytesn_62, wbytesn_63, wbytesn_64, wbytesn_65, wbytesn_66, wbytesn_67, wbytesn_68, wbytesn_69, wbytesn_70, wbytesn_71, wbytesn_72, wbytesn_73, wbytesn_74, wbytesn_75, wbytesn_76, wbytesn_77, wbytesn_78, wbytesn_79]
end
theorem vcbytesn_0 : VD TTbytesn (st0 cBytesN) wbytesn_0 := by
 intro ρ kn hp
 have hF : ρ.z.F = oct.Φ := kn.F
 simp only [h_nil, h_cons, d_le, d_eq, d_not, d_lit, d_fn, IE.den, LE.den, AL.den, lenV, true_and, and_true, hF, pi2, pl1, pb10, pb11, pb12, pl7, pl9] at hp
 obtain ⟨_, _, _, _, _, _, _, _, _, _, _, _, _, _, _, _, _, _, _, _, _, _, _, _⟩ := hp
 exfalso
 all_goals
  have q0 : shpR (ρ.i .i64 1) (ρ.i .i64 2) (ρ.i .i64 3) = true := by assumption
  have q := ask_n (by assumption) q0
  obtain ⟨b1, b2, b3⟩ := shp_b q0
  try rw [wrap_1 (x := ρ.i .i64 2) (by omega)] at *
  try rw [wrap_1 (x := ρ.i .i64 3) (by omega)] at *
  exfalso
  omega
theorem vcbytesn_1 : VD TTbytesn (st0 cBytesN) wbytesn_1 := by
 intro ρ kn hp
 exact all_nil
theorem vcbytesn_2 : VD TTbytesn (st0 cBytesN) wbytesn_2 := by
 intro ρ kn hp
 exact all_nil
theorem vcbytesn_3 : VD TTbytesn (st0 cBytesN) wbytesn_3 := by
 intro ρ kn hp
 exact all_nil
theorem vcbytesn_4 : VD TTbytesn (st0 cBytesN) wbytesn_4 := by
 intro ρ kn hp
 exact all_nil
theorem vcbytesn_5 : VD TTbytesn (st0 cBytesN) wbytesn_5 := by
 intro ρ kn hp
 exact all_nil
theorem vcbytesn_6 : VD TTbytesn (st0 cBytesN) wbytesn_6 := by
 intro ρ kn hp
 exact all_nil
theorem vcbytesn_7 : VD TTbytesn (st0 cBytesN) wbytesn_7 := by
 intro ρ kn hp
 exact all_nil
theorem vcbytesn_8 : VD TTbytesn (st0 cBytesN) wbytesn_8 := by
 intro ρ kn hp
 exact all_nil
theorem vcbytesn_9 : VD TTbytesn (st0 cBytesN) wbytesn_9 := by
 intro ρ kn hp
 exact all_nil
theorem vcbytesn_10 : VD TTbytesn (st0 cBytesN) wbytesn_10 := by
 intro ρ kn hp
 exact all_nil
theorem vcbytesn_11 : VD TTbytesn (st0 cBytesN) wbytesn_11 := by
 intro ρ kn hp
 exact all_nil
theorem vcbytesn_12 : VD TTbytesn (st0 cBytesN) wbytesn_12 := by
 intro ρ kn hp
 have hF : ρ.z.F = oct.Φ := kn.F
 simp only [h_nil, h_cons, d_le, d_eq, d_not, d_lit, d_fn, IE.den, LE.den, AL.den, lenV, true_and, and_true, hF, pi2, pl1, pb10, pb11, pb12, pl7, pl9] at hp
 obtain ⟨_, _, _, _, _, _, _, _, _, _, _, _, _, _, _, _, _, _, _, _, _, _⟩ := hp
 exfalso
 all_goals
  have q0 : shpR (ρ.i .i64 1) (ρ.i .i64 2) (ρ.i .i64 3) = true := by assumption
  have q := ask_n (by assumption) q0
  obtain ⟨b1, b2, b3⟩ := shp_b q0
  try rw [wrap_1 (x := ρ.i .i64 2) (by omega)] at *
  try rw [wrap_1 (x := ρ.i .i64 3) (by omega)] at *
  exfalso
  omega
theorem vcbytesn_13 : VD TTbytesn (st0 cBytesN) wbytesn_13 := by
 intro ρ kn hp
 exact all_nil
theorem vcbytesn_14 : VD TTbytesn (st0 cBytesN) wbytesn_14 := by
 intro ρ kn hp
 exact all_nil
theorem vcbytesn_15 : VD TTbytesn (st0 cBytesN) wbytesn_15 := by
 intro ρ kn hp
 exact all_nil
theorem vcbytesn_16 : VD TTbytesn (st0 cBytesN) wbytesn_16 := by
 intro ρ kn hp
 exact all_nil
theorem vcbytesn_17 : VD TTbytesn (st0 cBytesN) wbytesn_17 := by
 intro ρ kn hp
 exact all_nil
theorem vcbytesn_18 : VD TTbytesn (st0 cBytesN) wbytesn_18 := by
 intro ρ kn hp
 exact all_nil
theorem vcbytesn_19 : VD TTbytesn (st0 cBytesN) wbytesn_19 := by
 intro ρ kn hp
 exact all_nil
theorem vcbytesn_20 : VD TTbytesn (st0 cBytesN) wbytesn_20 := by
 intro ρ kn hp
 exact all_nil
theorem vcbytesn_21 : VD TTbytesn (st0 cBytesN) wbytesn_21 := by
 intro ρ kn hp
 exact all_nil
theorem vcbytesn_22 : VD TTbytesn (st0 cBytesN) wbytesn_22 := by
 intro ρ kn hp
 exact all_nil
theorem vcbytesn_23 : VD TTbytesn (st0 cBytesN) wbytesn_23 := by
 intro ρ kn hp
 have hF : ρ.z.F = oct.Φ := kn.F
 simp only [h_nil, h_cons, d_le, d_eq, d_not, d_lit, d_fn, IE.den, LE.den, AL.den, lenV, true_and, and_true, hF, pi2, pl1, pb10, pb11, pb12, pl7, pl9] at hp
 obtain ⟨_, _, _, _, _, _, _, _, _, _, _, _, _, _, _, _, _, _, _, _, _, _, _⟩ := hp
 exfalso
 all_goals
  have q0 : shpR (ρ.i .i64 1) (ρ.i .i64 2) (ρ.i .i64 3) = true := by assumption
  have q := ask_n (by assumption) q0
  obtain ⟨b1, b2, b3⟩ := shp_b q0
  try rw [wrap_1 (x := ρ.i .i64 2) (by omega)] at *
  try rw [wrap_1 (x := ρ.i .i64 3) (by omega)] at *
  exfalso
  omega
theorem vcbytesn_24 : VD TTbytesn (st0 cBytesN) wbytesn_24 := by
 intro ρ kn hp
 exact all_nil
theorem vcbytesn_25 : VD TTbytesn (st0 cBytesN) wbytesn_25 := by
 intro ρ kn hp
 exact all_nil
theorem vcbytesn_26 : VD TTbytesn (st0 cBytesN) wbytesn_26 := by
 intro ρ kn hp
 exact all_nil
theorem vcbytesn_27 : VD TTbytesn (st0 cBytesN) wbytesn_27 := by
 intro ρ kn hp
 exact all_nil
theorem vcbytesn_28 : VD TTbytesn (st0 cBytesN) wbytesn_28 := by
 intro ρ kn hp
 exact all_nil
theorem vcbytesn_29 : VD TTbytesn (st0 cBytesN) wbytesn_29 := by
 intro ρ kn hp
 exact all_nil
theorem vcbytesn_30 : VD TTbytesn (st0 cBytesN) wbytesn_30 := by
 intro ρ kn hp
 exact all_nil
theorem vcbytesn_31 : VD TTbytesn (st0 cBytesN) wbytesn_31 := by
 intro ρ kn hp
 exact all_nil
theorem vcbytesn_32 : VD TTbytesn (st0 cBytesN) wbytesn_32 := by
 intro ρ kn hp
 exact all_nil
theorem vcbytesn_33 : VD TTbytesn (st0 cBytesN) wbytesn_33 := by
 intro ρ kn hp
 exact all_nil
theorem vcbytesn_34 : VD TTbytesn (st0 cBytesN) wbytesn_34 := by
 intro ρ kn hp
 have hF : ρ.z.F = oct.Φ := kn.F
 simp only [h_nil, h_cons, d_le, d_eq, d_not, d_lit, d_fn, IE.den, LE.den, AL.den, lenV, true_and, and_true, hF, pi2, pl1, pb10, pb11, pb12, pl7, pl9] at hp
 obtain ⟨_, _, _, _, _, _, _, _, _, _, _, _, _, _, _, _, _, _, _, _, _, _, _, _⟩ := hp
 exfalso
 all_goals
  have q0 : shpR (ρ.i .i64 1) (ρ.i .i64 2) (ρ.i .i64 3) = true := by assumption
  have q := ask_n (by assumption) q0
  obtain ⟨b1, b2, b3⟩ := shp_b q0
  try rw [wrap_1 (x := ρ.i .i64 2) (by omega)] at *
  try rw [wrap_1 (x := ρ.i .i64 3) (by omega)] at *
  exfalso
  omega
theorem vcbytesn_35 : VD TTbytesn (st0 cBytesN) wbytesn_35 := by
 intro ρ kn hp
 exact all_nil
theorem vcbytesn_36 : VD TTbytesn (st0 cBytesN) wbytesn_36 := by
 intro ρ kn hp
 exact all_nil
theorem vcbytesn_37 : VD TTbytesn (st0 cBytesN) wbytesn_37 := by
 intro ρ kn hp
 exact all_nil
theorem vcbytesn_38 : VD TTbytesn (st0 cBytesN) wbytesn_38 := by
 intro ρ kn hp
 exact all_nil
theorem vcbytesn_39 : VD TTbytesn (st0 cBytesN) wbytesn_39 := by
 intro ρ kn hp
 exact all_nil
theorem vcbytesn_40 : VD TTbytesn (st0 cBytesN) wbytesn_40 := by
 intro ρ kn hp
 exact all_nil
theorem vcbytesn_41 : VD TTbytesn (st0 cBytesN) wbytesn_41 := by
 intro ρ kn hp
 exact all_nil
theorem vcbytesn_42 : VD TTbytesn (st0 cBytesN) wbytesn_42 := by
 intro ρ kn hp
 exact all_nil
theorem vcbytesn_43 : VD TTbytesn (st0 cBytesN) wbytesn_43 := by
 intro ρ kn hp
 exact all_nil
theorem vcbytesn_44 : VD TTbytesn (st0 cBytesN) wbytesn_44 := by
 intro ρ kn hp
 exact all_nil
theorem vcbytesn_45 : VD TTbytesn (st0 cBytesN) wbytesn_45 := by
 intro ρ kn hp
 have hF : ρ.z.F = oct.Φ := kn.F
 simp only [h_nil, h_cons, d_le, d_eq, d_not, d_lit, d_fn, IE.den, LE.den, AL.den, lenV, true_and, and_true, hF, pi2, pl1, pb10, pb11, pb12, pl7, pl9] at hp
 obtain ⟨_, _, _, _, _, _, _, _, _, _, _, _, _, _, _, _, _, _, _, _, _, _, _, _, _⟩ := hp
 exfalso
 all_goals
  have q0 : shpR (ρ.i .i64 1) (ρ.i .i64 2) (ρ.i .i64 3) = true := by assumption
  have q := ask_n (by assumption) q0
  obtain ⟨b1, b2, b3⟩ := shp_b q0
  try rw [wrap_1 (x := ρ.i .i64 2) (by omega)] at *
  try rw [wrap_1 (x := ρ.i .i64 3) (by omega)] at *
  exfalso
  omega
theorem vcbytesn_46 : VD TTbytesn (st0 cBytesN) wbytesn_46 := by
 intro ρ kn hp
 exact all_nil
theorem vcbytesn_47 : VD TTbytesn (st0 cBytesN) wbytesn_47 := by
 intro ρ kn hp
 exact all_nil
theorem vcbytesn_48 : VD TTbytesn (st0 cBytesN) wbytesn_48 := by
 intro ρ kn hp
 exact all_nil
theorem vcbytesn_49 : VD TTbytesn (st0 cBytesN) wbytesn_49 := by
 intro ρ kn hp
 exact all_nil
theorem vcbytesn_50 : VD TTbytesn (st0 cBytesN) wbytesn_50 := by
 intro ρ kn hp
 exact all_nil
theorem vcbytesn_51 : VD TTbytesn (st0 cBytesN) wbytesn_51 := by
 intro ρ kn hp
 exact all_nil
theorem vcbytesn_52 : VD TTbytesn (st0 cBytesN) wbytesn_52 := by
 intro ρ kn hp
 exact all_nil
theorem vcbytesn_53 : VD TTbytesn (st0 cBytesN) wbytesn_53 := by
 intro ρ kn hp
 exact all_nil
theorem vcbytesn_54 : VD TTbytesn (st0 cBytesN) wbytesn_54 := by
 intro ρ kn hp
 exact all_nil
theorem vcbytesn_55 : VD TTbytesn (st0 cBytesN) wbytesn_55 := by
 intro ρ kn hp
 exact all_nil
theorem vcbytesn_56 : VD TTbytesn (st0 cBytesN) wbytesn_56 := by
 intro ρ kn hp
 have hF : ρ.z.F = oct.Φ := kn.F
 simp only [h_nil, h_cons, d_le, d_eq, d_not, d_lit, d_fn, IE.den, LE.den, AL.den, lenV, true_and, and_true, hF, pi2, pl1, pb10, pb11, pb12, pl7, pl9] at hp
 obtain ⟨_, _, _, _, _, _, _, _, _, _, _, _, _, _, _, _, _, _, _, _, _, _, _, _, _, _⟩ := hp
 exfalso
 all_goals
  have q0 : shpR (ρ.i .i64 1) (ρ.i .i64 2) (ρ.i .i64 3) = true := by assumption
  have q := ask_n (by assumption) q0
  obtain ⟨b1, b2, b3⟩ := shp_b q0
  try rw [wrap_1 (x := ρ.i .i64 2) (by omega)] at *
  try rw [wrap_1 (x := ρ.i .i64 3) (by omega)] at *
  exfalso
  omega
theorem vcbytesn_57 : VD TTbytesn (st0 cBytesN) wbytesn_57 := by
 intro ρ kn hp
 exact all_nil
theorem vcbytesn_58 : VD TTbytesn (st0 cBytesN) wbytesn_58 := by
 intro ρ kn hp
 exact all_nil
theorem vcbytesn_59 : VD TTbytesn (st0 cBytesN) wbytesn_59 := by
 intro ρ kn hp
 exact all_nil
theorem vcbytesn_60 : VD TTbytesn (st0 cBytesN) wbytesn_60 := by
 intro ρ kn hp
 exact all_nil
theorem vcbytesn_61 : VD TTbytesn (st0 cBytesN) wbytesn_61 := by
 intro ρ kn hp
 exact all_nil
theorem vcbytesn_62 : VD TTbytesn (st0 cBytesN) wbytesn_62 := by
 intro ρ kn hp
 exact all_nil
theorem vcbytesn_63 : VD TTbytesn (st0 cBytesN) wbytesn_63 := by
 intro ρ kn hp
 exact all_nil
theorem vcbytesn_64 : VD TTbytesn (st0 cBytesN) wbytesn_64 := by
 intro ρ kn hp
 exact all_nil
theorem vcbytesn_65 : VD TTbytesn (st0 cBytesN) wbytesn_65 := by
 intro ρ kn hp
 exact all_nil
theorem vcbytesn_66 : VD TTbytesn (st0 cBytesN) wbytesn_66 := by
 intro ρ kn hp
 exact all_nil
theorem vcbytesn_67 : VD TTbytesn (st0 cBytesN) wbytesn_67 := by
 intro ρ kn hp
 exact all_nil
theorem vcbytesn_68 : VD TTbytesn (st0 cBytesN) wbytesn_68 := by
 intro ρ kn hp
 have hF : ρ.z.F = oct.Φ := kn.F
 simp only [h_nil, h_cons, d_le, d_eq, d_not, d_lit, d_fn, IE.den, LE.den, AL.den, lenV, true_and, and_true, hF, pi2, pl1, pb10, pb11, pb12, pl7, pl9] at hp
 obtain ⟨_, _, _, _, _, _, _, _, _, _, _, _, _, _, _, _, _, _, _, _, _, _, _, _, _, _, _, _, _⟩ := hp
 exfalso
 all_goals
  have q0 : shpR (ρ.i .i64 1) (ρ.i .i64 2) (ρ.i .i64 3) = true := by assumption
  have q := ask_n (by assumption) q0
  obtain ⟨b1, b2, b3⟩ := shp_b q0
  try rw [wrap_1 (x := ρ.i .i64 2) (by omega)] at *
  try rw [wrap_1 (x := ρ.i .i64 3) (by omega)] at *
  exfalso
  omega
theorem vcbytesn_69 : VD TTbytesn (st0 cBytesN) wbytesn_69 := by
 intro ρ kn hp
 exact all_nil
theorem vcbytesn_70 : VD TTbytesn (st0 cBytesN) wbytesn_70 := by
 intro ρ kn hp
 exact all_nil
theorem vcbytesn_71 : VD TTbytesn (st0 cBytesN) wbytesn_71 := by
 intro ρ kn hp
 exact all_nil
theorem vcbytesn_72 : VD TTbytesn (st0 cBytesN) wbytesn_72 := by
 intro ρ kn hp
 exact all_nil
theorem vcbytesn_73 : VD TTbytesn (st0 cBytesN) wbytesn_73 := by
 intro ρ kn hp
 exact all_nil
theorem vcbytesn_74 : VD TTbytesn (st0 cBytesN) wbytesn_74 := by
 intro ρ kn hp
 exact all_nil
theorem vcbytesn_75 : VD TTbytesn (st0 cBytesN) wbytesn_75 := by
 intro ρ kn hp
 exact all_nil
theorem vcbytesn_76 : VD TTbytesn (st0 cBytesN) wbytesn_76 := by
 intro ρ kn hp
 exact all_nil
theorem vcbytesn_77 : VD TTbytesn (st0 cBytesN) wbytesn_77 := by
 intro ρ kn hp
 exact all_nil
theorem vcbytesn_78 : VD TTbytesn (st0 cBytesN) wbytesn_78 := by
 intro ρ kn hp
 exact all_nil
theorem vcbytesn_79 : VD TTbytesn (st0 cBytesN) wbytesn_79 := by
 intro ρ kn hp
 exact all_nil
theorem told_bytesn : Sx.Told oct.Φ cBytesN := told_vw (cs := [cShp, cShpN, cNumber, cSigned]) (all_cons told_shp (all_cons told_shpn (all_cons told_number (all_cons told_signed (all_nil))))) 9000 vwbytesn (by kernel_rfl) (by kernel_rfl) (by kernel_rfl) (post_nil rfl) (by kernel_rfl) (by kernel_rfl) (all_cons vcbytesn_0 (all_cons vcbytesn_1 (all_cons vcbytesn_2 (all_cons vcbytesn_3 (all_cons vcbytesn_4 (all_cons vcbytesn_5 (all_cons vcbytesn_6 (all_cons vcbytesn_7 (all_cons vcbytesn_8 (all_cons vcbytesn_9 (all_cons vcbytesn_10 (all_cons vcbytesn_11 (all_cons vcbytesn_12 (all_cons vcbytesn_13 (all_cons vcbytesn_14 (all_cons vcbytesn_15 (all_cons vcbytesn_16 (all_cons vcbytesn_17 (all_cons vcbytesn_18 (all_cons vcbytesn_19 (all_cons vcbytesn_20 (all_cons vcbytesn_21 (all_cons vcbytesn_22 (all_cons vcbytesn_23 (all_cons vcbytesn_24 (all_cons vcbytesn_25 (all_cons vcbytesn_26 (all_cons vcbytesn_27 (all_cons vcbytesn_28 (all_cons vcbytesn_29 (all_cons vcbytesn_30 (all_cons vcbytesn_31 (all_cons vcbytesn_32 (all_cons vcbytesn_33 (all_cons vcbytesn_34 (all_cons vcbytesn_35 (all_cons vcbytesn_36 (all_cons vcbytesn_37 (all_cons vcbytesn_38 (all_cons vcbytesn_39 (all_cons vcbytesn_40 (all_cons vcbytesn_41 (all_cons vcbytesn_42 (all_cons vcbytesn_43 (all_cons vcbytesn_44 (all_cons vcbytesn_45 (all_cons vcbytesn_46 (all_cons vcbytesn_47 (all_cons vcbytesn_48 (all_cons vcbytesn_49 (all_cons vcbytesn_50 (all_cons vcbytesn_51 (all_cons vcbytesn_52 (all_cons vcbytesn_53 (all_cons vcbytesn_54 (all_cons vcbytesn_55 (all_cons vcbytesn_56 (all_cons vcbytesn_57 (all_cons vcbytesn_58 (all_cons vcbytesn_59 (all_cons vcbytesn_60 (all_cons vcbytesn_61 (all_cons vcbytesn_62 (all_cons vcbytesn_63 (all_cons vcbytesn_64 (all_cons vcbytesn_65 (all_cons vcbytesn_66 (all_cons vcbytesn_67 (all_cons vcbytesn_68 (all_cons vcbytesn_69 (all_cons vcbytesn_70 (all_cons vcbytesn_71 (all_cons vcbytesn_72 (all_cons vcbytesn_73 (all_cons vcbytesn_74 (all_cons vcbytesn_75 (all_cons vcbytesn_76 (all_cons vcbytesn_77 (all_cons vcbytesn_78 (all_cons vcbytesn_79 (all_nil)))))))))))))))))))))))))))))))))))))))))))))))))))))))))))))))))))))))))))))))))
end Go.Proofs.Ythenenacmiiphaa.oct
