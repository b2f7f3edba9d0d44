/- Layer octet: laws. No condition. -/
import Derived.Test.YtjgkaimgocnkmaaQl
set_option linter.unusedVariables false
set_option linter.unusedSimpArgs false
set_option linter.deprecated false
namespace Go.Proofs.Ytjgkaimgocnkmaa.oct
open Go Go.Proofs.Ytjgkaimgocnkmaa.Sx
noncomputable section
abbrev TTholds : Tab := T oct.Φ cHolds.roms [cWorks, cNumber, cSigned, cRNumber, cRSigned, cRead, cSRead, cRRead, cRSRead]
def pcholds_0 : List BE := [(BE.le (IE.lit 1) (IE.len (LE.fn 1 (AL.int .u64 (IE.fn .u64 2 (AL.int .i64 (IE.var .i64 4) AL.nil)) AL.nil)))), (BE.le (IE.len (LE.fn 1 (AL.int .u64 (IE.fn .u64 2 (AL.int .i64 (IE.var .i64 4) AL.nil)) AL.nil))) (IE.lit 10)), (BE.le (IE.lit 1) (IE.len (LE.fn 1 (AL.int .u64 (IE.fn .u64 2 (AL.int .i64 (IE.var .i64 3) AL.nil)) AL.nil)))), (BE.le (IE.len (LE.fn 1 (AL.int .u64 (IE.fn .u64 2 (AL.int .i64 (IE.var .i64 3) AL.nil)) AL.nil))) (IE.lit 10)), (BE.le (IE.lit 1) (IE.len (LE.fn 1 (AL.int .u64 (IE.var .u64 2) AL.nil)))), (BE.le (IE.len (LE.fn 1 (AL.int .u64 (IE.var .u64 2) AL.nil))) (IE.lit 10)), (BE.le (IE.lit 1) (IE.len (LE.fn 1 (AL.int .u64 (IE.var .u64 1) AL.nil)))), (BE.le (IE.len (LE.fn 1 (AL.int .u64 (IE.var .u64 1) AL.nil))) (IE.lit 10)), (BE.lit true)]
def pcholds_1 : List BE := ((BE.le (IE.len (LE.fn 1 (AL.int .u64 (IE.var .u64 1) AL.nil))) (IE.len (LE.fn 1 (AL.int .u64 (IE.var .u64 2) AL.nil)))) :: pcholds_0)
def pcholds_2 : List BE := ((BE.not (BE.le (IE.len (LE.fn 1 (AL.int .u64 (IE.var .u64 1) AL.nil))) (IE.len (LE.fn 1 (AL.int .u64 (IE.var .u64 2) AL.nil))))) :: pcholds_0)
def pcholds_3 : List BE := ((BE.leq (LE.fn 1 (AL.int .u64 (IE.var .u64 1) AL.nil)) (LE.take (LE.fn 1 (AL.int .u64 (IE.var .u64 2) AL.nil)) (IE.len (LE.fn 1 (AL.int .u64 (IE.var .u64 1) AL.nil))))) :: pcholds_1)
def pcholds_4 : List BE := ((BE.not (BE.leq (LE.fn 1 (AL.int .u64 (IE.var .u64 1) AL.nil)) (LE.take (LE.fn 1 (AL.int .u64 (IE.var .u64 2) AL.nil)) (IE.len (LE.fn 1 (AL.int .u64 (IE.var .u64 1) AL.nil)))))) :: pcholds_1)
def pcholds_5 : List BE := ((BE.leq (LE.take (LE.fn 1 (AL.int .u64 (IE.var .u64 1) AL.nil)) (IE.len (LE.fn 1 (AL.int .u64 (IE.var .u64 2) AL.nil)))) (LE.fn 1 (AL.int .u64 (IE.var .u64 2) AL.nil))) :: pcholds_2)
def pcholds_6 : List BE := ((BE.not (BE.leq (LE.take (LE.fn 1 (AL.int .u64 (IE.var .u64 1) AL.nil)) (IE.len (LE.fn 1 (AL.int .u64 (IE.var .u64 2) AL.nil)))) (LE.fn 1 (AL.int .u64 (IE.var .u64 2) AL.nil)))) :: pcholds_2)
def pcholds_7 : List BE := ((BE.eq (IE.var .u64 1) (IE.var .u64 2)) :: pcholds_3)
def pcholds_8 : List BE := ((BE.not (BE.eq (IE.var .u64 1) (IE.var .u64 2))) :: pcholds_4)
def pcholds_9 : List BE := ((BE.eq (IE.var .u64 1) (IE.var .u64 2)) :: pcholds_5)
def pcholds_10 : List BE := ((BE.not (BE.eq (IE.var .u64 1) (IE.var .u64 2))) :: pcholds_6)
def pcholds_11 : List BE := ((BE.le (IE.len (LE.fn 1 (AL.int .u64 (IE.fn .u64 2 (AL.int .i64 (IE.var .i64 3) AL.nil)) AL.nil))) (IE.len (LE.fn 1 (AL.int .u64 (IE.fn .u64 2 (AL.int .i64 (IE.var .i64 4) AL.nil)) AL.nil)))) :: pcholds_7)
def pcholds_12 : List BE := ((BE.not (BE.le (IE.len (LE.fn 1 (AL.int .u64 (IE.fn .u64 2 (AL.int .i64 (IE.var .i64 3) AL.nil)) AL.nil))) (IE.len (LE.fn 1 (AL.int .u64 (IE.fn .u64 2 (AL.int .i64 (IE.var .i64 4) AL.nil)) AL.nil))))) :: pcholds_7)
def pcholds_13 : List BE := ((BE.le (IE.len (LE.fn 1 (AL.int .u64 (IE.fn .u64 2 (AL.int .i64 (IE.var .i64 3) AL.nil)) AL.nil))) (IE.len (LE.fn 1 (AL.int .u64 (IE.fn .u64 2 (AL.int .i64 (IE.var .i64 4) AL.nil)) AL.nil)))) :: pcholds_8)
def pcholds_14 : List BE := ((BE.not (BE.le (IE.len (LE.fn 1 (AL.int .u64 (IE.fn .u64 2 (AL.int .i64 (IE.var .i64 3) AL.nil)) AL.nil))) (IE.len (LE.fn 1 (AL.int .u64 (IE.fn .u64 2 (AL.int .i64 (IE.var .i64 4) AL.nil)) AL.nil))))) :: pcholds_8)
def pcholds_15 : List BE := ((BE.le (IE.len (LE.fn 1 (AL.int .u64 (IE.fn .u64 2 (AL.int .i64 (IE.var .i64 3) AL.nil)) AL.nil))) (IE.len (LE.fn 1 (AL.int .u64 (IE.fn .u64 2 (AL.int .i64 (IE.var .i64 4) AL.nil)) AL.nil)))) :: pcholds_9)
def pcholds_16 : List BE := ((BE.not (BE.le (IE.len (LE.fn 1 (AL.int .u64 (IE.fn .u64 2 (AL.int .i64 (IE.var .i64 3) AL.nil)) AL.nil))) (IE.len (LE.fn 1 (AL.int .u64 (IE.fn .u64 2 (AL.int .i64 (IE.var .i64 4) AL.nil)) AL.nil))))) :: pcholds_9)
def pcholds_17 : List BE := ((BE.le (IE.len (LE.fn 1 (AL.int .u64 (IE.fn .u64 2 (AL.int .i64 (IE.var .i64 3) AL.nil)) AL.nil))) (IE.len (LE.fn 1 (AL.int .u64 (IE.fn .u64 2 (AL.int .i64 (IE.var .i64 4) AL.nil)) AL.nil)))) :: pcholds_10)
def pcholds_18 : List BE := ((BE.not (BE.le (IE.len (LE.fn 1 (AL.int .u64 (IE.fn .u64 2 (AL.int .i64 (IE.var .i64 3) AL.nil)) AL.nil))) (IE.len (LE.fn 1 (AL.int .u64 (IE.fn .u64 2 (AL.int .i64 (IE.var .i64 4) AL.nil)) AL.nil))))) :: pcholds_10)
def pcholds_19 : List BE := ((BE.leq (LE.fn 1 (AL.int .u64 (IE.fn .u64 2 (AL.int .i64 (IE.var .i64 3) AL.nil)) AL.nil)) (LE.take (LE.fn 1 (AL.int .u64 (IE.fn .u64 2 (AL.int .i64 (IE.var .i64 4) AL.nil)) AL.nil)) (IE.len (LE.fn 1 (AL.int .u64 (IE.fn .u64 2 (AL.int .i64 (IE.var .i64 3) AL.nil)) AL.nil))))) :: pcholds_11)
def pcholds_20 : List BE := ((BE.not (BE.leq (LE.fn 1 (AL.int .u64 (IE.fn .u64 2 (AL.int .i64 (IE.var .i64 3) AL.nil)) AL.nil)) (LE.take (LE.fn 1 (AL.int .u64 (IE.fn .u64 2 (AL.int .i64 (IE.var .i64 4) AL.nil)) AL.nil)) (IE.len (LE.fn 1 (AL.int .u64 (IE.fn .u64 2 (AL.int .i64 (IE.var .i64 3) AL.nil)) AL.nil)))))) :: pcholds_11)
def pcholds_21 : List BE := ((BE.leq (LE.take (LE.fn 1 (AL.int .u64 (IE.fn .u64 2 (AL.int .i64 (IE.var .i64 3) AL.nil)) AL.nil)) (IE.len (LE.fn 1 (AL.int .u64 (IE.fn .u64 2 (AL.int .i64 (IE.var .i64 4) AL.nil)) AL.nil)))) (LE.fn 1 (AL.int .u64 (IE.fn .u64 2 (AL.int .i64 (IE.var .i64 4) AL.nil)) AL.nil))) :: pcholds_12)
def pcholds_22 : List BE := ((BE.not (BE.leq (LE.take (LE.fn 1 (AL.int .u64 (IE.fn .u64 2 (AL.int .i64 (IE.var .i64 3) AL.nil)) AL.nil)) (IE.len (LE.fn 1 (AL.int .u64 (IE.fn .u64 2 (AL.int .i64 (IE.var .i64 4) AL.nil)) AL.nil)))) (LE.fn 1 (AL.int .u64 (IE.fn .u64 2 (AL.int .i64 (IE.var .i64 4) AL.nil)) AL.nil)))) :: pcholds_12)
def pcholds_23 : List BE := ((BE.leq (LE.fn 1 (AL.int .u64 (IE.fn .u64 2 (AL.int .i64 (IE.var .i64 3) AL.nil)) AL.nil)) (LE.take (LE.fn 1 (AL.int .u64 (IE.fn .u64 2 (AL.int .i64 (IE.var .i64 4) AL.nil)) AL.nil)) (IE.len (LE.fn 1 (AL.int .u64 (IE.fn .u64 2 (AL.int .i64 (IE.var .i64 3) AL.nil)) AL.nil))))) :: pcholds_13)
def pcholds_24 : List BE := ((BE.not (BE.leq (LE.fn 1 (AL.int .u64 (IE.fn .u64 2 (AL.int .i64 (IE.var .i64 3) AL.nil)) AL.nil)) (LE.take (LE.fn 1 (AL.int .u64 (IE.fn .u64 2 (AL.int .i64 (IE.var .i64 4) AL.nil)) AL.nil)) (IE.len (LE.fn 1 (AL.int .u64 (IE.fn .u64 2 (AL.int .i64 (IE.var .i64 3) AL.nil)) AL.nil)))))) :: pcholds_13)
def pcholds_25 : List BE := ((BE.leq (LE.take (LE.fn 1 (AL.int .u64 (IE.fn .u64 2 (AL.int .i64 (IE.var .i64 3) AL.nil)) AL.nil)) (IE.len (LE.fn 1 (AL.int .u64 (IE.fn .u64 2 (AL.int .i64 (IE.var .i64 4) AL.nil)) AL.nil)))) (LE.fn 1 (AL.int .u64 (IE.fn .u64 2 (AL.int .i64 (IE.var .i64 4) AL.nil)) AL.nil))) :: pcholds_14)
def pcholds_26 : List BE := ((BE.not (BE.leq (LE.take (LE.fn 1 (AL.int .u64 (IE.fn .u64 2 (AL.int .i64 (IE.var .i64 3) AL.nil)) AL.nil)) (IE.len (LE.fn 1 (AL.int .u64 (IE.fn .u64 2 (AL.int .i64 (IE.var .i64 4) AL.nil)) AL.nil)))) (LE.fn 1 (AL.int .u64 (IE.fn .u64 2 (AL.int .i64 (IE.var .i64 4) AL.nil)) AL.nil)))) :: pcholds_14)
def pcholds_27 : List BE := ((BE.leq (LE.fn 1 (AL.int .u64 (IE.fn .u64 2 (AL.int .i64 (IE.var .i64 3) AL.nil)) AL.nil)) (LE.take (LE.fn 1 (AL.int .u64 (IE.fn .u64 2 (AL.int .i64 (IE.var .i64 4) AL.nil)) AL.nil)) (IE.len (LE.fn 1 (AL.int .u64 (IE.fn .u64 2 (AL.int .i64 (IE.var .i64 3) AL.nil)) AL.nil))))) :: pcholds_15)
def pcholds_28 : List BE := ((BE.not (BE.leq (LE.fn 1 (AL.int .u64 (IE.fn .u64 2 (AL.int .i64 (IE.var .i64 3) AL.nil)) AL.nil)) (LE.take (LE.fn 1 (AL.int .u64 (IE.fn .u64 2 (AL.int .i64 (IE.var .i64 4) AL.nil)) AL.nil)) (IE.len (LE.fn 1 (AL.int .u64 (IE.fn .u64 2 (AL.int .i64 (IE.var .i64 3) AL.nil)) AL.nil)))))) :: pcholds_15)
def pcholds_29 : List BE := ((BE.leq (LE.take (LE.fn 1 (AL.int .u64 (IE.fn .u64 2 (AL.int .i64 (IE.var .i64 3) AL.nil)) AL.nil)) (IE.len (LE.fn 1 (AL.int .u64 (IE.fn .u64 2 (AL.int .i64 (IE.var .i64 4) AL.nil)) AL.nil)))) (LE.fn 1 (AL.int .u64 (IE.fn .u64 2 (AL.int .i64 (IE.var .i64 4) AL.nil)) AL.nil))) :: pcholds_16)
def pcholds_30 : List BE := ((BE.not (BE.leq (LE.take (LE.fn 1 (AL.int .u64 (IE.fn .u64 2 (AL.int .i64 (IE.var .i64 3) AL.nil)) AL.nil)) (IE.len (LE.fn 1 (AL.int .u64 (IE.fn .u64 2 (AL.int .i64 (IE.var .i64 4) AL.nil)) AL.nil)))) (LE.fn 1 (AL.int .u64 (IE.fn .u64 2 (AL.int .i64 (IE.var .i64 4) AL.nil)) AL.nil)))) :: pcholds_16)
def pcholds_31 : List BE := ((BE.leq (LE.fn 1 (AL.int .u64 (IE.fn .u64 2 (AL.int .i64 (IE.var .i64 3) AL.nil)) AL.nil)) (LE.take (LE.fn 1 (AL.int .u64 (IE.fn .u64 2 (AL.int .i64 (IE.var .i64 4) AL.nil)) AL.nil)) (IE.len (LE.fn 1 (AL.int .u64 (IE.fn .u64 2 (AL.int .i64 (IE.var .i64 3) AL.nil)) AL.nil))))) :: pcholds_17)
def pcholds_32 : List BE := ((BE.not (BE.leq (LE.fn 1 (AL.int .u64 (IE.fn .u64 2 (AL.int .i64 (IE.var .i64 3) AL.nil)) AL.nil)) (LE.take (LE.fn 1 (AL.int .u64 (IE.fn .u64 2 (AL.int .i64 (IE.var .i64 4) AL.nil)) AL.nil)) (IE.len (LE.fn 1 (AL.int .u64 (IE.fn .u64 2 (AL.int .i64 (IE.var .i64 3) AL.nil)) AL.nil)))))) :: pcholds_17)
def pcholds_33 : List BE := ((BE.leq (LE.take (LE.fn 1 (AL.int .u64 (IE.fn .u64 2 (AL.int .i64 (IE.var .i64 3) AL.nil)) AL.nil)) (IE.len (LE.fn 1 (AL.int .u64 (IE.fn .u64 2 (AL.int .i64 (IE.var .i64 4) AL.nil)) AL.nil)))) (LE.fn 1 (AL.int .u64 (IE.fn .u64 2 (AL.int .i64 (IE.var .i64 4) AL.nil)) AL.nil))) :: pcholds_18)
def pcholds_34 : List BE := ((BE.not (BE.leq (LE.take (LE.fn 1 (AL.int .u64 (IE.fn .u64 2 (AL.int .i64 (IE.var .i64 3) AL.nil)) AL.nil)) (IE.len (LE.fn 1 (AL.int .u64 (IE.fn .u64 2 (AL.int .i64 (IE.var .i64 4) AL.nil)) AL.nil)))) (LE.fn 1 (AL.int .u64 (IE.fn .u64 2 (AL.int .i64 (IE.var .i64 4) AL.nil)) AL.nil)))) :: pcholds_18)
def wholds_0 : VW := (VW.done ((BE.eq (IE.var .i64 3) (IE.var .i64 4)) :: pcholds_19) (some []))
def wholds_1 : VW := (VW.done ((BE.not (BE.eq (IE.var .i64 3) (IE.var .i64 4))) :: pcholds_19) (some [(G.b (BE.lit true) (BE.lit false))]))
def wholds_2 : VW := (VW.done ((BE.eq (IE.var .i64 3) (IE.var .i64 4)) :: pcholds_20) (some [(G.b (BE.lit true) (BE.lit false))]))
def wholds_3 : VW := (VW.done ((BE.not (BE.eq (IE.var .i64 3) (IE.var .i64 4))) :: pcholds_20) (some []))
def wholds_4 : VW := (VW.done ((BE.eq (IE.var .i64 3) (IE.var .i64 4)) :: pcholds_21) (some []))
def wholds_5 : VW := (VW.done ((BE.not (BE.eq (IE.var .i64 3) (IE.var .i64 4))) :: pcholds_21) (some [(G.b (BE.lit true) (BE.lit false))]))
def wholds_6 : VW := (VW.done ((BE.eq (IE.var .i64 3) (IE.var .i64 4)) :: pcholds_22) (some [(G.b (BE.lit true) (BE.lit false))]))
def wholds_7 : VW := (VW.done ((BE.not (BE.eq (IE.var .i64 3) (IE.var .i64 4))) :: pcholds_22) (some []))
def wholds_8 : VW := (VW.done ((BE.not (BE.eq (IE.var .u64 1) (IE.var .u64 2))) :: pcholds_3) (some [(G.b (BE.lit true) (BE.lit false))]))
def wholds_9 : VW := (VW.done ((BE.eq (IE.var .u64 1) (IE.var .u64 2)) :: pcholds_4) (some [(G.b (BE.lit true) (BE.lit false))]))
def wholds_10 : VW := (VW.done ((BE.eq (IE.var .i64 3) (IE.var .i64 4)) :: pcholds_23) (some []))
def wholds_11 : VW := (VW.done ((BE.not (BE.eq (IE.var .i64 3) (IE.var .i64 4))) :: pcholds_23) (some [(G.b (BE.lit true) (BE.lit false))]))
def wholds_12 : VW := (VW.done ((BE.eq (IE.var .i64 3) (IE.var .i64 4)) :: pcholds_24) (some [(G.b (BE.lit true) (BE.lit false))]))
def wholds_13 : VW := (VW.done ((BE.not (BE.eq (IE.var .i64 3) (IE.var .i64 4))) :: pcholds_24) (some []))
def wholds_14 : VW := (VW.done ((BE.eq (IE.var .i64 3) (IE.var .i64 4)) :: pcholds_25) (some []))
def wholds_15 : VW := (VW.done ((BE.not (BE.eq (IE.var .i64 3) (IE.var .i64 4))) :: pcholds_25) (some [(G.b (BE.lit true) (BE.lit false))]))
def wholds_16 : VW := (VW.done ((BE.eq (IE.var .i64 3) (IE.var .i64 4)) :: pcholds_26) (some [(G.b (BE.lit true) (BE.lit false))]))
def wholds_17 : VW := (VW.done ((BE.not (BE.eq (IE.var .i64 3) (IE.var .i64 4))) :: pcholds_26) (some []))
def wholds_18 : VW := (VW.done ((BE.eq (IE.var .i64 3) (IE.var .i64 4)) :: pcholds_27) (some []))
def wholds_19 : VW := (VW.done ((BE.not (BE.eq (IE.var .i64 3) (IE.var .i64 4))) :: pcholds_27) (some [(G.b (BE.lit true) (BE.lit false))]))
def wholds_20 : VW := (VW.done ((BE.eq (IE.var .i64 3) (IE.var .i64 4)) :: pcholds_28) (some [(G.b (BE.lit true) (BE.lit false))]))
def wholds_21 : VW := (VW.done ((BE.not (BE.eq (IE.var .i64 3) (IE.var .i64 4))) :: pcholds_28) (some []))
def wholds_22 : VW := (VW.done ((BE.eq (IE.var .i64 3) (IE.var .i64 4)) :: pcholds_29) (some []))
def wholds_23 : VW := (VW.done ((BE.not (BE.eq (IE.var .i64 3) (IE.var .i64 4))) :: pcholds_29) (some [(G.b (BE.lit true) (BE.lit false))]))
def wholds_24 : VW := (VW.done ((BE.eq (IE.var .i64 3) (IE.var .i64 4)) :: pcholds_30) (some [(G.b (BE.lit true) (BE.lit false))]))
def wholds_25 : VW := (VW.done ((BE.not (BE.eq (IE.var .i64 3) (IE.var .i64 4))) :: pcholds_30) (some []))
def wholds_26 : VW := (VW.done ((BE.not (BE.eq (IE.var .u64 1) (IE.var .u64 2))) :: pcholds_5) (some [(G.b (BE.lit true) (BE.lit false))]))
def wholds_27 : VW := (VW.done ((BE.eq (IE.var .u64 1) (IE.var .u64 2)) :: pcholds_6) (some [(G.b (BE.lit true) (BE.lit false))]))
def wholds_28 : VW := (VW.done ((BE.eq (IE.var .i64 3) (IE.var .i64 4)) :: pcholds_31) (some []))
def wholds_29 : VW := (VW.done ((BE.not (BE.eq (IE.var .i64 3) (IE.var .i64 4))) :: pcholds_31) (some [(G.b (BE.lit true) (BE.lit false))]))
def wholds_30 : VW := (VW.done ((BE.eq (IE.var .i64 3) (IE.var .i64 4)) :: pcholds_32) (some [(G.b (BE.lit true) (BE.lit false))]))
def wholds_31 : VW := (VW.done ((BE.not (BE.eq (IE.var .i64 3) (IE.var .i64 4))) :: pcholds_32) (some []))
def wholds_32 : VW := (VW.done ((BE.eq (IE.var .i64 3) (IE.var .i64 4)) :: pcholds_33) (some []))
def wholds_33 : VW := (VW.done ((BE.not (BE.eq (IE.var .i64 3) (IE.var .i64 4))) :: pcholds_33) (some [(G.b (BE.lit true) (BE.lit false))]))
def wholds_34 : VW := (VW.done ((BE.eq (IE.var .i64 3) (IE.var .i64 4)) :: pcholds_34) (some [(G.b (BE.lit true) (BE.lit false))]))
def wholds_35 : VW := (VW.done ((BE.not (BE.eq (IE.var .i64 3) (IE.var .i64 4))) :: pcholds_34) (some []))
def vwholds : List VW := [wholds_0, wholds_1, wholds_2, wholds_3, wholds_4, wholds_5, wholds_6, wholds_7, wholds_8, wholds_9, wholds_10, wholds_11, wholds_12, wholds_13, wholds_14, wholds_15, wholds_16, wholds_17, wholds_18, wholds_19, wholds_20, wholds_21, wholds_22, wholds_23, wholds_24, wholds_25, wholds_26, wholds_27, wholds_28, wholds_29, wholds_30, wholds_31, wholds_32, wholds_33, wholds_34, wholds_35]
end
theorem vcholds_0 : VD TTholds (st0 cHolds) wholds_0 := by
  intro ρ kn hp
  exact all_nil
theorem vcholds_1 : VD TTholds (st0 cHolds) wholds_1 := by
  intro ρ kn hp
  have hF : ρ.z.F = oct.Φ := kn.F
  simp only [h_nil, h_cons, d_le, d_eq, d_not, d_var, d_lit, d_cel, d_leq, d_fn, d_and, d_iff, IE.den, LE.den, AL.den, lenV, true_and, and_true, pcholds_19, pcholds_11, pcholds_7, pcholds_3, pcholds_1, pcholds_0, hF, pi2, pi3, pi4, pi5, pi6, pi7, pl1] at hp
  obtain ⟨p1, p2, p3, p4, p5, p6, p7, p8, p9, p10, p11, p12, p13, p14⟩ := hp
  exfalso
  have r1 := u64_rng kn.ok 1
  have c1 := u64_in r1
  have r2 := u64_rng kn.ok 2
  have c2 := u64_in r2
  have r3 := twice_rng (i64_rng kn.ok 3)
  have c3 : clampK .u64 (twiceN (ρ.i .i64 3)) = twiceN (ρ.i .i64 3) := u64_in r3
  have r4 := twice_rng (i64_rng kn.ok 4)
  have c4 : clampK .u64 (twiceN (ρ.i .i64 4)) = twiceN (ρ.i .i64 4) := u64_in r4
  simp only [c1, c2, c3, c4] at p1 p2
  first
    | exact p1 (pre1 r1.1 r2.1 p2)
    | exact p1 (pre2 r1.1 r2.1 p2)
    | exact p1 (twice_inj (pre1 r3.1 r4.1 p2))
    | exact p1 (twice_inj (pre2 r3.1 r4.1 p2))
    | exact p2 (by rw [p1]; exact self1 _)
    | exact p2 (by rw [p1]; exact (self1 _).symm)
theorem vcholds_2 : VD TTholds (st0 cHolds) wholds_2 := by
  intro ρ kn hp
  have hF : ρ.z.F = oct.Φ := kn.F
  simp only [h_nil, h_cons, d_le, d_eq, d_not, d_var, d_lit, d_cel, d_leq, d_fn, d_and, d_iff, IE.den, LE.den, AL.den, lenV, true_and, and_true, pcholds_20, pcholds_11, pcholds_7, pcholds_3, pcholds_1, pcholds_0, hF, pi2, pi3, pi4, pi5, pi6, pi7, pl1] at hp
  obtain ⟨p1, p2, p3, p4, p5, p6, p7, p8, p9, p10, p11, p12, p13, p14⟩ := hp
  exfalso
  have r1 := u64_rng kn.ok 1
  have c1 := u64_in r1
  have r2 := u64_rng kn.ok 2
  have c2 := u64_in r2
  have r3 := twice_rng (i64_rng kn.ok 3)
  have c3 : clampK .u64 (twiceN (ρ.i .i64 3)) = twiceN (ρ.i .i64 3) := u64_in r3
  have r4 := twice_rng (i64_rng kn.ok 4)
  have c4 : clampK .u64 (twiceN (ρ.i .i64 4)) = twiceN (ρ.i .i64 4) := u64_in r4
  simp only [c1, c2, c3, c4] at p1 p2
  first
    | exact p1 (pre1 r1.1 r2.1 p2)
    | exact p1 (pre2 r1.1 r2.1 p2)
    | exact p1 (twice_inj (pre1 r3.1 r4.1 p2))
    | exact p1 (twice_inj (pre2 r3.1 r4.1 p2))
    | exact p2 (by rw [p1]; exact self1 _)
    | exact p2 (by rw [p1]; exact (self1 _).symm)
theorem vcholds_3 : VD TTholds (st0 cHolds) wholds_3 := by
  intro ρ kn hp
  exact all_nil
theorem vcholds_4 : VD TTholds (st0 cHolds) wholds_4 := by
  intro ρ kn hp
  exact all_nil
theorem vcholds_5 : VD TTholds (st0 cHolds) wholds_5 := by
  intro ρ kn hp
  have hF : ρ.z.F = oct.Φ := kn.F
  simp only [h_nil, h_cons, d_le, d_eq, d_not, d_var, d_lit, d_cel, d_leq, d_fn, d_and, d_iff, IE.den, LE.den, AL.den, lenV, true_and, and_true, pcholds_21, pcholds_12, pcholds_7, pcholds_3, pcholds_1, pcholds_0, hF, pi2, pi3, pi4, pi5, pi6, pi7, pl1] at hp
  obtain ⟨p1, p2, p3, p4, p5, p6, p7, p8, p9, p10, p11, p12, p13, p14⟩ := hp
  exfalso
  have r1 := u64_rng kn.ok 1
  have c1 := u64_in r1
  have r2 := u64_rng kn.ok 2
  have c2 := u64_in r2
  have r3 := twice_rng (i64_rng kn.ok 3)
  have c3 : clampK .u64 (twiceN (ρ.i .i64 3)) = twiceN (ρ.i .i64 3) := u64_in r3
  have r4 := twice_rng (i64_rng kn.ok 4)
  have c4 : clampK .u64 (twiceN (ρ.i .i64 4)) = twiceN (ρ.i .i64 4) := u64_in r4
  simp only [c1, c2, c3, c4] at p1 p2
  first
    | exact p1 (pre1 r1.1 r2.1 p2)
    | exact p1 (pre2 r1.1 r2.1 p2)
    | exact p1 (twice_inj (pre1 r3.1 r4.1 p2))
    | exact p1 (twice_inj (pre2 r3.1 r4.1 p2))
    | exact p2 (by rw [p1]; exact self1 _)
    | exact p2 (by rw [p1]; exact (self1 _).symm)
theorem vcholds_6 : VD TTholds (st0 cHolds) wholds_6 := by
  intro ρ kn hp
  have hF : ρ.z.F = oct.Φ := kn.F
  simp only [h_nil, h_cons, d_le, d_eq, d_not, d_var, d_lit, d_cel, d_leq, d_fn, d_and, d_iff, IE.den, LE.den, AL.den, lenV, true_and, and_true, pcholds_22, pcholds_12, pcholds_7, pcholds_3, pcholds_1, pcholds_0, hF, pi2, pi3, pi4, pi5, pi6, pi7, pl1] at hp
  obtain ⟨p1, p2, p3, p4, p5, p6, p7, p8, p9, p10, p11, p12, p13, p14⟩ := hp
  exfalso
  have r1 := u64_rng kn.ok 1
  have c1 := u64_in r1
  have r2 := u64_rng kn.ok 2
  have c2 := u64_in r2
  have r3 := twice_rng (i64_rng kn.ok 3)
  have c3 : clampK .u64 (twiceN (ρ.i .i64 3)) = twiceN (ρ.i .i64 3) := u64_in r3
  have r4 := twice_rng (i64_rng kn.ok 4)
  have c4 : clampK .u64 (twiceN (ρ.i .i64 4)) = twiceN (ρ.i .i64 4) := u64_in r4
  simp only [c1, c2, c3, c4] at p1 p2
  first
    | exact p1 (pre1 r1.1 r2.1 p2)
    | exact p1 (pre2 r1.1 r2.1 p2)
    | exact p1 (twice_inj (pre1 r3.1 r4.1 p2))
    | exact p1 (twice_inj (pre2 r3.1 r4.1 p2))
    | exact p2 (by rw [p1]; exact self1 _)
    | exact p2 (by rw [p1]; exact (self1 _).symm)
theorem vcholds_7 : VD TTholds (st0 cHolds) wholds_7 := by
  intro ρ kn hp
  exact all_nil
theorem vcholds_8 : VD TTholds (st0 cHolds) wholds_8 := by
  intro ρ kn hp
  have hF : ρ.z.F = oct.Φ := kn.F
  simp only [h_nil, h_cons, d_le, d_eq, d_not, d_var, d_lit, d_cel, d_leq, d_fn, d_and, d_iff, IE.den, LE.den, AL.den, lenV, true_and, and_true, pcholds_3, pcholds_1, pcholds_0, hF, pi2, pi3, pi4, pi5, pi6, pi7, pl1] at hp
  obtain ⟨p1, p2, p3, p4, p5, p6, p7, p8, p9, p10, p11⟩ := hp
  exfalso
  have r1 := u64_rng kn.ok 1
  have c1 := u64_in r1
  have r2 := u64_rng kn.ok 2
  have c2 := u64_in r2
  have r3 := twice_rng (i64_rng kn.ok 3)
  have c3 : clampK .u64 (twiceN (ρ.i .i64 3)) = twiceN (ρ.i .i64 3) := u64_in r3
  have r4 := twice_rng (i64_rng kn.ok 4)
  have c4 : clampK .u64 (twiceN (ρ.i .i64 4)) = twiceN (ρ.i .i64 4) := u64_in r4
  simp only [c1, c2, c3, c4] at p1 p2
  first
    | exact p1 (pre1 r1.1 r2.1 p2)
    | exact p1 (pre2 r1.1 r2.1 p2)
    | exact p1 (twice_inj (pre1 r3.1 r4.1 p2))
    | exact p1 (twice_inj (pre2 r3.1 r4.1 p2))
    | exact p2 (by rw [p1]; exact self1 _)
    | exact p2 (by rw [p1]; exact (self1 _).symm)
theorem vcholds_9 : VD TTholds (st0 cHolds) wholds_9 := by
  intro ρ kn hp
  have hF : ρ.z.F = oct.Φ := kn.F
  simp only [h_nil, h_cons, d_le, d_eq, d_not, d_var, d_lit, d_cel, d_leq, d_fn, d_and, d_iff, IE.den, LE.den, AL.den, lenV, true_and, and_true, pcholds_4, pcholds_1, pcholds_0, hF, pi2, pi3, pi4, pi5, pi6, pi7, pl1] at hp
  obtain ⟨p1, p2, p3, p4, p5, p6, p7, p8, p9, p10, p11⟩ := hp
  exfalso
  have r1 := u64_rng kn.ok 1
  have c1 := u64_in r1
  have r2 := u64_rng kn.ok 2
  have c2 := u64_in r2
  have r3 := twice_rng (i64_rng kn.ok 3)
  have c3 : clampK .u64 (twiceN (ρ.i .i64 3)) = twiceN (ρ.i .i64 3) := u64_in r3
  have r4 := twice_rng (i64_rng kn.ok 4)
  have c4 : clampK .u64 (twiceN (ρ.i .i64 4)) = twiceN (ρ.i .i64 4) := u64_in r4
  simp only [c1, c2, c3, c4] at p1 p2
  first
    | exact p1 (pre1 r1.1 r2.1 p2)
    | exact p1 (pre2 r1.1 r2.1 p2)
    | exact p1 (twice_inj (pre1 r3.1 r4.1 p2))
    | exact p1 (twice_inj (pre2 r3.1 r4.1 p2))
    | exact p2 (by rw [p1]; exact self1 _)
    | exact p2 (by rw [p1]; exact (self1 _).symm)
theorem vcholds_10 : VD TTholds (st0 cHolds) wholds_10 := by
  intro ρ kn hp
  exact all_nil
theorem vcholds_11 : VD TTholds (st0 cHolds) wholds_11 := by
  intro ρ kn hp
  have hF : ρ.z.F = oct.Φ := kn.F
  simp only [h_nil, h_cons, d_le, d_eq, d_not, d_var, d_lit, d_cel, d_leq, d_fn, d_and, d_iff, IE.den, LE.den, AL.den, lenV, true_and, and_true, pcholds_23, pcholds_13, pcholds_8, pcholds_4, pcholds_1, pcholds_0, hF, pi2, pi3, pi4, pi5, pi6, pi7, pl1] at hp
  obtain ⟨p1, p2, p3, p4, p5, p6, p7, p8, p9, p10, p11, p12, p13, p14⟩ := hp
  exfalso
  have r1 := u64_rng kn.ok 1
  have c1 := u64_in r1
  have r2 := u64_rng kn.ok 2
  have c2 := u64_in r2
  have r3 := twice_rng (i64_rng kn.ok 3)
  have c3 : clampK .u64 (twiceN (ρ.i .i64 3)) = twiceN (ρ.i .i64 3) := u64_in r3
  have r4 := twice_rng (i64_rng kn.ok 4)
  have c4 : clampK .u64 (twiceN (ρ.i .i64 4)) = twiceN (ρ.i .i64 4) := u64_in r4
  simp only [c1, c2, c3, c4] at p1 p2
  first
    | exact p1 (pre1 r1.1 r2.1 p2)
    | exact p1 (pre2 r1.1 r2.1 p2)
    | exact p1 (twice_inj (pre1 r3.1 r4.1 p2))
    | exact p1 (twice_inj (pre2 r3.1 r4.1 p2))
    | exact p2 (by rw [p1]; exact self1 _)
    | exact p2 (by rw [p1]; exact (self1 _).symm)
theorem vcholds_12 : VD TTholds (st0 cHolds) wholds_12 := by
  intro ρ kn hp
  have hF : ρ.z.F = oct.Φ := kn.F
  simp only [h_nil, h_cons, d_le, d_eq, d_not, d_var, d_lit, d_cel, d_leq, d_fn, d_and, d_iff, IE.den, LE.den, AL.den, lenV, true_and, and_true, pcholds_24, pcholds_13, pcholds_8, pcholds_4, pcholds_1, pcholds_0, hF, pi2, pi3, pi4, pi5, pi6, pi7, pl1] at hp
  obtain ⟨p1, p2, p3, p4, p5, p6, p7, p8, p9, p10, p11, p12, p13, p14⟩ := hp
  exfalso
  have r1 := u64_rng kn.ok 1
  have c1 := u64_in r1
  have r2 := u64_rng kn.ok 2
  have c2 := u64_in r2
  have r3 := twice_rng (i64_rng kn.ok 3)
  have c3 : clampK .u64 (twiceN (ρ.i .i64 3)) = twiceN (ρ.i .i64 3) := u64_in r3
  have r4 := twice_rng (i64_rng kn.ok 4)
  have c4 : clampK .u64 (twiceN (ρ.i .i64 4)) = twiceN (ρ.i .i64 4) := u64_in r4
  simp only [c1, c2, c3, c4] at p1 p2
  first
    | exact p1 (pre1 r1.1 r2.1 p2)
    | exact p1 (pre2 r1.1 r2.1 p2)
    | exact p1 (twice_inj (pre1 r3.1 r4.1 p2))
    | exact p1 (twice_inj (pre2 r3.1 r4.1 p2))
    | exact p2 (by rw [p1]; exact self1 _)
    | exact p2 (by rw [p1]; exact (self1 _).symm)
theorem vcholds_13 : VD TTholds (st0 cHolds) wholds_13 := by
  intro ρ kn hp
  exact all_nil
theorem vcholds_14 : VD TTholds (st0 cHolds) wholds_14 := by
  intro ρ kn hp
  exact all_nil
theorem vcholds_15 : VD TTholds (st0 cHolds) wholds_15 := by
  intro ρ kn hp
  have hF : ρ.z.F = oct.Φ := kn.F
  simp only [h_nil, h_cons, d_le, d_eq, d_not, d_var, d_lit, d_cel, d_leq, d_fn, d_and, d_iff, IE.den, LE.den, AL.den, lenV, true_and, and_true, pcholds_25, pcholds_14, pcholds_8, pcholds_4, pcholds_1, pcholds_0, hF, pi2, pi3, pi4, pi5, pi6, pi7, pl1] at hp
  obtain ⟨p1, p2, p3, p4, p5, p6, p7, p8, p9, p10, p11, p12, p13, p14⟩ := hp
  exfalso
  have r1 := u64_rng kn.ok 1
  have c1 := u64_in r1
  have r2 := u64_rng kn.ok 2
  have c2 := u64_in r2
  have r3 := twice_rng (i64_rng kn.ok 3)
  have c3 : clampK .u64 (twiceN (ρ.i .i64 3)) = twiceN (ρ.i .i64 3) := u64_in r3
  have r4 := twice_rng (i64_rng kn.ok 4)
  have c4 : clampK .u64 (twiceN (ρ.i .i64 4)) = twiceN (ρ.i .i64 4) := u64_in r4
  simp only [c1, c2, c3, c4] at p1 p2
  first
    | exact p1 (pre1 r1.1 r2.1 p2)
    | exact p1 (pre2 r1.1 r2.1 p2)
    | exact p1 (twice_inj (pre1 r3.1 r4.1 p2))
    | exact p1 (twice_inj (pre2 r3.1 r4.1 p2))
    | exact p2 (by rw [p1]; exact self1 _)
    | exact p2 (by rw [p1]; exact (self1 _).symm)
theorem vcholds_16 : VD TTholds (st0 cHolds) wholds_16 := by
  intro ρ kn hp
  have hF : ρ.z.F = oct.Φ := kn.F
  simp only [h_nil, h_cons, d_le, d_eq, d_not, d_var, d_lit, d_cel, d_leq, d_fn, d_and, d_iff, IE.den, LE.den, AL.den, lenV, true_and, and_true, pcholds_26, pcholds_14, pcholds_8, pcholds_4, pcholds_1, pcholds_0, hF, pi2, pi3, pi4, pi5, pi6, pi7, pl1] at hp
  obtain ⟨p1, p2, p3, p4, p5, p6, p7, p8, p9, p10, p11, p12, p13, p14⟩ := hp
  exfalso
  have r1 := u64_rng kn.ok 1
  have c1 := u64_in r1
  have r2 := u64_rng kn.ok 2
  have c2 := u64_in r2
  have r3 := twice_rng (i64_rng kn.ok 3)
  have c3 : clampK .u64 (twiceN (ρ.i .i64 3)) = twiceN (ρ.i .i64 3) := u64_in r3
  have r4 := twice_rng (i64_rng kn.ok 4)
  have c4 : clampK .u64 (twiceN (ρ.i .i64 4)) = twiceN (ρ.i .i64 4) := u64_in r4
  simp only [c1, c2, c3, c4] at p1 p2
  first
    | exact p1 (pre1 r1.1 r2.1 p2)
    | exact p1 (pre2 r1.1 r2.1 p2)
    | exact p1 (twice_inj (pre1 r3.1 r4.1 p2))
    | exact p1 (twice_inj (pre2 r3.1 r4.1 p2))
    | exact p2 (by rw [p1]; exact self1 _)
    | exact p2 (by rw [p1]; exact (self1 _).symm)
theorem vcholds_17 : VD TTholds (st0 cHolds) wholds_17 := by
  intro ρ kn hp
  exact all_nil
theorem vcholds_18 : VD TTholds (st0 cHolds) wholds_18 := by
  intro ρ kn hp
  exact all_nil
theorem vcholds_19 : VD TTholds (st0 cHolds) wholds_19 := by
  intro ρ kn hp
  have hF : ρ.z.F = oct.Φ := kn.F
  simp only [h_nil, h_cons, d_le, d_eq, d_not, d_var, d_lit, d_cel, d_leq, d_fn, d_and, d_iff, IE.den, LE.den, AL.den, lenV, true_and, and_true, pcholds_27, pcholds_15, pcholds_9, pcholds_5, pcholds_2, pcholds_0, hF, pi2, pi3, pi4, pi5, pi6, pi7, pl1] at hp
  obtain ⟨p1, p2, p3, p4, p5, p6, p7, p8, p9, p10, p11, p12, p13, p14⟩ := hp
  exfalso
  have r1 := u64_rng kn.ok 1
  have c1 := u64_in r1
  have r2 := u64_rng kn.ok 2
  have c2 := u64_in r2
  have r3 := twice_rng (i64_rng kn.ok 3)
  have c3 : clampK .u64 (twiceN (ρ.i .i64 3)) = twiceN (ρ.i .i64 3) := u64_in r3
  have r4 := twice_rng (i64_rng kn.ok 4)
  have c4 : clampK .u64 (twiceN (ρ.i .i64 4)) = twiceN (ρ.i .i64 4) := u64_in r4
  simp only [c1, c2, c3, c4] at p1 p2
  first
    | exact p1 (pre1 r1.1 r2.1 p2)
    | exact p1 (pre2 r1.1 r2.1 p2)
    | exact p1 (twice_inj (pre1 r3.1 r4.1 p2))
    | exact p1 (twice_inj (pre2 r3.1 r4.1 p2))
    | exact p2 (by rw [p1]; exact self1 _)
    | exact p2 (by rw [p1]; exact (self1 _).symm)
theorem vcholds_20 : VD TTholds (st0 cHolds) wholds_20 := by
  intro ρ kn hp
  have hF : ρ.z.F = oct.Φ := kn.F
  simp only [h_nil, h_cons, d_le, d_eq, d_not, d_var, d_lit, d_cel, d_leq, d_fn, d_and, d_iff, IE.den, LE.den, AL.den, lenV, true_and, and_true, pcholds_28, pcholds_15, pcholds_9, pcholds_5, pcholds_2, pcholds_0, hF, pi2, pi3, pi4, pi5, pi6, pi7, pl1] at hp
  obtain ⟨p1, p2, p3, p4, p5, p6, p7, p8, p9, p10, p11, p12, p13, p14⟩ := hp
  exfalso
  have r1 := u64_rng kn.ok 1
  have c1 := u64_in r1
  have r2 := u64_rng kn.ok 2
  have c2 := u64_in r2
  have r3 := twice_rng (i64_rng kn.ok 3)
  have c3 : clampK .u64 (twiceN (ρ.i .i64 3)) = twiceN (ρ.i .i64 3) := u64_in r3
  have r4 := twice_rng (i64_rng kn.ok 4)
  have c4 : clampK .u64 (twiceN (ρ.i .i64 4)) = twiceN (ρ.i .i64 4) := u64_in r4
  simp only [c1, c2, c3, c4] at p1 p2
  first
    | exact p1 (pre1 r1.1 r2.1 p2)
    | exact p1 (pre2 r1.1 r2.1 p2)
    | exact p1 (twice_inj (pre1 r3.1 r4.1 p2))
    | exact p1 (twice_inj (pre2 r3.1 r4.1 p2))
    | exact p2 (by rw [p1]; exact self1 _)
    | exact p2 (by rw [p1]; exact (self1 _).symm)
theorem vcholds_21 : VD TTholds (st0 cHolds) wholds_21 := by
  intro ρ kn hp
  exact all_nil
theorem vcholds_22 : VD TTholds (st0 cHolds) wholds_22 := by
  intro ρ kn hp
  exact all_nil
theorem vcholds_23 : VD TTholds (st0 cHolds) wholds_23 := by
  intro ρ kn hp
  have hF : ρ.z.F = oct.Φ := kn.F
  simp only [h_nil, h_cons, d_le, d_eq, d_not, d_var, d_lit, d_cel, d_leq, d_fn, d_and, d_iff, IE.den, LE.den, AL.den, lenV, true_and, and_true, pcholds_29, pcholds_16, pcholds_9, pcholds_5, pcholds_2, pcholds_0, hF, pi2, pi3, pi4, pi5, pi6, pi7, pl1] at hp
  obtain ⟨p1, p2, p3, p4, p5, p6, p7, p8, p9, p10, p11, p12, p13, p14⟩ := hp
  exfalso
  have r1 := u64_rng kn.ok 1
  have c1 := u64_in r1
  have r2 := u64_rng kn.ok 2
  have c2 := u64_in r2
  have r3 := twice_rng (i64_rng kn.ok 3)
  have c3 : clampK .u64 (twiceN (ρ.i .i64 3)) = twiceN (ρ.i .i64 3) := u64_in r3
  have r4 := twice_rng (i64_rng kn.ok 4)
  have c4 : clampK .u64 (twiceN (ρ.i .i64 4)) = twiceN (ρ.i .i64 4) := u64_in r4
  simp only [c1, c2, c3, c4] at p1 p2
  first
    | exact p1 (pre1 r1.1 r2.1 p2)
    | exact p1 (pre2 r1.1 r2.1 p2)
    | exact p1 (twice_inj (pre1 r3.1 r4.1 p2))
    | exact p1 (twice_inj (pre2 r3.1 r4.1 p2))
    | exact p2 (by rw [p1]; exact self1 _)
    | exact p2 (by rw [p1]; exact (self1 _).symm)
theorem vcholds_24 : VD TTholds (st0 cHolds) wholds_24 := by
  intro ρ kn hp
  have hF : ρ.z.F = oct.Φ := kn.F
  simp only [h_nil, h_cons, d_le, d_eq, d_not, d_var, d_lit, d_cel, d_leq, d_fn, d_and, d_iff, IE.den, LE.den, AL.den, lenV, true_and, and_true, pcholds_30, pcholds_16, pcholds_9, pcholds_5, pcholds_2, pcholds_0, hF, pi2, pi3, pi4, pi5, pi6, pi7, pl1] at hp
  obtain ⟨p1, p2, p3, p4, p5, p6, p7, p8, p9, p10, p11, p12, p13, p14⟩ := hp
  exfalso
  have r1 := u64_rng kn.ok 1
  have c1 := u64_in r1
  have r2 := u64_rng kn.ok 2
  have c2 := u64_in r2
  have r3 := twice_rng (i64_rng kn.ok 3)
  have c3 : clampK .u64 (twiceN (ρ.i .i64 3)) = twiceN (ρ.i .i64 3) := u64_in r3
  have r4 := twice_rng (i64_rng kn.ok 4)
  have c4 : clampK .u64 (twiceN (ρ.i .i64 4)) = twiceN (ρ.i .i64 4) := u64_in r4
  simp only [c1, c2, c3, c4] at p1 p2
  first
    | exact p1 (pre1 r1.1 r2.1 p2)
    | exact p1 (pre2 r1.1 r2.1 p2)
    | exact p1 (twice_inj (pre1 r3.1 r4.1 p2))
    | exact p1 (twice_inj (pre2 r3.1 r4.1 p2))
    | exact p2 (by rw [p1]; exact self1 _)
    | exact p2 (by rw [p1]; exact (self1 _).symm)
theorem vcholds_25 : VD TTholds (st0 cHolds) wholds_25 := by
  intro ρ kn hp
  exact all_nil
theorem vcholds_26 : VD TTholds (st0 cHolds) wholds_26 := by
  intro ρ kn hp
  have hF : ρ.z.F = oct.Φ := kn.F
  simp only [h_nil, h_cons, d_le, d_eq, d_not, d_var, d_lit, d_cel, d_leq, d_fn, d_and, d_iff, IE.den, LE.den, AL.den, lenV, true_and, and_true, pcholds_5, pcholds_2, pcholds_0, hF, pi2, pi3, pi4, pi5, pi6, pi7, pl1] at hp
  obtain ⟨p1, p2, p3, p4, p5, p6, p7, p8, p9, p10, p11⟩ := hp
  exfalso
  have r1 := u64_rng kn.ok 1
  have c1 := u64_in r1
  have r2 := u64_rng kn.ok 2
  have c2 := u64_in r2
  have r3 := twice_rng (i64_rng kn.ok 3)
  have c3 : clampK .u64 (twiceN (ρ.i .i64 3)) = twiceN (ρ.i .i64 3) := u64_in r3
  have r4 := twice_rng (i64_rng kn.ok 4)
  have c4 : clampK .u64 (twiceN (ρ.i .i64 4)) = twiceN (ρ.i .i64 4) := u64_in r4
  simp only [c1, c2, c3, c4] at p1 p2
  first
    | exact p1 (pre1 r1.1 r2.1 p2)
    | exact p1 (pre2 r1.1 r2.1 p2)
    | exact p1 (twice_inj (pre1 r3.1 r4.1 p2))
    | exact p1 (twice_inj (pre2 r3.1 r4.1 p2))
    | exact p2 (by rw [p1]; exact self1 _)
    | exact p2 (by rw [p1]; exact (self1 _).symm)
theorem vcholds_27 : VD TTholds (st0 cHolds) wholds_27 := by
  intro ρ kn hp
  have hF : ρ.z.F = oct.Φ := kn.F
  simp only [h_nil, h_cons, d_le, d_eq, d_not, d_var, d_lit, d_cel, d_leq, d_fn, d_and, d_iff, IE.den, LE.den, AL.den, lenV, true_and, and_true, pcholds_6, pcholds_2, pcholds_0, hF, pi2, pi3, pi4, pi5, pi6, pi7, pl1] at hp
  obtain ⟨p1, p2, p3, p4, p5, p6, p7, p8, p9, p10, p11⟩ := hp
  exfalso
  have r1 := u64_rng kn.ok 1
  have c1 := u64_in r1
  have r2 := u64_rng kn.ok 2
  have c2 := u64_in r2
  have r3 := twice_rng (i64_rng kn.ok 3)
  have c3 : clampK .u64 (twiceN (ρ.i .i64 3)) = twiceN (ρ.i .i64 3) := u64_in r3
  have r4 := twice_rng (i64_rng kn.ok 4)
  have c4 : clampK .u64 (twiceN (ρ.i .i64 4)) = twiceN (ρ.i .i64 4) := u64_in r4
  simp only [c1, c2, c3, c4] at p1 p2
  first
    | exact p1 (pre1 r1.1 r2.1 p2)
    | exact p1 (pre2 r1.1 r2.1 p2)
    | exact p1 (twice_inj (pre1 r3.1 r4.1 p2))
    | exact p1 (twice_inj (pre2 r3.1 r4.1 p2))
    | exact p2 (by rw [p1]; exact self1 _)
    | exact p2 (by rw [p1]; exact (self1 _).symm)
theorem vcholds_28 : VD TTholds (st0 cHolds) wholds_28 := by
  intro ρ kn hp
  exact all_nil
theorem vcholds_29 : VD TTholds (st0 cHolds) wholds_29 := by
  intro ρ kn hp
  have hF : ρ.z.F = oct.Φ := kn.F
  simp only [h_nil, h_cons, d_le, d_eq, d_not, d_var, d_lit, d_cel, d_leq, d_fn, d_and, d_iff, IE.den, LE.den, AL.den, lenV, true_and, and_true, pcholds_31, pcholds_17, pcholds_10, pcholds_6, pcholds_2, pcholds_0, hF, pi2, pi3, pi4, pi5, pi6, pi7, pl1] at hp
  obtain ⟨p1, p2, p3, p4, p5, p6, p7, p8, p9, p10, p11, p12, p13, p14⟩ := hp
  exfalso
  have r1 := u64_rng kn.ok 1
  have c1 := u64_in r1
  have r2 := u64_rng kn.ok 2
  have c2 := u64_in r2
  have r3 := twice_rng (i64_rng kn.ok 3)
  have c3 : clampK .u64 (twiceN (ρ.i .i64 3)) = twiceN (ρ.i .i64 3) := u64_in r3
  have r4 := twice_rng (i64_rng kn.ok 4)
  have c4 : clampK .u64 (twiceN (ρ.i .i64 4)) = twiceN (ρ.i .i64 4) := u64_in r4
  simp only [c1, c2, c3, c4] at p1 p2
  first
    | exact p1 (pre1 r1.1 r2.1 p2)
    | exact p1 (pre2 r1.1 r2.1 p2)
    | exact p1 (twice_inj (pre1 r3.1 r4.1 p2))
    | exact p1 (twice_inj (pre2 r3.1 r4.1 p2))
    | exact p2 (by rw [p1]; exact self1 _)
    | exact p2 (by rw [p1]; exact (self1 _).symm)
theorem vcholds_30 : VD TTholds (st0 cHolds) wholds_30 := by
  intro ρ kn hp
  have hF : ρ.z.F = oct.Φ := kn.F
  simp only [h_nil, h_cons, d_le, d_eq, d_not, d_var, d_lit, d_cel, d_leq, d_fn, d_and, d_iff, IE.den, LE.den, AL.den, lenV, true_and, and_true, pcholds_32, pcholds_17, pcholds_10, pcholds_6, pcholds_2, pcholds_0, hF, pi2, pi3, pi4, pi5, pi6, pi7, pl1] at hp
  obtain ⟨p1, p2, p3, p4, p5, p6, p7, p8, p9, p10, p11, p12, p13, p14⟩ := hp
  exfalso
  have r1 := u64_rng kn.ok 1
  have c1 := u64_in r1
  have r2 := u64_rng kn.ok 2
  have c2 := u64_in r2
  have r3 := twice_rng (i64_rng kn.ok 3)
  have c3 : clampK .u64 (twiceN (ρ.i .i64 3)) = twiceN (ρ.i .i64 3) := u64_in r3
  have r4 := twice_rng (i64_rng kn.ok 4)
  have c4 : clampK .u64 (twiceN (ρ.i .i64 4)) = twiceN (ρ.i .i64 4) := u64_in r4
  simp only [c1, c2, c3, c4] at p1 p2
  first
    | exact p1 (pre1 r1.1 r2.1 p2)
    | exact p1 (pre2 r1.1 r2.1 p2)
    | exact p1 (twice_inj (pre1 r3.1 r4.1 p2))
    | exact p1 (twice_inj (pre2 r3.1 r4.1 p2))
    | exact p2 (by rw [p1]; exact self1 _)
    | exact p2 (by rw [p1]; exact (self1 _).symm)
theorem vcholds_31 : VD TTholds (st0 cHolds) wholds_31 := by
  intro ρ kn hp
  exact all_nil
theorem vcholds_32 : VD TTholds (st0 cHolds) wholds_32 := by
  intro ρ kn hp
  exact all_nil
theorem vcholds_33 : VD TTholds (st0 cHolds) wholds_33 := by
  intro ρ kn hp
  have hF : ρ.z.F = oct.Φ := kn.F
  simp only [h_nil, h_cons, d_le, d_eq, d_not, d_var, d_lit, d_cel, d_leq, d_fn, d_and, d_iff, IE.den, LE.den, AL.den, lenV, true_and, and_true, pcholds_33, pcholds_18, pcholds_10, pcholds_6, pcholds_2, pcholds_0, hF, pi2, pi3, pi4, pi5, pi6, pi7, pl1] at hp
  obtain ⟨p1, p2, p3, p4, p5, p6, p7, p8, p9, p10, p11, p12, p13, p14⟩ := hp
  exfalso
  have r1 := u64_rng kn.ok 1
  have c1 := u64_in r1
  have r2 := u64_rng kn.ok 2
  have c2 := u64_in r2
  have r3 := twice_rng (i64_rng kn.ok 3)
  have c3 : clampK .u64 (twiceN (ρ.i .i64 3)) = twiceN (ρ.i .i64 3) := u64_in r3
  have r4 := twice_rng (i64_rng kn.ok 4)
  have c4 : clampK .u64 (twiceN (ρ.i .i64 4)) = twiceN (ρ.i .i64 4) := u64_in r4
  simp only [c1, c2, c3, c4] at p1 p2
  first
    | exact p1 (pre1 r1.1 r2.1 p2)
    | exact p1 (pre2 r1.1 r2.1 p2)
    | exact p1 (twice_inj (pre1 r3.1 r4.1 p2))
    | exact p1 (twice_inj (pre2 r3.1 r4.1 p2))
    | exact p2 (by rw [p1]; exact self1 _)
    | exact p2 (by rw [p1]; exact (self1 _).symm)
theorem vcholds_34 : VD TTholds (st0 cHolds) wholds_34 := by
  intro ρ kn hp
  have hF : ρ.z.F = oct.Φ := kn.F
  simp only [h_nil, h_cons, d_le, d_eq, d_not, d_var, d_lit, d_cel, d_leq, d_fn, d_and, d_iff, IE.den, LE.den, AL.den, lenV, true_and, and_true, pcholds_34, pcholds_18, pcholds_10, pcholds_6, pcholds_2, pcholds_0, hF, pi2, pi3, pi4, pi5, pi6, pi7, pl1] at hp
  obtain ⟨p1, p2, p3, p4, p5, p6, p7, p8, p9, p10, p11, p12, p13, p14⟩ := hp
  exfalso
  have r1 := u64_rng kn.ok 1
  have c1 := u64_in r1
  have r2 := u64_rng kn.ok 2
  have c2 := u64_in r2
  have r3 := twice_rng (i64_rng kn.ok 3)
  have c3 : clampK .u64 (twiceN (ρ.i .i64 3)) = twiceN (ρ.i .i64 3) := u64_in r3
  have r4 := twice_rng (i64_rng kn.ok 4)
  have c4 : clampK .u64 (twiceN (ρ.i .i64 4)) = twiceN (ρ.i .i64 4) := u64_in r4
  simp only [c1, c2, c3, c4] at p1 p2
  first
    | exact p1 (pre1 r1.1 r2.1 p2)
    | exact p1 (pre2 r1.1 r2.1 p2)
    | exact p1 (twice_inj (pre1 r3.1 r4.1 p2))
    | exact p1 (twice_inj (pre2 r3.1 r4.1 p2))
    | exact p2 (by rw [p1]; exact self1 _)
    | exact p2 (by rw [p1]; exact (self1 _).symm)
theorem vcholds_35 : VD TTholds (st0 cHolds) wholds_35 := by
  intro ρ kn hp
  exact all_nil
theorem told_holds : Sx.Told oct.Φ cHolds := told_vw (cs := [cWorks, cNumber, cSigned, cRNumber, cRSigned, cRead, cSRead, cRRead, cRSRead]) (all_cons told_works (all_cons told_number (all_cons told_signed (all_cons told_rnumber (all_cons told_rsigned (all_cons told_read (all_cons told_sread (all_cons told_rread (all_cons told_rsread (all_nil)))))))))) 9000 vwholds (by kernel_rfl) (by kernel_rfl) (by kernel_rfl) (post_nil rfl) (by kernel_rfl) (by kernel_rfl) (all_cons vcholds_0 (all_cons vcholds_1 (all_cons vcholds_2 (all_cons vcholds_3 (all_cons vcholds_4 (all_cons vcholds_5 (all_cons vcholds_6 (all_cons vcholds_7 (all_cons vcholds_8 (all_cons vcholds_9 (all_cons vcholds_10 (all_cons vcholds_11 (all_cons vcholds_12 (all_cons vcholds_13 (all_cons vcholds_14 (all_cons vcholds_15 (all_cons vcholds_16 (all_cons vcholds_17 (all_cons vcholds_18 (all_cons vcholds_19 (all_cons vcholds_20 (all_cons vcholds_21 (all_cons vcholds_22 (all_cons vcholds_23 (all_cons vcholds_24 (all_cons vcholds_25 (all_cons vcholds_26 (all_cons vcholds_27 (all_cons vcholds_28 (all_cons vcholds_29 (all_cons vcholds_30 (all_cons vcholds_31 (all_cons vcholds_32 (all_cons vcholds_33 (all_cons vcholds_34 (all_cons vcholds_35 (all_nil)))))))))))))))))))))))))))))))))))))
noncomputable section
abbrev TTreads : Tab := T oct.Φ cReads.roms [cWorks, cNumber, cSigned, cRNumber, cRSigned, cRead, cSRead, cRRead, cRSRead]
def pcreads_0 : List BE := [(BE.lit true), (BE.le (IE.lit 1) (IE.len (LE.rom 0)))]
def wreads_0 : VW := (VW.done ((BE.le (IE.lit 0) (IE.fn .i64 4 (AL.lst (LE.rom 0) AL.nil))) :: (BE.le (IE.fn .i64 4 (AL.lst (LE.rom 0) AL.nil)) (IE.len (LE.rom 0))) :: (BE.le (IE.lit 0) (IE.fn .i64 4 (AL.lst (LE.rom 0) AL.nil))) :: (BE.le (IE.fn .i64 4 (AL.lst (LE.rom 0) AL.nil)) (IE.len (LE.rom 0))) :: (BE.le (IE.lit 0) (IE.fn .i64 4 (AL.lst (LE.rom 0) AL.nil))) :: (BE.le (IE.fn .i64 4 (AL.lst (LE.rom 0) AL.nil)) (IE.len (LE.rom 0))) :: (BE.le (IE.lit 0) (IE.fn .i64 4 (AL.lst (LE.rom 0) AL.nil))) :: (BE.le (IE.fn .i64 4 (AL.lst (LE.rom 0) AL.nil)) (IE.len (LE.rom 0))) :: (BE.le (IE.len (LE.rom 0)) (IE.lit 300)) :: pcreads_0) (some []))
def wreads_1 : VW := (VW.done ((BE.not (BE.le (IE.len (LE.rom 0)) (IE.lit 300))) :: pcreads_0) (some []))
def vwreads : List VW := [wreads_0, wreads_1]
end
theorem vcreads_0 : VD TTreads (st0 cReads) wreads_0 := by
  intro ρ kn hp
  exact all_nil
theorem vcreads_1 : VD TTreads (st0 cReads) wreads_1 := by
  intro ρ kn hp
  exact all_nil
theorem told_reads : Sx.Told oct.Φ cReads := told_vw (cs := [cWorks, cNumber, cSigned, cRNumber, cRSigned, cRead, cSRead, cRRead, cRSRead]) (all_cons told_works (all_cons told_number (all_cons told_signed (all_cons told_rnumber (all_cons told_rsigned (all_cons told_read (all_cons told_sread (all_cons told_rread (all_cons told_rsread (all_nil)))))))))) 9000 vwreads (by kernel_rfl) (by kernel_rfl) (by kernel_rfl) (post_nil rfl) (by kernel_rfl) (by kernel_rfl) (all_cons vcreads_0 (all_cons vcreads_1 (all_nil)))
noncomputable section
abbrev TTreads0 : Tab := T oct.Φ cReads0.roms [cWorks, cNumber, cSigned, cRNumber, cRSigned, cRead, cSRead, cRRead, cRSRead]
def pcreads0_0 : List BE := [(BE.le (IE.lit 0) (IE.fn .i64 4 (AL.lst (LE.take (LE.rom 0) (IE.lit 0)) AL.nil))), (BE.le (IE.fn .i64 4 (AL.lst (LE.take (LE.rom 0) (IE.lit 0)) AL.nil)) (IE.lit 0)), (BE.le (IE.lit 0) (IE.fn .i64 4 (AL.lst (LE.take (LE.rom 0) (IE.lit 0)) AL.nil))), (BE.le (IE.fn .i64 4 (AL.lst (LE.take (LE.rom 0) (IE.lit 0)) AL.nil)) (IE.lit 0)), (BE.lit true)]
def pcreads0_1 : List BE := ((BE.eq (IE.fn .u64 3 (AL.lst (LE.take (LE.rom 0) (IE.lit 0)) AL.nil)) (IE.lit 0)) :: pcreads0_0)
def pcreads0_2 : List BE := ((BE.eq (IE.fn .i64 5 (AL.lst (LE.take (LE.rom 0) (IE.lit 0)) AL.nil)) (IE.lit 110)) :: pcreads0_1)
def wreads0_0 : VW := (VW.done ((BE.eq (IE.fn .i64 6 (AL.int .u64 (IE.fn .u64 3 (AL.lst (LE.take (LE.rom 0) (IE.lit 0)) AL.nil)) AL.nil)) (IE.lit 0)) :: pcreads0_2) (some []))
def wreads0_1 : VW := (VW.done ((BE.not (BE.eq (IE.fn .i64 6 (AL.int .u64 (IE.fn .u64 3 (AL.lst (LE.take (LE.rom 0) (IE.lit 0)) AL.nil)) AL.nil)) (IE.lit 0))) :: pcreads0_2) (some [(G.b (BE.lit true) (BE.lit false))]))
def wreads0_2 : VW := (VW.done ((BE.not (BE.eq (IE.fn .i64 5 (AL.lst (LE.take (LE.rom 0) (IE.lit 0)) AL.nil)) (IE.lit 110))) :: pcreads0_1) (some [(G.b (BE.lit true) (BE.lit false))]))
def wreads0_3 : VW := (VW.done ((BE.not (BE.eq (IE.fn .u64 3 (AL.lst (LE.take (LE.rom 0) (IE.lit 0)) AL.nil)) (IE.lit 0))) :: pcreads0_0) (some [(G.b (BE.lit true) (BE.lit false))]))
def vwreads0 : List VW := [wreads0_0, wreads0_1, wreads0_2, wreads0_3]
end
theorem vcreads0_0 : VD TTreads0 (st0 cReads0) wreads0_0 := by
  intro ρ kn hp
  exact all_nil
theorem vcreads0_1 : VD TTreads0 (st0 cReads0) wreads0_1 := by
  intro ρ kn hp
  have hF : ρ.z.F = oct.Φ := kn.F
  simp only [h_nil, h_cons, d_le, d_eq, d_not, d_var, d_lit, d_cel, d_leq, d_fn, d_and, d_iff, IE.den, LE.den, AL.den, lenV, true_and, and_true, pcreads0_2, pcreads0_1, pcreads0_0, hF, pi2, pi3, pi4, pi5, pi6, pi7, pl1] at hp
  obtain ⟨p1, p2, p3, p4, p5, p6, p7⟩ := hp
  exfalso
  have t0 : (ρ.z.rl 0).take (0 : Int).toNat = [] := rfl
  simp only [t0] at p1
  exact p1 rfl
theorem vcreads0_2 : VD TTreads0 (st0 cReads0) wreads0_2 := by
  intro ρ kn hp
  have hF : ρ.z.F = oct.Φ := kn.F
  simp only [h_nil, h_cons, d_le, d_eq, d_not, d_var, d_lit, d_cel, d_leq, d_fn, d_and, d_iff, IE.den, LE.den, AL.den, lenV, true_and, and_true, pcreads0_1, pcreads0_0, hF, pi2, pi3, pi4, pi5, pi6, pi7, pl1] at hp
  obtain ⟨p1, p2, p3, p4, p5, p6⟩ := hp
  exfalso
  have t0 : (ρ.z.rl 0).take (0 : Int).toNat = [] := rfl
  simp only [t0] at p1
  exact p1 rfl
theorem vcreads0_3 : VD TTreads0 (st0 cReads0) wreads0_3 := by
  intro ρ kn hp
  have hF : ρ.z.F = oct.Φ := kn.F
  simp only [h_nil, h_cons, d_le, d_eq, d_not, d_var, d_lit, d_cel, d_leq, d_fn, d_and, d_iff, IE.den, LE.den, AL.den, lenV, true_and, and_true, pcreads0_0, hF, pi2, pi3, pi4, pi5, pi6, pi7, pl1] at hp
  obtain ⟨p1, p2, p3, p4, p5⟩ := hp
  exfalso
  have t0 : (ρ.z.rl 0).take (0 : Int).toNat = [] := rfl
  simp only [t0] at p1
  exact p1 rfl
theorem told_reads0 : Sx.Told oct.Φ cReads0 := told_vw (cs := [cWorks, cNumber, cSigned, cRNumber, cRSigned, cRead, cSRead, cRRead, cRSRead]) (all_cons told_works (all_cons told_number (all_cons told_signed (all_cons told_rnumber (all_cons told_rsigned (all_cons told_read (all_cons told_sread (all_cons told_rread (all_cons told_rsread (all_nil)))))))))) 9000 vwreads0 (by kernel_rfl) (by kernel_rfl) (by kernel_rfl) (post_nil rfl) (by kernel_rfl) (by kernel_rfl) (all_cons vcreads0_0 (all_cons vcreads0_1 (all_cons vcreads0_2 (all_cons vcreads0_3 (all_nil)))))
noncomputable section
abbrev TTnumbers : Tab := T oct.Φ cNumbers.roms [cWorks, cNumber, cSigned, cRNumber, cRSigned, cRead, cSRead, cRRead, cRSRead]
def pcnumbers_0 : List BE := [(BE.lit true), (BE.le (IE.lit 1) (IE.len (LE.rom 0)))]
def pcnumbers_1 : List BE := ((BE.le (IE.lit 0) (IE.fn .i64 4 (AL.lst (LE.cat (LE.fn 1 (AL.int .u64 (IE.fn .u64 2 (AL.int .i64 (IE.var .i64 2) AL.nil)) AL.nil)) (LE.rom 0)) AL.nil))) :: (BE.le (IE.fn .i64 4 (AL.lst (LE.cat (LE.fn 1 (AL.int .u64 (IE.fn .u64 2 (AL.int .i64 (IE.var .i64 2) AL.nil)) AL.nil)) (LE.rom 0)) AL.nil)) (IE.add (IE.len (LE.fn 1 (AL.int .u64 (IE.fn .u64 2 (AL.int .i64 (IE.var .i64 2) AL.nil)) AL.nil))) (IE.len (LE.rom 0)))) :: (BE.le (IE.lit 0) (IE.fn .i64 4 (AL.lst (LE.cat (LE.fn 1 (AL.int .u64 (IE.var .u64 1) AL.nil)) (LE.rom 0)) AL.nil))) :: (BE.le (IE.fn .i64 4 (AL.lst (LE.cat (LE.fn 1 (AL.int .u64 (IE.var .u64 1) AL.nil)) (LE.rom 0)) AL.nil)) (IE.add (IE.len (LE.fn 1 (AL.int .u64 (IE.var .u64 1) AL.nil))) (IE.len (LE.rom 0)))) :: (BE.le (IE.lit 1) (IE.len (LE.fn 1 (AL.int .u64 (IE.fn .u64 2 (AL.int .i64 (IE.var .i64 2) AL.nil)) AL.nil)))) :: (BE.le (IE.len (LE.fn 1 (AL.int .u64 (IE.fn .u64 2 (AL.int .i64 (IE.var .i64 2) AL.nil)) AL.nil))) (IE.lit 10)) :: (BE.le (IE.lit 1) (IE.len (LE.fn 1 (AL.int .u64 (IE.var .u64 1) AL.nil)))) :: (BE.le (IE.len (LE.fn 1 (AL.int .u64 (IE.var .u64 1) AL.nil))) (IE.lit 10)) :: (BE.le (IE.lit 1) (IE.len (LE.fn 1 (AL.int .u64 (IE.fn .u64 2 (AL.int .i64 (IE.var .i64 2) AL.nil)) AL.nil)))) :: (BE.le (IE.len (LE.fn 1 (AL.int .u64 (IE.fn .u64 2 (AL.int .i64 (IE.var .i64 2) AL.nil)) AL.nil))) (IE.lit 10)) :: (BE.le (IE.lit 1) (IE.len (LE.fn 1 (AL.int .u64 (IE.var .u64 1) AL.nil)))) :: (BE.le (IE.len (LE.fn 1 (AL.int .u64 (IE.var .u64 1) AL.nil))) (IE.lit 10)) :: (BE.le (IE.len (LE.rom 0)) (IE.lit 200)) :: pcnumbers_0)
def pcnumbers_2 : List BE := ((BE.eq (IE.fn .u64 3 (AL.lst (LE.cat (LE.fn 1 (AL.int .u64 (IE.var .u64 1) AL.nil)) (LE.rom 0)) AL.nil)) (IE.var .u64 1)) :: pcnumbers_1)
def pcnumbers_3 : List BE := ((BE.eq (IE.fn .i64 6 (AL.int .u64 (IE.fn .u64 3 (AL.lst (LE.cat (LE.fn 1 (AL.int .u64 (IE.fn .u64 2 (AL.int .i64 (IE.var .i64 2) AL.nil)) AL.nil)) (LE.rom 0)) AL.nil)) AL.nil)) (IE.var .i64 2)) :: pcnumbers_2)
def pcnumbers_4 : List BE := ((BE.eq (IE.fn .i64 4 (AL.lst (LE.cat (LE.fn 1 (AL.int .u64 (IE.var .u64 1) AL.nil)) (LE.rom 0)) AL.nil)) (IE.len (LE.fn 1 (AL.int .u64 (IE.var .u64 1) AL.nil)))) :: pcnumbers_3)
def pcnumbers_5 : List BE := ((BE.eq (IE.fn .i64 4 (AL.lst (LE.cat (LE.fn 1 (AL.int .u64 (IE.fn .u64 2 (AL.int .i64 (IE.var .i64 2) AL.nil)) AL.nil)) (LE.rom 0)) AL.nil)) (IE.len (LE.fn 1 (AL.int .u64 (IE.fn .u64 2 (AL.int .i64 (IE.var .i64 2) AL.nil)) AL.nil)))) :: pcnumbers_4)
def wnumbers_0 : VW := (VW.done ((BE.eq (IE.wrap .i64 (IE.add (IE.fn .i64 5 (AL.lst (LE.cat (LE.fn 1 (AL.int .u64 (IE.var .u64 1) AL.nil)) (LE.rom 0)) AL.nil)) (IE.fn .i64 5 (AL.lst (LE.cat (LE.fn 1 (AL.int .u64 (IE.fn .u64 2 (AL.int .i64 (IE.var .i64 2) AL.nil)) AL.nil)) (LE.rom 0)) AL.nil)))) (IE.lit 0)) :: pcnumbers_5) (some []))
def wnumbers_1 : VW := (VW.done ((BE.not (BE.eq (IE.wrap .i64 (IE.add (IE.fn .i64 5 (AL.lst (LE.cat (LE.fn 1 (AL.int .u64 (IE.var .u64 1) AL.nil)) (LE.rom 0)) AL.nil)) (IE.fn .i64 5 (AL.lst (LE.cat (LE.fn 1 (AL.int .u64 (IE.fn .u64 2 (AL.int .i64 (IE.var .i64 2) AL.nil)) AL.nil)) (LE.rom 0)) AL.nil)))) (IE.lit 0))) :: pcnumbers_5) (some [(G.b (BE.lit true) (BE.lit false))]))
def wnumbers_2 : VW := (VW.done ((BE.not (BE.eq (IE.fn .i64 4 (AL.lst (LE.cat (LE.fn 1 (AL.int .u64 (IE.fn .u64 2 (AL.int .i64 (IE.var .i64 2) AL.nil)) AL.nil)) (LE.rom 0)) AL.nil)) (IE.len (LE.fn 1 (AL.int .u64 (IE.fn .u64 2 (AL.int .i64 (IE.var .i64 2) AL.nil)) AL.nil))))) :: pcnumbers_4) (some [(G.b (BE.lit true) (BE.lit false))]))
def wnumbers_3 : VW := (VW.done ((BE.not (BE.eq (IE.fn .i64 4 (AL.lst (LE.cat (LE.fn 1 (AL.int .u64 (IE.var .u64 1) AL.nil)) (LE.rom 0)) AL.nil)) (IE.len (LE.fn 1 (AL.int .u64 (IE.var .u64 1) AL.nil))))) :: pcnumbers_3) (some [(G.b (BE.lit true) (BE.lit false))]))
def wnumbers_4 : VW := (VW.done ((BE.not (BE.eq (IE.fn .i64 6 (AL.int .u64 (IE.fn .u64 3 (AL.lst (LE.cat (LE.fn 1 (AL.int .u64 (IE.fn .u64 2 (AL.int .i64 (IE.var .i64 2) AL.nil)) AL.nil)) (LE.rom 0)) AL.nil)) AL.nil)) (IE.var .i64 2))) :: pcnumbers_2) (some [(G.b (BE.lit true) (BE.lit false))]))
def wnumbers_5 : VW := (VW.done ((BE.not (BE.eq (IE.fn .u64 3 (AL.lst (LE.cat (LE.fn 1 (AL.int .u64 (IE.var .u64 1) AL.nil)) (LE.rom 0)) AL.nil)) (IE.var .u64 1))) :: pcnumbers_1) (some [(G.b (BE.lit true) (BE.lit false))]))
def wnumbers_6 : VW := (VW.done ((BE.not (BE.le (IE.len (LE.rom 0)) (IE.lit 200))) :: pcnumbers_0) (some []))
def vwnumbers : List VW := [wnumbers_0, wnumbers_1, wnumbers_2, wnumbers_3, wnumbers_4, wnumbers_5, wnumbers_6]
end
theorem vcnumbers_0 : VD TTnumbers (st0 cNumbers) wnumbers_0 := by
  intro ρ kn hp
  exact all_nil
theorem vcnumbers_1 : VD TTnumbers (st0 cNumbers) wnumbers_1 := by
  intro ρ kn hp
  have hF : ρ.z.F = oct.Φ := kn.F
  simp only [h_nil, h_cons, d_le, d_eq, d_not, d_var, d_lit, d_cel, d_leq, d_fn, d_and, d_iff, IE.den, LE.den, AL.den, lenV, true_and, and_true, pcnumbers_5, pcnumbers_4, pcnumbers_3, pcnumbers_2, pcnumbers_1, pcnumbers_0, hF, pi2, pi3, pi4, pi5, pi6, pi7, pl1] at hp
  obtain ⟨p1, p2, p3, p4, p5, p6, p7, p8, p9, p10, p11, p12, p13, p14, p15, p16, p17, p18, p19⟩ := hp
  exfalso
  have r1 := u64_rng kn.ok 1
  have c1 := u64_in r1
  have r2 := twice_rng (i64_rng kn.ok 2)
  have c2 : clampK .u64 (twiceN (ρ.i .i64 2)) = twiceN (ρ.i .i64 2) := u64_in r2
  have c5 : clampK .i64 (ρ.i .i64 2) = ρ.i .i64 2 := clamp_id ⟨(i64_rng kn.ok 2).1, (i64_rng kn.ok 2).2⟩
  have l1 := num_len (ρ.i .u64 1)
  have l2 := num_len (twiceN (ρ.i .i64 2))
  have e1 : clampK .i64 (((numL (ρ.i .u64 1)).length : Nat) : Int) = (((numL (ρ.i .u64 1)).length : Nat) : Int) := clampS (by omega) (by omega)
  have e2 : clampK .i64 (((numL (twiceN (ρ.i .i64 2))).length : Nat) : Int) = (((numL (twiceN (ρ.i .i64 2))).length : Nat) : Int) := clampS (by omega) (by omega)
  obtain ⟨a1, a2, a3⟩ := read_back r1.1 r1.2 (ρ.z.rl 0)
  obtain ⟨b1, b2, b3⟩ := read_back r2.1 r2.2 (ρ.z.rl 0)
  simp only [c1, c2] at p1
  try simp only [a1, a2, a3, b1, b2, b3, c1, c2, c5, e1, e2, half_twice] at p1
  first | exact p1 rfl | exact p1 (by decide) | omega
theorem vcnumbers_2 : VD TTnumbers (st0 cNumbers) wnumbers_2 := by
  intro ρ kn hp
  have hF : ρ.z.F = oct.Φ := kn.F
  simp only [h_nil, h_cons, d_le, d_eq, d_not, d_var, d_lit, d_cel, d_leq, d_fn, d_and, d_iff, IE.den, LE.den, AL.den, lenV, true_and, and_true, pcnumbers_4, pcnumbers_3, pcnumbers_2, pcnumbers_1, pcnumbers_0, hF, pi2, pi3, pi4, pi5, pi6, pi7, pl1] at hp
  obtain ⟨p1, p2, p3, p4, p5, p6, p7, p8, p9, p10, p11, p12, p13, p14, p15, p16, p17, p18⟩ := hp
  exfalso
  have r1 := u64_rng kn.ok 1
  have c1 := u64_in r1
  have r2 := twice_rng (i64_rng kn.ok 2)
  have c2 : clampK .u64 (twiceN (ρ.i .i64 2)) = twiceN (ρ.i .i64 2) := u64_in r2
  have c5 : clampK .i64 (ρ.i .i64 2) = ρ.i .i64 2 := clamp_id ⟨(i64_rng kn.ok 2).1, (i64_rng kn.ok 2).2⟩
  have l1 := num_len (ρ.i .u64 1)
  have l2 := num_len (twiceN (ρ.i .i64 2))
  have e1 : clampK .i64 (((numL (ρ.i .u64 1)).length : Nat) : Int) = (((numL (ρ.i .u64 1)).length : Nat) : Int) := clampS (by omega) (by omega)
  have e2 : clampK .i64 (((numL (twiceN (ρ.i .i64 2))).length : Nat) : Int) = (((numL (twiceN (ρ.i .i64 2))).length : Nat) : Int) := clampS (by omega) (by omega)
  obtain ⟨a1, a2, a3⟩ := read_back r1.1 r1.2 (ρ.z.rl 0)
  obtain ⟨b1, b2, b3⟩ := read_back r2.1 r2.2 (ρ.z.rl 0)
  simp only [c1, c2] at p1
  try simp only [a1, a2, a3, b1, b2, b3, c1, c2, c5, e1, e2, half_twice] at p1
  first | exact p1 rfl | exact p1 (by decide) | omega
theorem vcnumbers_3 : VD TTnumbers (st0 cNumbers) wnumbers_3 := by
  intro ρ kn hp
  have hF : ρ.z.F = oct.Φ := kn.F
  simp only [h_nil, h_cons, d_le, d_eq, d_not, d_var, d_lit, d_cel, d_leq, d_fn, d_and, d_iff, IE.den, LE.den, AL.den, lenV, true_and, and_true, pcnumbers_3, pcnumbers_2, pcnumbers_1, pcnumbers_0, hF, pi2, pi3, pi4, pi5, pi6, pi7, pl1] at hp
  obtain ⟨p1, p2, p3, p4, p5, p6, p7, p8, p9, p10, p11, p12, p13, p14, p15, p16, p17⟩ := hp
  exfalso
  have r1 := u64_rng kn.ok 1
  have c1 := u64_in r1
  have r2 := twice_rng (i64_rng kn.ok 2)
  have c2 : clampK .u64 (twiceN (ρ.i .i64 2)) = twiceN (ρ.i .i64 2) := u64_in r2
  have c5 : clampK .i64 (ρ.i .i64 2) = ρ.i .i64 2 := clamp_id ⟨(i64_rng kn.ok 2).1, (i64_rng kn.ok 2).2⟩
  have l1 := num_len (ρ.i .u64 1)
  have l2 := num_len (twiceN (ρ.i .i64 2))
  have e1 : clampK .i64 (((numL (ρ.i .u64 1)).length : Nat) : Int) = (((numL (ρ.i .u64 1)).length : Nat) : Int) := clampS (by omega) (by omega)
  have e2 : clampK .i64 (((numL (twiceN (ρ.i .i64 2))).length : Nat) : Int) = (((numL (twiceN (ρ.i .i64 2))).length : Nat) : Int) := clampS (by omega) (by omega)
  obtain ⟨a1, a2, a3⟩ := read_back r1.1 r1.2 (ρ.z.rl 0)
  obtain ⟨b1, b2, b3⟩ := read_back r2.1 r2.2 (ρ.z.rl 0)
  simp only [c1, c2] at p1
  try simp only [a1, a2, a3, b1, b2, b3, c1, c2, c5, e1, e2, half_twice] at p1
  first | exact p1 rfl | exact p1 (by decide) | omega
theorem vcnumbers_4 : VD TTnumbers (st0 cNumbers) wnumbers_4 := by
  intro ρ kn hp
  have hF : ρ.z.F = oct.Φ := kn.F
  simp only [h_nil, h_cons, d_le, d_eq, d_not, d_var, d_lit, d_cel, d_leq, d_fn, d_and, d_iff, IE.den, LE.den, AL.den, lenV, true_and, and_true, pcnumbers_2, pcnumbers_1, pcnumbers_0, hF, pi2, pi3, pi4, pi5, pi6, pi7, pl1] at hp
  obtain ⟨p1, p2, p3, p4, p5, p6, p7, p8, p9, p10, p11, p12, p13, p14, p15, p16⟩ := hp
  exfalso
  have r1 := u64_rng kn.ok 1
  have c1 := u64_in r1
  have r2 := twice_rng (i64_rng kn.ok 2)
  have c2 : clampK .u64 (twiceN (ρ.i .i64 2)) = twiceN (ρ.i .i64 2) := u64_in r2
  have c5 : clampK .i64 (ρ.i .i64 2) = ρ.i .i64 2 := clamp_id ⟨(i64_rng kn.ok 2).1, (i64_rng kn.ok 2).2⟩
  have l1 := num_len (ρ.i .u64 1)
  have l2 := num_len (twiceN (ρ.i .i64 2))
  have e1 : clampK .i64 (((numL (ρ.i .u64 1)).length : Nat) : Int) = (((numL (ρ.i .u64 1)).length : Nat) : Int) := clampS (by omega) (by omega)
  have e2 : clampK .i64 (((numL (twiceN (ρ.i .i64 2))).length : Nat) : Int) = (((numL (twiceN (ρ.i .i64 2))).length : Nat) : Int) := clampS (by omega) (by omega)
  obtain ⟨a1, a2, a3⟩ := read_back r1.1 r1.2 (ρ.z.rl 0)
  obtain ⟨b1, b2, b3⟩ := read_back r2.1 r2.2 (ρ.z.rl 0)
  simp only [c1, c2] at p1
  try simp only [a1, a2, a3, b1, b2, b3, c1, c2, c5, e1, e2, half_twice] at p1
  first | exact p1 rfl | exact p1 (by decide) | omega
theorem vcnumbers_5 : VD TTnumbers (st0 cNumbers) wnumbers_5 := by
  intro ρ kn hp
  have hF : ρ.z.F = oct.Φ := kn.F
  simp only [h_nil, h_cons, d_le, d_eq, d_not, d_var, d_lit, d_cel, d_leq, d_fn, d_and, d_iff, IE.den, LE.den, AL.den, lenV, true_and, and_true, pcnumbers_1, pcnumbers_0, hF, pi2, pi3, pi4, pi5, pi6, pi7, pl1] at hp
  obtain ⟨p1, p2, p3, p4, p5, p6, p7, p8, p9, p10, p11, p12, p13, p14, p15⟩ := hp
  exfalso
  have r1 := u64_rng kn.ok 1
  have c1 := u64_in r1
  have r2 := twice_rng (i64_rng kn.ok 2)
  have c2 : clampK .u64 (twiceN (ρ.i .i64 2)) = twiceN (ρ.i .i64 2) := u64_in r2
  have c5 : clampK .i64 (ρ.i .i64 2) = ρ.i .i64 2 := clamp_id ⟨(i64_rng kn.ok 2).1, (i64_rng kn.ok 2).2⟩
  have l1 := num_len (ρ.i .u64 1)
  have l2 := num_len (twiceN (ρ.i .i64 2))
  have e1 : clampK .i64 (((numL (ρ.i .u64 1)).length : Nat) : Int) = (((numL (ρ.i .u64 1)).length : Nat) : Int) := clampS (by omega) (by omega)
  have e2 : clampK .i64 (((numL (twiceN (ρ.i .i64 2))).length : Nat) : Int) = (((numL (twiceN (ρ.i .i64 2))).length : Nat) : Int) := clampS (by omega) (by omega)
  obtain ⟨a1, a2, a3⟩ := read_back r1.1 r1.2 (ρ.z.rl 0)
  obtain ⟨b1, b2, b3⟩ := read_back r2.1 r2.2 (ρ.z.rl 0)
  simp only [c1, c2] at p1
  try simp only [a1, a2, a3, b1, b2, b3, c1, c2, c5, e1, e2, half_twice] at p1
  first | exact p1 rfl | exact p1 (by decide) | omega
theorem vcnumbers_6 : VD TTnumbers (st0 cNumbers) wnumbers_6 := by
  intro ρ kn hp
  exact all_nil
theorem told_numbers : Sx.Told oct.Φ cNumbers := told_vw (cs := [cWorks, cNumber, cSigned, cRNumber, cRSigned, cRead, cSRead, cRRead, cRSRead]) (all_cons told_works (all_cons told_number (all_cons told_signed (all_cons told_rnumber (all_cons told_rsigned (all_cons told_read (all_cons told_sread (all_cons told_rread (all_cons told_rsread (all_nil)))))))))) 9000 vwnumbers (by kernel_rfl) (by kernel_rfl) (by kernel_rfl) (post_nil rfl) (by kernel_rfl) (by kernel_rfl) (all_cons vcnumbers_0 (all_cons vcnumbers_1 (all_cons vcnumbers_2 (all_cons vcnumbers_3 (all_cons vcnumbers_4 (all_cons vcnumbers_5 (all_cons vcnumbers_6 (all_nil))))))))
noncomputable section
abbrev TTnumbers0 : Tab := T oct.Φ cNumbers0.roms [cWorks, cNumber, cSigned, cRNumber, cRSigned, cRead, cSRead, cRRead, cRSRead]
def pcnumbers0_0 : List BE := [(BE.le (IE.lit 0) (IE.fn .i64 4 (AL.lst (LE.cat (LE.cat (LE.fn 1 (AL.int .u64 (IE.fn .u64 2 (AL.int .i64 (IE.var .i64 2) AL.nil)) AL.nil)) (LE.take (LE.rom 0) (IE.lit 0))) (LE.drop (LE.fn 1 (AL.int .u64 (IE.fn .u64 2 (AL.int .i64 (IE.var .i64 2) AL.nil)) AL.nil)) (IE.len (LE.fn 1 (AL.int .u64 (IE.fn .u64 2 (AL.int .i64 (IE.var .i64 2) AL.nil)) AL.nil))))) AL.nil))), (BE.le (IE.fn .i64 4 (AL.lst (LE.cat (LE.cat (LE.fn 1 (AL.int .u64 (IE.fn .u64 2 (AL.int .i64 (IE.var .i64 2) AL.nil)) AL.nil)) (LE.take (LE.rom 0) (IE.lit 0))) (LE.drop (LE.fn 1 (AL.int .u64 (IE.fn .u64 2 (AL.int .i64 (IE.var .i64 2) AL.nil)) AL.nil)) (IE.len (LE.fn 1 (AL.int .u64 (IE.fn .u64 2 (AL.int .i64 (IE.var .i64 2) AL.nil)) AL.nil))))) AL.nil)) (IE.len (LE.fn 1 (AL.int .u64 (IE.fn .u64 2 (AL.int .i64 (IE.var .i64 2) AL.nil)) AL.nil)))), (BE.le (IE.lit 0) (IE.fn .i64 4 (AL.lst (LE.cat (LE.cat (LE.fn 1 (AL.int .u64 (IE.var .u64 1) AL.nil)) (LE.take (LE.rom 0) (IE.lit 0))) (LE.drop (LE.fn 1 (AL.int .u64 (IE.var .u64 1) AL.nil)) (IE.len (LE.fn 1 (AL.int .u64 (IE.var .u64 1) AL.nil))))) AL.nil))), (BE.le (IE.fn .i64 4 (AL.lst (LE.cat (LE.cat (LE.fn 1 (AL.int .u64 (IE.var .u64 1) AL.nil)) (LE.take (LE.rom 0) (IE.lit 0))) (LE.drop (LE.fn 1 (AL.int .u64 (IE.var .u64 1) AL.nil)) (IE.len (LE.fn 1 (AL.int .u64 (IE.var .u64 1) AL.nil))))) AL.nil)) (IE.len (LE.fn 1 (AL.int .u64 (IE.var .u64 1) AL.nil)))), (BE.le (IE.lit 1) (IE.len (LE.fn 1 (AL.int .u64 (IE.fn .u64 2 (AL.int .i64 (IE.var .i64 2) AL.nil)) AL.nil)))), (BE.le (IE.len (LE.fn 1 (AL.int .u64 (IE.fn .u64 2 (AL.int .i64 (IE.var .i64 2) AL.nil)) AL.nil))) (IE.lit 10)), (BE.le (IE.lit 1) (IE.len (LE.fn 1 (AL.int .u64 (IE.var .u64 1) AL.nil)))), (BE.le (IE.len (LE.fn 1 (AL.int .u64 (IE.var .u64 1) AL.nil))) (IE.lit 10)), (BE.le (IE.lit 1) (IE.len (LE.fn 1 (AL.int .u64 (IE.fn .u64 2 (AL.int .i64 (IE.var .i64 2) AL.nil)) AL.nil)))), (BE.le (IE.len (LE.fn 1 (AL.int .u64 (IE.fn .u64 2 (AL.int .i64 (IE.var .i64 2) AL.nil)) AL.nil))) (IE.lit 10)), (BE.le (IE.lit 1) (IE.len (LE.fn 1 (AL.int .u64 (IE.var .u64 1) AL.nil)))), (BE.le (IE.len (LE.fn 1 (AL.int .u64 (IE.var .u64 1) AL.nil))) (IE.lit 10)), (BE.lit true)]
def pcnumbers0_1 : List BE := ((BE.eq (IE.fn .u64 3 (AL.lst (LE.cat (LE.cat (LE.fn 1 (AL.int .u64 (IE.var .u64 1) AL.nil)) (LE.take (LE.rom 0) (IE.lit 0))) (LE.drop (LE.fn 1 (AL.int .u64 (IE.var .u64 1) AL.nil)) (IE.len (LE.fn 1 (AL.int .u64 (IE.var .u64 1) AL.nil))))) AL.nil)) (IE.var .u64 1)) :: pcnumbers0_0)
def pcnumbers0_2 : List BE := ((BE.eq (IE.fn .i64 6 (AL.int .u64 (IE.fn .u64 3 (AL.lst (LE.cat (LE.cat (LE.fn 1 (AL.int .u64 (IE.fn .u64 2 (AL.int .i64 (IE.var .i64 2) AL.nil)) AL.nil)) (LE.take (LE.rom 0) (IE.lit 0))) (LE.drop (LE.fn 1 (AL.int .u64 (IE.fn .u64 2 (AL.int .i64 (IE.var .i64 2) AL.nil)) AL.nil)) (IE.len (LE.fn 1 (AL.int .u64 (IE.fn .u64 2 (AL.int .i64 (IE.var .i64 2) AL.nil)) AL.nil))))) AL.nil)) AL.nil)) (IE.var .i64 2)) :: pcnumbers0_1)
def pcnumbers0_3 : List BE := ((BE.eq (IE.fn .i64 4 (AL.lst (LE.cat (LE.cat (LE.fn 1 (AL.int .u64 (IE.var .u64 1) AL.nil)) (LE.take (LE.rom 0) (IE.lit 0))) (LE.drop (LE.fn 1 (AL.int .u64 (IE.var .u64 1) AL.nil)) (IE.len (LE.fn 1 (AL.int .u64 (IE.var .u64 1) AL.nil))))) AL.nil)) (IE.len (LE.fn 1 (AL.int .u64 (IE.var .u64 1) AL.nil)))) :: pcnumbers0_2)
def pcnumbers0_4 : List BE := ((BE.eq (IE.fn .i64 4 (AL.lst (LE.cat (LE.cat (LE.fn 1 (AL.int .u64 (IE.fn .u64 2 (AL.int .i64 (IE.var .i64 2) AL.nil)) AL.nil)) (LE.take (LE.rom 0) (IE.lit 0))) (LE.drop (LE.fn 1 (AL.int .u64 (IE.fn .u64 2 (AL.int .i64 (IE.var .i64 2) AL.nil)) AL.nil)) (IE.len (LE.fn 1 (AL.int .u64 (IE.fn .u64 2 (AL.int .i64 (IE.var .i64 2) AL.nil)) AL.nil))))) AL.nil)) (IE.len (LE.fn 1 (AL.int .u64 (IE.fn .u64 2 (AL.int .i64 (IE.var .i64 2) AL.nil)) AL.nil)))) :: pcnumbers0_3)
def wnumbers0_0 : VW := (VW.done ((BE.eq (IE.wrap .i64 (IE.add (IE.fn .i64 5 (AL.lst (LE.cat (LE.cat (LE.fn 1 (AL.int .u64 (IE.var .u64 1) AL.nil)) (LE.take (LE.rom 0) (IE.lit 0))) (LE.drop (LE.fn 1 (AL.int .u64 (IE.var .u64 1) AL.nil)) (IE.len (LE.fn 1 (AL.int .u64 (IE.var .u64 1) AL.nil))))) AL.nil)) (IE.fn .i64 5 (AL.lst (LE.cat (LE.cat (LE.fn 1 (AL.int .u64 (IE.fn .u64 2 (AL.int .i64 (IE.var .i64 2) AL.nil)) AL.nil)) (LE.take (LE.rom 0) (IE.lit 0))) (LE.drop (LE.fn 1 (AL.int .u64 (IE.fn .u64 2 (AL.int .i64 (IE.var .i64 2) AL.nil)) AL.nil)) (IE.len (LE.fn 1 (AL.int .u64 (IE.fn .u64 2 (AL.int .i64 (IE.var .i64 2) AL.nil)) AL.nil))))) AL.nil)))) (IE.lit 0)) :: pcnumbers0_4) (some []))
def wnumbers0_1 : VW := (VW.done ((BE.not (BE.eq (IE.wrap .i64 (IE.add (IE.fn .i64 5 (AL.lst (LE.cat (LE.cat (LE.fn 1 (AL.int .u64 (IE.var .u64 1) AL.nil)) (LE.take (LE.rom 0) (IE.lit 0))) (LE.drop (LE.fn 1 (AL.int .u64 (IE.var .u64 1) AL.nil)) (IE.len (LE.fn 1 (AL.int .u64 (IE.var .u64 1) AL.nil))))) AL.nil)) (IE.fn .i64 5 (AL.lst (LE.cat (LE.cat (LE.fn 1 (AL.int .u64 (IE.fn .u64 2 (AL.int .i64 (IE.var .i64 2) AL.nil)) AL.nil)) (LE.take (LE.rom 0) (IE.lit 0))) (LE.drop (LE.fn 1 (AL.int .u64 (IE.fn .u64 2 (AL.int .i64 (IE.var .i64 2) AL.nil)) AL.nil)) (IE.len (LE.fn 1 (AL.int .u64 (IE.fn .u64 2 (AL.int .i64 (IE.var .i64 2) AL.nil)) AL.nil))))) AL.nil)))) (IE.lit 0))) :: pcnumbers0_4) (some [(G.b (BE.lit true) (BE.lit false))]))
def wnumbers0_2 : VW := (VW.done ((BE.not (BE.eq (IE.fn .i64 4 (AL.lst (LE.cat (LE.cat (LE.fn 1 (AL.int .u64 (IE.fn .u64 2 (AL.int .i64 (IE.var .i64 2) AL.nil)) AL.nil)) (LE.take (LE.rom 0) (IE.lit 0))) (LE.drop (LE.fn 1 (AL.int .u64 (IE.fn .u64 2 (AL.int .i64 (IE.var .i64 2) AL.nil)) AL.nil)) (IE.len (LE.fn 1 (AL.int .u64 (IE.fn .u64 2 (AL.int .i64 (IE.var .i64 2) AL.nil)) AL.nil))))) AL.nil)) (IE.len (LE.fn 1 (AL.int .u64 (IE.fn .u64 2 (AL.int .i64 (IE.var .i64 2) AL.nil)) AL.nil))))) :: pcnumbers0_3) (some [(G.b (BE.lit true) (BE.lit false))]))
def wnumbers0_3 : VW := (VW.done ((BE.not (BE.eq (IE.fn .i64 4 (AL.lst (LE.cat (LE.cat (LE.fn 1 (AL.int .u64 (IE.var .u64 1) AL.nil)) (LE.take (LE.rom 0) (IE.lit 0))) (LE.drop (LE.fn 1 (AL.int .u64 (IE.var .u64 1) AL.nil)) (IE.len (LE.fn 1 (AL.int .u64 (IE.var .u64 1) AL.nil))))) AL.nil)) (IE.len (LE.fn 1 (AL.int .u64 (IE.var .u64 1) AL.nil))))) :: pcnumbers0_2) (some [(G.b (BE.lit true) (BE.lit false))]))
def wnumbers0_4 : VW := (VW.done ((BE.not (BE.eq (IE.fn .i64 6 (AL.int .u64 (IE.fn .u64 3 (AL.lst (LE.cat (LE.cat (LE.fn 1 (AL.int .u64 (IE.fn .u64 2 (AL.int .i64 (IE.var .i64 2) AL.nil)) AL.nil)) (LE.take (LE.rom 0) (IE.lit 0))) (LE.drop (LE.fn 1 (AL.int .u64 (IE.fn .u64 2 (AL.int .i64 (IE.var .i64 2) AL.nil)) AL.nil)) (IE.len (LE.fn 1 (AL.int .u64 (IE.fn .u64 2 (AL.int .i64 (IE.var .i64 2) AL.nil)) AL.nil))))) AL.nil)) AL.nil)) (IE.var .i64 2))) :: pcnumbers0_1) (some [(G.b (BE.lit true) (BE.lit false))]))
def wnumbers0_5 : VW := (VW.done ((BE.not (BE.eq (IE.fn .u64 3 (AL.lst (LE.cat (LE.cat (LE.fn 1 (AL.int .u64 (IE.var .u64 1) AL.nil)) (LE.take (LE.rom 0) (IE.lit 0))) (LE.drop (LE.fn 1 (AL.int .u64 (IE.var .u64 1) AL.nil)) (IE.len (LE.fn 1 (AL.int .u64 (IE.var .u64 1) AL.nil))))) AL.nil)) (IE.var .u64 1))) :: pcnumbers0_0) (some [(G.b (BE.lit true) (BE.lit false))]))
def vwnumbers0 : List VW := [wnumbers0_0, wnumbers0_1, wnumbers0_2, wnumbers0_3, wnumbers0_4, wnumbers0_5]
end
theorem vcnumbers0_0 : VD TTnumbers0 (st0 cNumbers0) wnumbers0_0 := by
  intro ρ kn hp
  exact all_nil
theorem vcnumbers0_1 : VD TTnumbers0 (st0 cNumbers0) wnumbers0_1 := by
  intro ρ kn hp
  have hF : ρ.z.F = oct.Φ := kn.F
  simp only [h_nil, h_cons, d_le, d_eq, d_not, d_var, d_lit, d_cel, d_leq, d_fn, d_and, d_iff, IE.den, LE.den, AL.den, lenV, true_and, and_true, pcnumbers0_4, pcnumbers0_3, pcnumbers0_2, pcnumbers0_1, pcnumbers0_0, hF, pi2, pi3, pi4, pi5, pi6, pi7, pl1] at hp
  obtain ⟨p1, p2, p3, p4, p5, p6, p7, p8, p9, p10, p11, p12, p13, p14, p15, p16, p17⟩ := hp
  exfalso
  have r1 := u64_rng kn.ok 1
  have c1 := u64_in r1
  have r2 := twice_rng (i64_rng kn.ok 2)
  have c2 : clampK .u64 (twiceN (ρ.i .i64 2)) = twiceN (ρ.i .i64 2) := u64_in r2
  have c5 : clampK .i64 (ρ.i .i64 2) = ρ.i .i64 2 := clamp_id ⟨(i64_rng kn.ok 2).1, (i64_rng kn.ok 2).2⟩
  have l1 := num_len (ρ.i .u64 1)
  have l2 := num_len (twiceN (ρ.i .i64 2))
  have e1 : clampK .i64 (((numL (ρ.i .u64 1)).length : Nat) : Int) = (((numL (ρ.i .u64 1)).length : Nat) : Int) := clampS (by omega) (by omega)
  have e2 : clampK .i64 (((numL (twiceN (ρ.i .i64 2))).length : Nat) : Int) = (((numL (twiceN (ρ.i .i64 2))).length : Nat) : Int) := clampS (by omega) (by omega)
  obtain ⟨a1, a2, a3⟩ := read_back r1.1 r1.2 []
  obtain ⟨b1, b2, b3⟩ := read_back r2.1 r2.2 []
  have t0 : (ρ.z.rl 0).take (0 : Int).toNat = [] := rfl
  have d0 : ∀ x : LV, x.drop ((x.length : Nat) : Int).toNat = [] := fun x => List.drop_eq_nil_of_le (by rw [Int.toNat_natCast]; exact Nat.le_refl _)
  simp only [List.append_nil] at a1 a2 a3 b1 b2 b3
  simp only [t0, d0, List.append_nil] at p1
  simp only [c1, c2] at p1
  try simp only [a1, a2, a3, b1, b2, b3, c1, c2, c5, e1, e2, half_twice] at p1
  first | exact p1 rfl | exact p1 (by decide) | omega
theorem vcnumbers0_2 : VD TTnumbers0 (st0 cNumbers0) wnumbers0_2 := by
  intro ρ kn hp
  have hF : ρ.z.F = oct.Φ := kn.F
  simp only [h_nil, h_cons, d_le, d_eq, d_not, d_var, d_lit, d_cel, d_leq, d_fn, d_and, d_iff, IE.den, LE.den, AL.den, lenV, true_and, and_true, pcnumbers0_3, pcnumbers0_2, pcnumbers0_1, pcnumbers0_0, hF, pi2, pi3, pi4, pi5, pi6, pi7, pl1] at hp
  obtain ⟨p1, p2, p3, p4, p5, p6, p7, p8, p9, p10, p11, p12, p13, p14, p15, p16⟩ := hp
  exfalso
  have r1 := u64_rng kn.ok 1
  have c1 := u64_in r1
  have r2 := twice_rng (i64_rng kn.ok 2)
  have c2 : clampK .u64 (twiceN (ρ.i .i64 2)) = twiceN (ρ.i .i64 2) := u64_in r2
  have c5 : clampK .i64 (ρ.i .i64 2) = ρ.i .i64 2 := clamp_id ⟨(i64_rng kn.ok 2).1, (i64_rng kn.ok 2).2⟩
  have l1 := num_len (ρ.i .u64 1)
  have l2 := num_len (twiceN (ρ.i .i64 2))
  have e1 : clampK .i64 (((numL (ρ.i .u64 1)).length : Nat) : Int) = (((numL (ρ.i .u64 1)).length : Nat) : Int) := clampS (by omega) (by omega)
  have e2 : clampK .i64 (((numL (twiceN (ρ.i .i64 2))).length : Nat) : Int) = (((numL (twiceN (ρ.i .i64 2))).length : Nat) : Int) := clampS (by omega) (by omega)
  obtain ⟨a1, a2, a3⟩ := read_back r1.1 r1.2 []
  obtain ⟨b1, b2, b3⟩ := read_back r2.1 r2.2 []
  have t0 : (ρ.z.rl 0).take (0 : Int).toNat = [] := rfl
  have d0 : ∀ x : LV, x.drop ((x.length : Nat) : Int).toNat = [] := fun x => List.drop_eq_nil_of_le (by rw [Int.toNat_natCast]; exact Nat.le_refl _)
  simp only [List.append_nil] at a1 a2 a3 b1 b2 b3
  simp only [t0, d0, List.append_nil] at p1
  simp only [c1, c2] at p1
  try simp only [a1, a2, a3, b1, b2, b3, c1, c2, c5, e1, e2, half_twice] at p1
  first | exact p1 rfl | exact p1 (by decide) | omega
theorem vcnumbers0_3 : VD TTnumbers0 (st0 cNumbers0) wnumbers0_3 := by
  intro ρ kn hp
  have hF : ρ.z.F = oct.Φ := kn.F
  simp only [h_nil, h_cons, d_le, d_eq, d_not, d_var, d_lit, d_cel, d_leq, d_fn, d_and, d_iff, IE.den, LE.den, AL.den, lenV, true_and, and_true, pcnumbers0_2, pcnumbers0_1, pcnumbers0_0, hF, pi2, pi3, pi4, pi5, pi6, pi7, pl1] at hp
  obtain ⟨p1, p2, p3, p4, p5, p6, p7, p8, p9, p10, p11, p12, p13, p14, p15⟩ := hp
  exfalso
  have r1 := u64_rng kn.ok 1
  have c1 := u64_in r1
  have r2 := twice_rng (i64_rng kn.ok 2)
  have c2 : clampK .u64 (twiceN (ρ.i .i64 2)) = twiceN (ρ.i .i64 2) := u64_in r2
  have c5 : clampK .i64 (ρ.i .i64 2) = ρ.i .i64 2 := clamp_id ⟨(i64_rng kn.ok 2).1, (i64_rng kn.ok 2).2⟩
  have l1 := num_len (ρ.i .u64 1)
  have l2 := num_len (twiceN (ρ.i .i64 2))
  have e1 : clampK .i64 (((numL (ρ.i .u64 1)).length : Nat) : Int) = (((numL (ρ.i .u64 1)).length : Nat) : Int) := clampS (by omega) (by omega)
  have e2 : clampK .i64 (((numL (twiceN (ρ.i .i64 2))).length : Nat) : Int) = (((numL (twiceN (ρ.i .i64 2))).length : Nat) : Int) := clampS (by omega) (by omega)
  obtain ⟨a1, a2, a3⟩ := read_back r1.1 r1.2 []
  obtain ⟨b1, b2, b3⟩ := read_back r2.1 r2.2 []
  have t0 : (ρ.z.rl 0).take (0 : Int).toNat = [] := rfl
  have d0 : ∀ x : LV, x.drop ((x.length : Nat) : Int).toNat = [] := fun x => List.drop_eq_nil_of_le (by rw [Int.toNat_natCast]; exact Nat.le_refl _)
  simp only [List.append_nil] at a1 a2 a3 b1 b2 b3
  simp only [t0, d0, List.append_nil] at p1
  simp only [c1, c2] at p1
  try simp only [a1, a2, a3, b1, b2, b3, c1, c2, c5, e1, e2, half_twice] at p1
  first | exact p1 rfl | exact p1 (by decide) | omega
theorem vcnumbers0_4 : VD TTnumbers0 (st0 cNumbers0) wnumbers0_4 := by
  intro ρ kn hp
  have hF : ρ.z.F = oct.Φ := kn.F
  simp only [h_nil, h_cons, d_le, d_eq, d_not, d_var, d_lit, d_cel, d_leq, d_fn, d_and, d_iff, IE.den, LE.den, AL.den, lenV, true_and, and_true, pcnumbers0_1, pcnumbers0_0, hF, pi2, pi3, pi4, pi5, pi6, pi7, pl1] at hp
  obtain ⟨p1, p2, p3, p4, p5, p6, p7, p8, p9, p10, p11, p12, p13, p14⟩ := hp
  exfalso
  have r1 := u64_rng kn.ok 1
  have c1 := u64_in r1
  have r2 := twice_rng (i64_rng kn.ok 2)
  have c2 : clampK .u64 (twiceN (ρ.i .i64 2)) = twiceN (ρ.i .i64 2) := u64_in r2
  have c5 : clampK .i64 (ρ.i .i64 2) = ρ.i .i64 2 := clamp_id ⟨(i64_rng kn.ok 2).1, (i64_rng kn.ok 2).2⟩
  have l1 := num_len (ρ.i .u64 1)
  have l2 := num_len (twiceN (ρ.i .i64 2))
  have e1 : clampK .i64 (((numL (ρ.i .u64 1)).length : Nat) : Int) = (((numL (ρ.i .u64 1)).length : Nat) : Int) := clampS (by omega) (by omega)
  have e2 : clampK .i64 (((numL (twiceN (ρ.i .i64 2))).length : Nat) : Int) = (((numL (twiceN (ρ.i .i64 2))).length : Nat) : Int) := clampS (by omega) (by omega)
  obtain ⟨a1, a2, a3⟩ := read_back r1.1 r1.2 []
  obtain ⟨b1, b2, b3⟩ := read_back r2.1 r2.2 []
  have t0 : (ρ.z.rl 0).take (0 : Int).toNat = [] := rfl
  have d0 : ∀ x : LV, x.drop ((x.length : Nat) : Int).toNat = [] := fun x => List.drop_eq_nil_of_le (by rw [Int.toNat_natCast]; exact Nat.le_refl _)
  simp only [List.append_nil] at a1 a2 a3 b1 b2 b3
  simp only [t0, d0, List.append_nil] at p1
  simp only [c1, c2] at p1
  try simp only [a1, a2, a3, b1, b2, b3, c1, c2, c5, e1, e2, half_twice] at p1
  first | exact p1 rfl | exact p1 (by decide) | omega
theorem vcnumbers0_5 : VD TTnumbers0 (st0 cNumbers0) wnumbers0_5 := by
  intro ρ kn hp
  have hF : ρ.z.F = oct.Φ := kn.F
  simp only [h_nil, h_cons, d_le, d_eq, d_not, d_var, d_lit, d_cel, d_leq, d_fn, d_and, d_iff, IE.den, LE.den, AL.den, lenV, true_and, and_true, pcnumbers0_0, hF, pi2, pi3, pi4, pi5, pi6, pi7, pl1] at hp
  obtain ⟨p1, p2, p3, p4, p5, p6, p7, p8, p9, p10, p11, p12, p13⟩ := hp
  exfalso
  have r1 := u64_rng kn.ok 1
  have c1 := u64_in r1
  have r2 := twice_rng (i64_rng kn.ok 2)
  have c2 : clampK .u64 (twiceN (ρ.i .i64 2)) = twiceN (ρ.i .i64 2) := u64_in r2
  have c5 : clampK .i64 (ρ.i .i64 2) = ρ.i .i64 2 := clamp_id ⟨(i64_rng kn.ok 2).1, (i64_rng kn.ok 2).2⟩
  have l1 := num_len (ρ.i .u64 1)
  have l2 := num_len (twiceN (ρ.i .i64 2))
  have e1 : clampK .i64 (((numL (ρ.i .u64 1)).length : Nat) : Int) = (((numL (ρ.i .u64 1)).length : Nat) : Int) := clampS (by omega) (by omega)
  have e2 : clampK .i64 (((numL (twiceN (ρ.i .i64 2))).length : Nat) : Int) = (((numL (twiceN (ρ.i .i64 2))).length : Nat) : Int) := clampS (by omega) (by omega)
  obtain ⟨a1, a2, a3⟩ := read_back r1.1 r1.2 []
  obtain ⟨b1, b2, b3⟩ := read_back r2.1 r2.2 []
  have t0 : (ρ.z.rl 0).take (0 : Int).toNat = [] := rfl
  have d0 : ∀ x : LV, x.drop ((x.length : Nat) : Int).toNat = [] := fun x => List.drop_eq_nil_of_le (by rw [Int.toNat_natCast]; exact Nat.le_refl _)
  simp only [List.append_nil] at a1 a2 a3 b1 b2 b3
  simp only [t0, d0, List.append_nil] at p1
  simp only [c1, c2] at p1
  try simp only [a1, a2, a3, b1, b2, b3, c1, c2, c5, e1, e2, half_twice] at p1
  first | exact p1 rfl | exact p1 (by decide) | omega
theorem told_numbers0 : Sx.Told oct.Φ cNumbers0 := told_vw (cs := [cWorks, cNumber, cSigned, cRNumber, cRSigned, cRead, cSRead, cRRead, cRSRead]) (all_cons told_works (all_cons told_number (all_cons told_signed (all_cons told_rnumber (all_cons told_rsigned (all_cons told_read (all_cons told_sread (all_cons told_rread (all_cons told_rsread (all_nil)))))))))) 9000 vwnumbers0 (by kernel_rfl) (by kernel_rfl) (by kernel_rfl) (post_nil rfl) (by kernel_rfl) (by kernel_rfl) (all_cons vcnumbers0_0 (all_cons vcnumbers0_1 (all_cons vcnumbers0_2 (all_cons vcnumbers0_3 (all_cons vcnumbers0_4 (all_cons vcnumbers0_5 (all_nil)))))))
end Go.Proofs.Ytjgkaimgocnkmaa.oct
