/- Layer octet: the law OctetLists. No condition. -/
import Derived.Test.YtjgkaimgocnkmaaKb
import Derived.Test.YtjgkaimgocnkmaaRh
import Derived.Test.YtjgkaimgocnkmaaQw
import Derived.Test.YtjgkaimgocnkmaaRs
set_option linter.unusedVariables false
set_option linter.unusedSimpArgs false
set_option linter.deprecated false
namespace Go.Proofs.Ytjgkaimgocnkmaa.oct
open Go Go.Proofs.Ytjgkaimgocnkmaa.Sx
noncomputable section
abbrev TTlists : Tab := T oct.Φ cLists.roms [cWorks, cFewT, cFewF, cList, cRList, cListR2, cListN2, cSameS]
def pclists_0 : List BE := [(BE.lit true)]
def pclists_1 : List BE := ((BE.le (IE.len (LE.rom 0)) (IE.lit 200)) :: (BE.fn 2 (AL.lst (LE.rom 0) AL.nil)) :: pclists_0)
def pclists_2 : List BE := ((BE.le (IE.len (LE.rom 1)) (IE.lit 200)) :: pclists_1)
def pclists_3 : List BE := ((BE.le (IE.lit (-1)) (IE.var .i64 1)) :: pclists_2)
def pclists_4 : List BE := ((BE.le (IE.lit 1) (IE.len (LE.fn 5 (AL.lst (LE.rom 0) AL.nil)))) :: (BE.le (IE.len (LE.fn 5 (AL.lst (LE.rom 0) AL.nil))) (IE.lit 4000)) :: (BE.le (IE.lit 1) (IE.len (LE.fn 5 (AL.lst (LE.rom 0) AL.nil)))) :: (BE.le (IE.len (LE.fn 5 (AL.lst (LE.rom 0) AL.nil))) (IE.lit 4000)) :: (BE.le (IE.var .i64 1) (IE.lit 1)) :: pclists_3)
def pclists_5 : List BE := ((BE.le (IE.add (IE.len (LE.fn 5 (AL.lst (LE.rom 0) AL.nil))) (IE.len (LE.rom 1))) (IE.len (LE.fn 5 (AL.lst (LE.rom 0) AL.nil)))) :: pclists_4)
def pclists_6 : List BE := ((BE.not (BE.le (IE.add (IE.len (LE.fn 5 (AL.lst (LE.rom 0) AL.nil))) (IE.len (LE.rom 1))) (IE.len (LE.fn 5 (AL.lst (LE.rom 0) AL.nil))))) :: pclists_4)
def pclists_7 : List BE := ((BE.not (BE.fn 1 (AL.lst (LE.cat (LE.fn 5 (AL.lst (LE.rom 0) AL.nil)) (LE.rom 1)) (AL.int .i64 (IE.add (IE.len (LE.rom 0)) (IE.var .i64 1)) AL.nil)))) :: pclists_5)
def pclists_8 : List BE := ((BE.not (BE.fn 1 (AL.lst (LE.cat (LE.fn 5 (AL.lst (LE.rom 0) AL.nil)) (LE.rom 1)) (AL.int .i64 (IE.add (IE.len (LE.rom 0)) (IE.var .i64 1)) AL.nil)))) :: pclists_6)
def pclists_9 : List BE := ((BE.le (IE.lit 0) (IE.var .i64 1)) :: pclists_7)
def pclists_10 : List BE := ((BE.not (BE.le (IE.lit 0) (IE.var .i64 1))) :: pclists_7)
def pclists_11 : List BE := ((BE.le (IE.lit 0) (IE.var .i64 1)) :: pclists_8)
def pclists_12 : List BE := ((BE.not (BE.le (IE.lit 0) (IE.var .i64 1))) :: pclists_8)
def pclists_13 : List BE := ((BE.le (IE.lit 1) (IE.len (LE.fn 2 (AL.lst (LE.cat (LE.fn 5 (AL.lst (LE.rom 0) AL.nil)) (LE.rom 1)) (AL.int .i64 (IE.add (IE.len (LE.rom 0)) (IE.var .i64 1)) AL.nil))))) :: (BE.le (IE.len (LE.fn 2 (AL.lst (LE.cat (LE.fn 5 (AL.lst (LE.rom 0) AL.nil)) (LE.rom 1)) (AL.int .i64 (IE.add (IE.len (LE.rom 0)) (IE.var .i64 1)) AL.nil)))) (IE.lit 10000)) :: (BE.fn 1 (AL.lst (LE.cat (LE.fn 5 (AL.lst (LE.rom 0) AL.nil)) (LE.rom 1)) (AL.int .i64 (IE.add (IE.len (LE.rom 0)) (IE.var .i64 1)) AL.nil))) :: pclists_5)
def pclists_14 : List BE := ((BE.leq LE.nil (LE.rom 0)) :: pclists_9)
def pclists_15 : List BE := ((BE.le (IE.len (LE.rom 0)) (IE.lit 0)) :: pclists_10)
def pclists_16 : List BE := ((BE.not (BE.le (IE.len (LE.rom 0)) (IE.lit 0))) :: pclists_10)
def pclists_17 : List BE := ((BE.le (IE.lit 1) (IE.len (LE.fn 2 (AL.lst (LE.cat (LE.fn 5 (AL.lst (LE.rom 0) AL.nil)) (LE.rom 1)) (AL.int .i64 (IE.add (IE.len (LE.rom 0)) (IE.var .i64 1)) AL.nil))))) :: (BE.le (IE.len (LE.fn 2 (AL.lst (LE.cat (LE.fn 5 (AL.lst (LE.rom 0) AL.nil)) (LE.rom 1)) (AL.int .i64 (IE.add (IE.len (LE.rom 0)) (IE.var .i64 1)) AL.nil)))) (IE.lit 10000)) :: (BE.fn 1 (AL.lst (LE.cat (LE.fn 5 (AL.lst (LE.rom 0) AL.nil)) (LE.rom 1)) (AL.int .i64 (IE.add (IE.len (LE.rom 0)) (IE.var .i64 1)) AL.nil))) :: pclists_6)
def pclists_18 : List BE := ((BE.leq LE.nil (LE.rom 0)) :: pclists_11)
def pclists_19 : List BE := ((BE.le (IE.len (LE.rom 0)) (IE.lit 0)) :: pclists_12)
def pclists_20 : List BE := ((BE.not (BE.le (IE.len (LE.rom 0)) (IE.lit 0))) :: pclists_12)
def pclists_21 : List BE := ((BE.le (IE.lit 0) (IE.var .i64 1)) :: pclists_13)
def pclists_22 : List BE := ((BE.not (BE.le (IE.lit 0) (IE.var .i64 1))) :: pclists_13)
def pclists_23 : List BE := ((BE.eq (IE.fn .i64 11 (AL.lst (LE.cat (LE.fn 5 (AL.lst (LE.rom 0) AL.nil)) (LE.rom 1)) (AL.int .i64 (IE.add (IE.len (LE.rom 0)) (IE.var .i64 1)) AL.nil))) (IE.len (LE.fn 5 (AL.lst (LE.rom 0) AL.nil)))) :: pclists_14)
def pclists_24 : List BE := ((BE.leq LE.nil (LE.rom 0)) :: pclists_15)
def pclists_25 : List BE := ((BE.eq (IE.fn .i64 11 (AL.lst (LE.cat (LE.fn 5 (AL.lst (LE.rom 0) AL.nil)) (LE.rom 1)) (AL.int .i64 (IE.add (IE.len (LE.rom 0)) (IE.var .i64 1)) AL.nil))) (IE.lit 0)) :: pclists_16)
def pclists_26 : List BE := ((BE.le (IE.lit 0) (IE.var .i64 1)) :: pclists_17)
def pclists_27 : List BE := ((BE.not (BE.le (IE.lit 0) (IE.var .i64 1))) :: pclists_17)
def pclists_28 : List BE := ((BE.eq (IE.fn .i64 11 (AL.lst (LE.cat (LE.fn 5 (AL.lst (LE.rom 0) AL.nil)) (LE.rom 1)) (AL.int .i64 (IE.add (IE.len (LE.rom 0)) (IE.var .i64 1)) AL.nil))) (IE.len (LE.fn 5 (AL.lst (LE.rom 0) AL.nil)))) :: pclists_18)
def pclists_29 : List BE := ((BE.leq LE.nil (LE.rom 0)) :: pclists_19)
def pclists_30 : List BE := ((BE.eq (IE.fn .i64 11 (AL.lst (LE.cat (LE.fn 5 (AL.lst (LE.rom 0) AL.nil)) (LE.rom 1)) (AL.int .i64 (IE.add (IE.len (LE.rom 0)) (IE.var .i64 1)) AL.nil))) (IE.lit 0)) :: pclists_20)
def pclists_31 : List BE := ((BE.leq (LE.fn 2 (AL.lst (LE.cat (LE.fn 5 (AL.lst (LE.rom 0) AL.nil)) (LE.rom 1)) (AL.int .i64 (IE.add (IE.len (LE.rom 0)) (IE.var .i64 1)) AL.nil))) (LE.rom 0)) :: pclists_21)
def pclists_32 : List BE := ((BE.le (IE.len (LE.rom 0)) (IE.lit 0)) :: pclists_22)
def pclists_33 : List BE := ((BE.eq (IE.fn .i64 11 (AL.lst (LE.cat (LE.fn 5 (AL.lst (LE.rom 0) AL.nil)) (LE.rom 1)) (AL.int .i64 (IE.add (IE.len (LE.rom 0)) (IE.var .i64 1)) AL.nil))) (IE.len (LE.fn 5 (AL.lst (LE.rom 0) AL.nil)))) :: pclists_24)
def pclists_34 : List BE := ((BE.leq (LE.fn 2 (AL.lst (LE.cat (LE.fn 5 (AL.lst (LE.rom 0) AL.nil)) (LE.rom 1)) (AL.int .i64 (IE.add (IE.len (LE.rom 0)) (IE.var .i64 1)) AL.nil))) (LE.rom 0)) :: pclists_26)
def pclists_35 : List BE := ((BE.le (IE.len (LE.rom 0)) (IE.lit 0)) :: pclists_27)
def pclists_36 : List BE := ((BE.eq (IE.fn .i64 11 (AL.lst (LE.cat (LE.fn 5 (AL.lst (LE.rom 0) AL.nil)) (LE.rom 1)) (AL.int .i64 (IE.add (IE.len (LE.rom 0)) (IE.var .i64 1)) AL.nil))) (IE.len (LE.fn 5 (AL.lst (LE.rom 0) AL.nil)))) :: pclists_29)
def pclists_37 : List BE := ((BE.leq (LE.fn 2 (AL.lst (LE.cat (LE.fn 5 (AL.lst (LE.rom 0) AL.nil)) (LE.rom 1)) (AL.int .i64 (IE.add (IE.len (LE.rom 0)) (IE.var .i64 1)) AL.nil))) (LE.rom 0)) :: pclists_32)
def pclists_38 : List BE := ((BE.leq (LE.fn 2 (AL.lst (LE.cat (LE.fn 5 (AL.lst (LE.rom 0) AL.nil)) (LE.rom 1)) (AL.int .i64 (IE.add (IE.len (LE.rom 0)) (IE.var .i64 1)) AL.nil))) (LE.rom 0)) :: pclists_35)
def wlists_0 : VW := (VW.done ((BE.eq (IE.fn .i64 11 (AL.lst (LE.cat (LE.fn 5 (AL.lst (LE.rom 0) AL.nil)) (LE.rom 1)) (AL.int .i64 (IE.add (IE.len (LE.rom 0)) (IE.var .i64 1)) AL.nil))) (IE.len (LE.fn 5 (AL.lst (LE.rom 0) AL.nil)))) :: pclists_31) (some []))
def wlists_1 : VW := (VW.done ((BE.not (BE.eq (IE.fn .i64 11 (AL.lst (LE.cat (LE.fn 5 (AL.lst (LE.rom 0) AL.nil)) (LE.rom 1)) (AL.int .i64 (IE.add (IE.len (LE.rom 0)) (IE.var .i64 1)) AL.nil))) (IE.len (LE.fn 5 (AL.lst (LE.rom 0) AL.nil))))) :: pclists_31) (some [(G.b (BE.lit true) (BE.lit false))]))
def wlists_2 : VW := (VW.done ((BE.not (BE.leq (LE.fn 2 (AL.lst (LE.cat (LE.fn 5 (AL.lst (LE.rom 0) AL.nil)) (LE.rom 1)) (AL.int .i64 (IE.add (IE.len (LE.rom 0)) (IE.var .i64 1)) AL.nil))) (LE.rom 0))) :: pclists_21) (some [(G.b (BE.lit true) (BE.lit false))]))
def wlists_3 : VW := (VW.done ((BE.eq (IE.fn .i64 11 (AL.lst (LE.cat (LE.fn 5 (AL.lst (LE.rom 0) AL.nil)) (LE.rom 1)) (AL.int .i64 (IE.add (IE.len (LE.rom 0)) (IE.var .i64 1)) AL.nil))) (IE.len (LE.fn 5 (AL.lst (LE.rom 0) AL.nil)))) :: pclists_37) (some []))
def wlists_4 : VW := (VW.done ((BE.not (BE.eq (IE.fn .i64 11 (AL.lst (LE.cat (LE.fn 5 (AL.lst (LE.rom 0) AL.nil)) (LE.rom 1)) (AL.int .i64 (IE.add (IE.len (LE.rom 0)) (IE.var .i64 1)) AL.nil))) (IE.len (LE.fn 5 (AL.lst (LE.rom 0) AL.nil))))) :: pclists_37) (some [(G.b (BE.lit true) (BE.lit false))]))
def wlists_5 : VW := (VW.done ((BE.not (BE.leq (LE.fn 2 (AL.lst (LE.cat (LE.fn 5 (AL.lst (LE.rom 0) AL.nil)) (LE.rom 1)) (AL.int .i64 (IE.add (IE.len (LE.rom 0)) (IE.var .i64 1)) AL.nil))) (LE.rom 0))) :: pclists_32) (some [(G.b (BE.lit true) (BE.lit false))]))
def wlists_6 : VW := (VW.done ((BE.not (BE.le (IE.len (LE.rom 0)) (IE.lit 0))) :: pclists_22) (some [(G.b (BE.lit true) (BE.lit false))]))
def wlists_7 : VW := (VW.done ((BE.eq (IE.fn .i64 10 (AL.lst (LE.cat (LE.fn 5 (AL.lst (LE.rom 0) AL.nil)) (LE.rom 1)) (AL.int .i64 (IE.add (IE.len (LE.rom 0)) (IE.var .i64 1)) AL.nil))) (IE.lit 0)) :: pclists_23) (some []))
def wlists_8 : VW := (VW.done ((BE.not (BE.eq (IE.fn .i64 10 (AL.lst (LE.cat (LE.fn 5 (AL.lst (LE.rom 0) AL.nil)) (LE.rom 1)) (AL.int .i64 (IE.add (IE.len (LE.rom 0)) (IE.var .i64 1)) AL.nil))) (IE.lit 0))) :: pclists_23) (some [(G.b (BE.lit true) (BE.lit false))]))
def wlists_9 : VW := (VW.done ((BE.not (BE.eq (IE.fn .i64 11 (AL.lst (LE.cat (LE.fn 5 (AL.lst (LE.rom 0) AL.nil)) (LE.rom 1)) (AL.int .i64 (IE.add (IE.len (LE.rom 0)) (IE.var .i64 1)) AL.nil))) (IE.len (LE.fn 5 (AL.lst (LE.rom 0) AL.nil))))) :: pclists_14) (some [(G.b (BE.lit true) (BE.lit false))]))
def wlists_10 : VW := (VW.done ((BE.not (BE.leq LE.nil (LE.rom 0))) :: pclists_9) (some [(G.b (BE.lit true) (BE.lit false))]))
def wlists_11 : VW := (VW.done ((BE.eq (IE.fn .i64 10 (AL.lst (LE.cat (LE.fn 5 (AL.lst (LE.rom 0) AL.nil)) (LE.rom 1)) (AL.int .i64 (IE.add (IE.len (LE.rom 0)) (IE.var .i64 1)) AL.nil))) (IE.lit 0)) :: pclists_33) (some []))
def wlists_12 : VW := (VW.done ((BE.not (BE.eq (IE.fn .i64 10 (AL.lst (LE.cat (LE.fn 5 (AL.lst (LE.rom 0) AL.nil)) (LE.rom 1)) (AL.int .i64 (IE.add (IE.len (LE.rom 0)) (IE.var .i64 1)) AL.nil))) (IE.lit 0))) :: pclists_33) (some [(G.b (BE.lit true) (BE.lit false))]))
def wlists_13 : VW := (VW.done ((BE.not (BE.eq (IE.fn .i64 11 (AL.lst (LE.cat (LE.fn 5 (AL.lst (LE.rom 0) AL.nil)) (LE.rom 1)) (AL.int .i64 (IE.add (IE.len (LE.rom 0)) (IE.var .i64 1)) AL.nil))) (IE.len (LE.fn 5 (AL.lst (LE.rom 0) AL.nil))))) :: pclists_24) (some [(G.b (BE.lit true) (BE.lit false))]))
def wlists_14 : VW := (VW.done ((BE.not (BE.leq LE.nil (LE.rom 0))) :: pclists_15) (some [(G.b (BE.lit true) (BE.lit false))]))
def wlists_15 : VW := (VW.done ((BE.eq (IE.fn .i64 10 (AL.lst (LE.cat (LE.fn 5 (AL.lst (LE.rom 0) AL.nil)) (LE.rom 1)) (AL.int .i64 (IE.add (IE.len (LE.rom 0)) (IE.var .i64 1)) AL.nil))) (IE.lit 3)) :: pclists_25) (some []))
def wlists_16 : VW := (VW.done ((BE.not (BE.eq (IE.fn .i64 10 (AL.lst (LE.cat (LE.fn 5 (AL.lst (LE.rom 0) AL.nil)) (LE.rom 1)) (AL.int .i64 (IE.add (IE.len (LE.rom 0)) (IE.var .i64 1)) AL.nil))) (IE.lit 3))) :: pclists_25) (some [(G.b (BE.lit true) (BE.lit false))]))
def wlists_17 : VW := (VW.done ((BE.not (BE.eq (IE.fn .i64 11 (AL.lst (LE.cat (LE.fn 5 (AL.lst (LE.rom 0) AL.nil)) (LE.rom 1)) (AL.int .i64 (IE.add (IE.len (LE.rom 0)) (IE.var .i64 1)) AL.nil))) (IE.lit 0))) :: pclists_16) (some [(G.b (BE.lit true) (BE.lit false))]))
def wlists_18 : VW := (VW.done ((BE.eq (IE.fn .i64 11 (AL.lst (LE.cat (LE.fn 5 (AL.lst (LE.rom 0) AL.nil)) (LE.rom 1)) (AL.int .i64 (IE.add (IE.len (LE.rom 0)) (IE.var .i64 1)) AL.nil))) (IE.len (LE.fn 5 (AL.lst (LE.rom 0) AL.nil)))) :: pclists_34) (some []))
def wlists_19 : VW := (VW.done ((BE.not (BE.eq (IE.fn .i64 11 (AL.lst (LE.cat (LE.fn 5 (AL.lst (LE.rom 0) AL.nil)) (LE.rom 1)) (AL.int .i64 (IE.add (IE.len (LE.rom 0)) (IE.var .i64 1)) AL.nil))) (IE.len (LE.fn 5 (AL.lst (LE.rom 0) AL.nil))))) :: pclists_34) (some [(G.b (BE.lit true) (BE.lit false))]))
def wlists_20 : VW := (VW.done ((BE.not (BE.leq (LE.fn 2 (AL.lst (LE.cat (LE.fn 5 (AL.lst (LE.rom 0) AL.nil)) (LE.rom 1)) (AL.int .i64 (IE.add (IE.len (LE.rom 0)) (IE.var .i64 1)) AL.nil))) (LE.rom 0))) :: pclists_26) (some [(G.b (BE.lit true) (BE.lit false))]))
def wlists_21 : VW := (VW.done ((BE.eq (IE.fn .i64 11 (AL.lst (LE.cat (LE.fn 5 (AL.lst (LE.rom 0) AL.nil)) (LE.rom 1)) (AL.int .i64 (IE.add (IE.len (LE.rom 0)) (IE.var .i64 1)) AL.nil))) (IE.len (LE.fn 5 (AL.lst (LE.rom 0) AL.nil)))) :: pclists_38) (some []))
def wlists_22 : VW := (VW.done ((BE.not (BE.eq (IE.fn .i64 11 (AL.lst (LE.cat (LE.fn 5 (AL.lst (LE.rom 0) AL.nil)) (LE.rom 1)) (AL.int .i64 (IE.add (IE.len (LE.rom 0)) (IE.var .i64 1)) AL.nil))) (IE.len (LE.fn 5 (AL.lst (LE.rom 0) AL.nil))))) :: pclists_38) (some [(G.b (BE.lit true) (BE.lit false))]))
def wlists_23 : VW := (VW.done ((BE.not (BE.leq (LE.fn 2 (AL.lst (LE.cat (LE.fn 5 (AL.lst (LE.rom 0) AL.nil)) (LE.rom 1)) (AL.int .i64 (IE.add (IE.len (LE.rom 0)) (IE.var .i64 1)) AL.nil))) (LE.rom 0))) :: pclists_35) (some [(G.b (BE.lit true) (BE.lit false))]))
def wlists_24 : VW := (VW.done ((BE.not (BE.le (IE.len (LE.rom 0)) (IE.lit 0))) :: pclists_27) (some [(G.b (BE.lit true) (BE.lit false))]))
def wlists_25 : VW := (VW.done ((BE.eq (IE.fn .i64 10 (AL.lst (LE.cat (LE.fn 5 (AL.lst (LE.rom 0) AL.nil)) (LE.rom 1)) (AL.int .i64 (IE.add (IE.len (LE.rom 0)) (IE.var .i64 1)) AL.nil))) (IE.lit 0)) :: pclists_28) (some []))
def wlists_26 : VW := (VW.done ((BE.not (BE.eq (IE.fn .i64 10 (AL.lst (LE.cat (LE.fn 5 (AL.lst (LE.rom 0) AL.nil)) (LE.rom 1)) (AL.int .i64 (IE.add (IE.len (LE.rom 0)) (IE.var .i64 1)) AL.nil))) (IE.lit 0))) :: pclists_28) (some [(G.b (BE.lit true) (BE.lit false))]))
def wlists_27 : VW := (VW.done ((BE.not (BE.eq (IE.fn .i64 11 (AL.lst (LE.cat (LE.fn 5 (AL.lst (LE.rom 0) AL.nil)) (LE.rom 1)) (AL.int .i64 (IE.add (IE.len (LE.rom 0)) (IE.var .i64 1)) AL.nil))) (IE.len (LE.fn 5 (AL.lst (LE.rom 0) AL.nil))))) :: pclists_18) (some [(G.b (BE.lit true) (BE.lit false))]))
def wlists_28 : VW := (VW.done ((BE.not (BE.leq LE.nil (LE.rom 0))) :: pclists_11) (some [(G.b (BE.lit true) (BE.lit false))]))
def wlists_29 : VW := (VW.done ((BE.eq (IE.fn .i64 10 (AL.lst (LE.cat (LE.fn 5 (AL.lst (LE.rom 0) AL.nil)) (LE.rom 1)) (AL.int .i64 (IE.add (IE.len (LE.rom 0)) (IE.var .i64 1)) AL.nil))) (IE.lit 0)) :: pclists_36) (some []))
def wlists_30 : VW := (VW.done ((BE.not (BE.eq (IE.fn .i64 10 (AL.lst (LE.cat (LE.fn 5 (AL.lst (LE.rom 0) AL.nil)) (LE.rom 1)) (AL.int .i64 (IE.add (IE.len (LE.rom 0)) (IE.var .i64 1)) AL.nil))) (IE.lit 0))) :: pclists_36) (some [(G.b (BE.lit true) (BE.lit false))]))
def wlists_31 : VW := (VW.done ((BE.not (BE.eq (IE.fn .i64 11 (AL.lst (LE.cat (LE.fn 5 (AL.lst (LE.rom 0) AL.nil)) (LE.rom 1)) (AL.int .i64 (IE.add (IE.len (LE.rom 0)) (IE.var .i64 1)) AL.nil))) (IE.len (LE.fn 5 (AL.lst (LE.rom 0) AL.nil))))) :: pclists_29) (some [(G.b (BE.lit true) (BE.lit false))]))
def wlists_32 : VW := (VW.done ((BE.not (BE.leq LE.nil (LE.rom 0))) :: pclists_19) (some [(G.b (BE.lit true) (BE.lit false))]))
def wlists_33 : VW := (VW.done ((BE.eq (IE.fn .i64 10 (AL.lst (LE.cat (LE.fn 5 (AL.lst (LE.rom 0) AL.nil)) (LE.rom 1)) (AL.int .i64 (IE.add (IE.len (LE.rom 0)) (IE.var .i64 1)) AL.nil))) (IE.lit 3)) :: pclists_30) (some []))
def wlists_34 : VW := (VW.done ((BE.not (BE.eq (IE.fn .i64 10 (AL.lst (LE.cat (LE.fn 5 (AL.lst (LE.rom 0) AL.nil)) (LE.rom 1)) (AL.int .i64 (IE.add (IE.len (LE.rom 0)) (IE.var .i64 1)) AL.nil))) (IE.lit 3))) :: pclists_30) (some [(G.b (BE.lit true) (BE.lit false))]))
def wlists_35 : VW := (VW.done ((BE.not (BE.eq (IE.fn .i64 11 (AL.lst (LE.cat (LE.fn 5 (AL.lst (LE.rom 0) AL.nil)) (LE.rom 1)) (AL.int .i64 (IE.add (IE.len (LE.rom 0)) (IE.var .i64 1)) AL.nil))) (IE.lit 0))) :: pclists_20) (some [(G.b (BE.lit true) (BE.lit false))]))
def wlists_36 : VW := (VW.done ((BE.not (BE.le (IE.var .i64 1) (IE.lit 1))) :: pclists_3) (some []))
def wlists_37 : VW := (VW.done ((BE.not (BE.le (IE.lit (-1)) (IE.var .i64 1))) :: pclists_2) (some []))
def wlists_38 : VW := (VW.done ((BE.not (BE.le (IE.len (LE.rom 1)) (IE.lit 200))) :: pclists_1) (some []))
def wlists_39 : VW := (VW.done ((BE.not (BE.fn 2 (AL.lst (LE.rom 0) AL.nil))) :: pclists_0) (some []))
def vwlists : List VW := [wlists_0, wlists_1, wlists_2, wlists_3, wlists_4, wlists_5, wlists_6, wlists_7, wlists_8, wlists_9, wlists_10, wlists_11, wlists_12, wlists_13, wlists_14, wlists_15, wlists_16, wlists_17, wlists_18, wlists_19, wlists_20, wlists_21, wlists_22, wlists_23, wlists_24, wlists_25, wlists_26, wlists_27, wlists_28, wlists_29, wlists_30, wlists_31, wlists_32, wlists_33, wlists_34, wlists_35, wlists_36, wlists_37, wlists_38, wlists_39]
end
theorem vclists_0 : VD TTlists (st0 cLists) wlists_0 := by
  intro ρ kn hp
  exact all_nil
theorem vclists_1 : VD TTlists (st0 cLists) wlists_1 := by
  intro ρ kn hp
  have hF : ρ.z.F = oct.Φ := kn.F
  simp only [h_nil, h_cons, d_le, d_eq, d_not, d_var, d_lit, d_cel, d_leq, d_fn, d_and, d_iff, IE.den, LE.den, AL.den, lenV, true_and, and_true, pclists_31, pclists_21, pclists_13, pclists_5, pclists_4, pclists_3, pclists_2, pclists_1, pclists_0, hF, pi2, pi3, pi4, pi5, pi6, pi7, pl1, pi8, pi9, pl3, pi10, pi11, pb1, pl2, pb2, pl5] at hp
  obtain ⟨p1, p2, p3, p4, p5, p6, p7, p8, p9, p10, p11, p12, p13, p14, p15, p16⟩ := hp
  exfalso
  have hf : fewT (ρ.z.rl 0) = true := by assumption
  have hT := kn.rom 0 _ _ rfl
  have hS := kn.rom 1 _ _ rfl
  have h4 := cat_4000 hf (Nat.le_refl _)
  have hX : (((catB (ρ.z.rl 0) (ρ.z.rl 0).length ++ ρ.z.rl 1).length : Nat) : Int) ≤ 9223372036854775807 := by rw [List.length_append]; omega
  have cr := (cat_rd (S := ρ.z.rl 1) hf).1
  obtain ⟨l1, l2⟩ := list_back (S := ρ.z.rl 1) (m := (((ρ.z.rl 0).length : Nat) : Int) + ρ.i .i64 1) hf hT hS
  try simp only [lsN_in hX, lsE_in] at *
  by_cases c : (((ρ.z.rl 0).length : Nat) : Int) ≤ (((ρ.z.rl 0).length : Nat) : Int) + ρ.i .i64 1 ∨ (ρ.z.rl 0).length = 0
  · obtain ⟨a1, a2, a3⟩ := l1 c
    by_cases d : 1 ≤ (ρ.z.rl 0).length
    · obtain ⟨b1, b2⟩ := a3 d
      first
        | omega
        | exact absurd b1 (by assumption)
        | exact absurd b2 (by assumption)
    · have e : ρ.z.rl 0 = [] := List.length_eq_zero_iff.1 (by omega)
      first
        | omega
        | exact absurd e.symm (by assumption)
        | (have q := (lsB_t.1 (by assumption)).2; omega)
  · obtain ⟨a1, a2⟩ := l2 c
    first
      | omega
      | (have q := (lsB_t.1 (by assumption)).1; omega)
theorem vclists_2 : VD TTlists (st0 cLists) wlists_2 := by
  intro ρ kn hp
  have hF : ρ.z.F = oct.Φ := kn.F
  simp only [h_nil, h_cons, d_le, d_eq, d_not, d_var, d_lit, d_cel, d_leq, d_fn, d_and, d_iff, IE.den, LE.den, AL.den, lenV, true_and, and_true, pclists_21, pclists_13, pclists_5, pclists_4, pclists_3, pclists_2, pclists_1, pclists_0, hF, pi2, pi3, pi4, pi5, pi6, pi7, pl1, pi8, pi9, pl3, pi10, pi11, pb1, pl2, pb2, pl5] at hp
  obtain ⟨p1, p2, p3, p4, p5, p6, p7, p8, p9, p10, p11, p12, p13, p14, p15⟩ := hp
  exfalso
  have hf : fewT (ρ.z.rl 0) = true := by assumption
  have hT := kn.rom 0 _ _ rfl
  have hS := kn.rom 1 _ _ rfl
  have h4 := cat_4000 hf (Nat.le_refl _)
  have hX : (((catB (ρ.z.rl 0) (ρ.z.rl 0).length ++ ρ.z.rl 1).length : Nat) : Int) ≤ 9223372036854775807 := by rw [List.length_append]; omega
  have cr := (cat_rd (S := ρ.z.rl 1) hf).1
  obtain ⟨l1, l2⟩ := list_back (S := ρ.z.rl 1) (m := (((ρ.z.rl 0).length : Nat) : Int) + ρ.i .i64 1) hf hT hS
  try simp only [lsN_in hX, lsE_in] at *
  by_cases c : (((ρ.z.rl 0).length : Nat) : Int) ≤ (((ρ.z.rl 0).length : Nat) : Int) + ρ.i .i64 1 ∨ (ρ.z.rl 0).length = 0
  · obtain ⟨a1, a2, a3⟩ := l1 c
    by_cases d : 1 ≤ (ρ.z.rl 0).length
    · obtain ⟨b1, b2⟩ := a3 d
      first
        | omega
        | exact absurd b1 (by assumption)
        | exact absurd b2 (by assumption)
    · have e : ρ.z.rl 0 = [] := List.length_eq_zero_iff.1 (by omega)
      first
        | omega
        | exact absurd e.symm (by assumption)
        | (have q := (lsB_t.1 (by assumption)).2; omega)
  · obtain ⟨a1, a2⟩ := l2 c
    first
      | omega
      | (have q := (lsB_t.1 (by assumption)).1; omega)
theorem vclists_3 : VD TTlists (st0 cLists) wlists_3 := by
  intro ρ kn hp
  exact all_nil
theorem vclists_4 : VD TTlists (st0 cLists) wlists_4 := by
  intro ρ kn hp
  have hF : ρ.z.F = oct.Φ := kn.F
  simp only [h_nil, h_cons, d_le, d_eq, d_not, d_var, d_lit, d_cel, d_leq, d_fn, d_and, d_iff, IE.den, LE.den, AL.den, lenV, true_and, and_true, pclists_37, pclists_32, pclists_22, pclists_13, pclists_5, pclists_4, pclists_3, pclists_2, pclists_1, pclists_0, hF, pi2, pi3, pi4, pi5, pi6, pi7, pl1, pi8, pi9, pl3, pi10, pi11, pb1, pl2, pb2, pl5] at hp
  obtain ⟨p1, p2, p3, p4, p5, p6, p7, p8, p9, p10, p11, p12, p13, p14, p15, p16, p17⟩ := hp
  exfalso
  have hf : fewT (ρ.z.rl 0) = true := by assumption
  have hT := kn.rom 0 _ _ rfl
  have hS := kn.rom 1 _ _ rfl
  have h4 := cat_4000 hf (Nat.le_refl _)
  have hX : (((catB (ρ.z.rl 0) (ρ.z.rl 0).length ++ ρ.z.rl 1).length : Nat) : Int) ≤ 9223372036854775807 := by rw [List.length_append]; omega
  have cr := (cat_rd (S := ρ.z.rl 1) hf).1
  obtain ⟨l1, l2⟩ := list_back (S := ρ.z.rl 1) (m := (((ρ.z.rl 0).length : Nat) : Int) + ρ.i .i64 1) hf hT hS
  try simp only [lsN_in hX, lsE_in] at *
  by_cases c : (((ρ.z.rl 0).length : Nat) : Int) ≤ (((ρ.z.rl 0).length : Nat) : Int) + ρ.i .i64 1 ∨ (ρ.z.rl 0).length = 0
  · obtain ⟨a1, a2, a3⟩ := l1 c
    by_cases d : 1 ≤ (ρ.z.rl 0).length
    · obtain ⟨b1, b2⟩ := a3 d
      first
        | omega
        | exact absurd b1 (by assumption)
        | exact absurd b2 (by assumption)
    · have e : ρ.z.rl 0 = [] := List.length_eq_zero_iff.1 (by omega)
      first
        | omega
        | exact absurd e.symm (by assumption)
        | (have q := (lsB_t.1 (by assumption)).2; omega)
  · obtain ⟨a1, a2⟩ := l2 c
    first
      | omega
      | (have q := (lsB_t.1 (by assumption)).1; omega)
theorem vclists_5 : VD TTlists (st0 cLists) wlists_5 := by
  intro ρ kn hp
  have hF : ρ.z.F = oct.Φ := kn.F
  simp only [h_nil, h_cons, d_le, d_eq, d_not, d_var, d_lit, d_cel, d_leq, d_fn, d_and, d_iff, IE.den, LE.den, AL.den, lenV, true_and, and_true, pclists_32, pclists_22, pclists_13, pclists_5, pclists_4, pclists_3, pclists_2, pclists_1, pclists_0, hF, pi2, pi3, pi4, pi5, pi6, pi7, pl1, pi8, pi9, pl3, pi10, pi11, pb1, pl2, pb2, pl5] at hp
  obtain ⟨p1, p2, p3, p4, p5, p6, p7, p8, p9, p10, p11, p12, p13, p14, p15, p16⟩ := hp
  exfalso
  have hf : fewT (ρ.z.rl 0) = true := by assumption
  have hT := kn.rom 0 _ _ rfl
  have hS := kn.rom 1 _ _ rfl
  have h4 := cat_4000 hf (Nat.le_refl _)
  have hX : (((catB (ρ.z.rl 0) (ρ.z.rl 0).length ++ ρ.z.rl 1).length : Nat) : Int) ≤ 9223372036854775807 := by rw [List.length_append]; omega
  have cr := (cat_rd (S := ρ.z.rl 1) hf).1
  obtain ⟨l1, l2⟩ := list_back (S := ρ.z.rl 1) (m := (((ρ.z.rl 0).length : Nat) : Int) + ρ.i .i64 1) hf hT hS
  try simp only [lsN_in hX, lsE_in] at *
  by_cases c : (((ρ.z.rl 0).length : Nat) : Int) ≤ (((ρ.z.rl 0).length : Nat) : Int) + ρ.i .i64 1 ∨ (ρ.z.rl 0).length = 0
  · obtain ⟨a1, a2, a3⟩ := l1 c
    by_cases d : 1 ≤ (ρ.z.rl 0).length
    · obtain ⟨b1, b2⟩ := a3 d
      first
        | omega
        | exact absurd b1 (by assumption)
        | exact absurd b2 (by assumption)
    · have e : ρ.z.rl 0 = [] := List.length_eq_zero_iff.1 (by omega)
      first
        | omega
        | exact absurd e.symm (by assumption)
        | (have q := (lsB_t.1 (by assumption)).2; omega)
  · obtain ⟨a1, a2⟩ := l2 c
    first
      | omega
      | (have q := (lsB_t.1 (by assumption)).1; omega)
theorem vclists_6 : VD TTlists (st0 cLists) wlists_6 := by
  intro ρ kn hp
  have hF : ρ.z.F = oct.Φ := kn.F
  simp only [h_nil, h_cons, d_le, d_eq, d_not, d_var, d_lit, d_cel, d_leq, d_fn, d_and, d_iff, IE.den, LE.den, AL.den, lenV, true_and, and_true, pclists_22, pclists_13, pclists_5, pclists_4, pclists_3, pclists_2, pclists_1, pclists_0, hF, pi2, pi3, pi4, pi5, pi6, pi7, pl1, pi8, pi9, pl3, pi10, pi11, pb1, pl2, pb2, pl5] at hp
  obtain ⟨p1, p2, p3, p4, p5, p6, p7, p8, p9, p10, p11, p12, p13, p14, p15⟩ := hp
  exfalso
  have hf : fewT (ρ.z.rl 0) = true := by assumption
  have hT := kn.rom 0 _ _ rfl
  have hS := kn.rom 1 _ _ rfl
  have h4 := cat_4000 hf (Nat.le_refl _)
  have hX : (((catB (ρ.z.rl 0) (ρ.z.rl 0).length ++ ρ.z.rl 1).length : Nat) : Int) ≤ 9223372036854775807 := by rw [List.length_append]; omega
  have cr := (cat_rd (S := ρ.z.rl 1) hf).1
  obtain ⟨l1, l2⟩ := list_back (S := ρ.z.rl 1) (m := (((ρ.z.rl 0).length : Nat) : Int) + ρ.i .i64 1) hf hT hS
  try simp only [lsN_in hX, lsE_in] at *
  by_cases c : (((ρ.z.rl 0).length : Nat) : Int) ≤ (((ρ.z.rl 0).length : Nat) : Int) + ρ.i .i64 1 ∨ (ρ.z.rl 0).length = 0
  · obtain ⟨a1, a2, a3⟩ := l1 c
    by_cases d : 1 ≤ (ρ.z.rl 0).length
    · obtain ⟨b1, b2⟩ := a3 d
      first
        | omega
        | exact absurd b1 (by assumption)
        | exact absurd b2 (by assumption)
    · have e : ρ.z.rl 0 = [] := List.length_eq_zero_iff.1 (by omega)
      first
        | omega
        | exact absurd e.symm (by assumption)
        | (have q := (lsB_t.1 (by assumption)).2; omega)
  · obtain ⟨a1, a2⟩ := l2 c
    first
      | omega
      | (have q := (lsB_t.1 (by assumption)).1; omega)
theorem vclists_7 : VD TTlists (st0 cLists) wlists_7 := by
  intro ρ kn hp
  exact all_nil
theorem vclists_8 : VD TTlists (st0 cLists) wlists_8 := by
  intro ρ kn hp
  have hF : ρ.z.F = oct.Φ := kn.F
  simp only [h_nil, h_cons, d_le, d_eq, d_not, d_var, d_lit, d_cel, d_leq, d_fn, d_and, d_iff, IE.den, LE.den, AL.den, lenV, true_and, and_true, pclists_23, pclists_14, pclists_9, pclists_7, pclists_5, pclists_4, pclists_3, pclists_2, pclists_1, pclists_0, hF, pi2, pi3, pi4, pi5, pi6, pi7, pl1, pi8, pi9, pl3, pi10, pi11, pb1, pl2, pb2, pl5] at hp
  obtain ⟨p1, p2, p3, p4, p5, p6, p7, p8, p9, p10, p11, p12, p13, p14, p15⟩ := hp
  exfalso
  have hf : fewT (ρ.z.rl 0) = true := by assumption
  have hT := kn.rom 0 _ _ rfl
  have hS := kn.rom 1 _ _ rfl
  have h4 := cat_4000 hf (Nat.le_refl _)
  have hX : (((catB (ρ.z.rl 0) (ρ.z.rl 0).length ++ ρ.z.rl 1).length : Nat) : Int) ≤ 9223372036854775807 := by rw [List.length_append]; omega
  have cr := (cat_rd (S := ρ.z.rl 1) hf).1
  obtain ⟨l1, l2⟩ := list_back (S := ρ.z.rl 1) (m := (((ρ.z.rl 0).length : Nat) : Int) + ρ.i .i64 1) hf hT hS
  try simp only [lsN_in hX, lsE_in] at *
  by_cases c : (((ρ.z.rl 0).length : Nat) : Int) ≤ (((ρ.z.rl 0).length : Nat) : Int) + ρ.i .i64 1 ∨ (ρ.z.rl 0).length = 0
  · obtain ⟨a1, a2, a3⟩ := l1 c
    by_cases d : 1 ≤ (ρ.z.rl 0).length
    · obtain ⟨b1, b2⟩ := a3 d
      first
        | omega
        | exact absurd b1 (by assumption)
        | exact absurd b2 (by assumption)
    · have e : ρ.z.rl 0 = [] := List.length_eq_zero_iff.1 (by omega)
      first
        | omega
        | exact absurd e.symm (by assumption)
        | (have q := (lsB_t.1 (by assumption)).2; omega)
  · obtain ⟨a1, a2⟩ := l2 c
    first
      | omega
      | (have q := (lsB_t.1 (by assumption)).1; omega)
theorem vclists_9 : VD TTlists (st0 cLists) wlists_9 := by
  intro ρ kn hp
  have hF : ρ.z.F = oct.Φ := kn.F
  simp only [h_nil, h_cons, d_le, d_eq, d_not, d_var, d_lit, d_cel, d_leq, d_fn, d_and, d_iff, IE.den, LE.den, AL.den, lenV, true_and, and_true, pclists_14, pclists_9, pclists_7, pclists_5, pclists_4, pclists_3, pclists_2, pclists_1, pclists_0, hF, pi2, pi3, pi4, pi5, pi6, pi7, pl1, pi8, pi9, pl3, pi10, pi11, pb1, pl2, pb2, pl5] at hp
  obtain ⟨p1, p2, p3, p4, p5, p6, p7, p8, p9, p10, p11, p12, p13, p14⟩ := hp
  exfalso
  have hf : fewT (ρ.z.rl 0) = true := by assumption
  have hT := kn.rom 0 _ _ rfl
  have hS := kn.rom 1 _ _ rfl
  have h4 := cat_4000 hf (Nat.le_refl _)
  have hX : (((catB (ρ.z.rl 0) (ρ.z.rl 0).length ++ ρ.z.rl 1).length : Nat) : Int) ≤ 9223372036854775807 := by rw [List.length_append]; omega
  have cr := (cat_rd (S := ρ.z.rl 1) hf).1
  obtain ⟨l1, l2⟩ := list_back (S := ρ.z.rl 1) (m := (((ρ.z.rl 0).length : Nat) : Int) + ρ.i .i64 1) hf hT hS
  try simp only [lsN_in hX, lsE_in] at *
  by_cases c : (((ρ.z.rl 0).length : Nat) : Int) ≤ (((ρ.z.rl 0).length : Nat) : Int) + ρ.i .i64 1 ∨ (ρ.z.rl 0).length = 0
  · obtain ⟨a1, a2, a3⟩ := l1 c
    by_cases d : 1 ≤ (ρ.z.rl 0).length
    · obtain ⟨b1, b2⟩ := a3 d
      first
        | omega
        | exact absurd b1 (by assumption)
        | exact absurd b2 (by assumption)
    · have e : ρ.z.rl 0 = [] := List.length_eq_zero_iff.1 (by omega)
      first
        | omega
        | exact absurd e.symm (by assumption)
        | (have q := (lsB_t.1 (by assumption)).2; omega)
  · obtain ⟨a1, a2⟩ := l2 c
    first
      | omega
      | (have q := (lsB_t.1 (by assumption)).1; omega)
theorem vclists_10 : VD TTlists (st0 cLists) wlists_10 := by
  intro ρ kn hp
  have hF : ρ.z.F = oct.Φ := kn.F
  simp only [h_nil, h_cons, d_le, d_eq, d_not, d_var, d_lit, d_cel, d_leq, d_fn, d_and, d_iff, IE.den, LE.den, AL.den, lenV, true_and, and_true, pclists_9, pclists_7, pclists_5, pclists_4, pclists_3, pclists_2, pclists_1, pclists_0, hF, pi2, pi3, pi4, pi5, pi6, pi7, pl1, pi8, pi9, pl3, pi10, pi11, pb1, pl2, pb2, pl5] at hp
  obtain ⟨p1, p2, p3, p4, p5, p6, p7, p8, p9, p10, p11, p12, p13⟩ := hp
  exfalso
  have hf : fewT (ρ.z.rl 0) = true := by assumption
  have hT := kn.rom 0 _ _ rfl
  have hS := kn.rom 1 _ _ rfl
  have h4 := cat_4000 hf (Nat.le_refl _)
  have hX : (((catB (ρ.z.rl 0) (ρ.z.rl 0).length ++ ρ.z.rl 1).length : Nat) : Int) ≤ 9223372036854775807 := by rw [List.length_append]; omega
  have cr := (cat_rd (S := ρ.z.rl 1) hf).1
  obtain ⟨l1, l2⟩ := list_back (S := ρ.z.rl 1) (m := (((ρ.z.rl 0).length : Nat) : Int) + ρ.i .i64 1) hf hT hS
  try simp only [lsN_in hX, lsE_in] at *
  by_cases c : (((ρ.z.rl 0).length : Nat) : Int) ≤ (((ρ.z.rl 0).length : Nat) : Int) + ρ.i .i64 1 ∨ (ρ.z.rl 0).length = 0
  · obtain ⟨a1, a2, a3⟩ := l1 c
    by_cases d : 1 ≤ (ρ.z.rl 0).length
    · obtain ⟨b1, b2⟩ := a3 d
      first
        | omega
        | exact absurd b1 (by assumption)
        | exact absurd b2 (by assumption)
    · have e : ρ.z.rl 0 = [] := List.length_eq_zero_iff.1 (by omega)
      first
        | omega
        | exact absurd e.symm (by assumption)
        | (have q := (lsB_t.1 (by assumption)).2; omega)
  · obtain ⟨a1, a2⟩ := l2 c
    first
      | omega
      | (have q := (lsB_t.1 (by assumption)).1; omega)
theorem vclists_11 : VD TTlists (st0 cLists) wlists_11 := by
  intro ρ kn hp
  exact all_nil
theorem vclists_12 : VD TTlists (st0 cLists) wlists_12 := by
  intro ρ kn hp
  have hF : ρ.z.F = oct.Φ := kn.F
  simp only [h_nil, h_cons, d_le, d_eq, d_not, d_var, d_lit, d_cel, d_leq, d_fn, d_and, d_iff, IE.den, LE.den, AL.den, lenV, true_and, and_true, pclists_33, pclists_24, pclists_15, pclists_10, pclists_7, pclists_5, pclists_4, pclists_3, pclists_2, pclists_1, pclists_0, hF, pi2, pi3, pi4, pi5, pi6, pi7, pl1, pi8, pi9, pl3, pi10, pi11, pb1, pl2, pb2, pl5] at hp
  obtain ⟨p1, p2, p3, p4, p5, p6, p7, p8, p9, p10, p11, p12, p13, p14, p15, p16⟩ := hp
  exfalso
  have hf : fewT (ρ.z.rl 0) = true := by assumption
  have hT := kn.rom 0 _ _ rfl
  have hS := kn.rom 1 _ _ rfl
  have h4 := cat_4000 hf (Nat.le_refl _)
  have hX : (((catB (ρ.z.rl 0) (ρ.z.rl 0).length ++ ρ.z.rl 1).length : Nat) : Int) ≤ 9223372036854775807 := by rw [List.length_append]; omega
  have cr := (cat_rd (S := ρ.z.rl 1) hf).1
  obtain ⟨l1, l2⟩ := list_back (S := ρ.z.rl 1) (m := (((ρ.z.rl 0).length : Nat) : Int) + ρ.i .i64 1) hf hT hS
  try simp only [lsN_in hX, lsE_in] at *
  by_cases c : (((ρ.z.rl 0).length : Nat) : Int) ≤ (((ρ.z.rl 0).length : Nat) : Int) + ρ.i .i64 1 ∨ (ρ.z.rl 0).length = 0
  · obtain ⟨a1, a2, a3⟩ := l1 c
    by_cases d : 1 ≤ (ρ.z.rl 0).length
    · obtain ⟨b1, b2⟩ := a3 d
      first
        | omega
        | exact absurd b1 (by assumption)
        | exact absurd b2 (by assumption)
    · have e : ρ.z.rl 0 = [] := List.length_eq_zero_iff.1 (by omega)
      first
        | omega
        | exact absurd e.symm (by assumption)
        | (have q := (lsB_t.1 (by assumption)).2; omega)
  · obtain ⟨a1, a2⟩ := l2 c
    first
      | omega
      | (have q := (lsB_t.1 (by assumption)).1; omega)
theorem vclists_13 : VD TTlists (st0 cLists) wlists_13 := by
  intro ρ kn hp
  have hF : ρ.z.F = oct.Φ := kn.F
  simp only [h_nil, h_cons, d_le, d_eq, d_not, d_var, d_lit, d_cel, d_leq, d_fn, d_and, d_iff, IE.den, LE.den, AL.den, lenV, true_and, and_true, pclists_24, pclists_15, pclists_10, pclists_7, pclists_5, pclists_4, pclists_3, pclists_2, pclists_1, pclists_0, hF, pi2, pi3, pi4, pi5, pi6, pi7, pl1, pi8, pi9, pl3, pi10, pi11, pb1, pl2, pb2, pl5] at hp
  obtain ⟨p1, p2, p3, p4, p5, p6, p7, p8, p9, p10, p11, p12, p13, p14, p15⟩ := hp
  exfalso
  have hf : fewT (ρ.z.rl 0) = true := by assumption
  have hT := kn.rom 0 _ _ rfl
  have hS := kn.rom 1 _ _ rfl
  have h4 := cat_4000 hf (Nat.le_refl _)
  have hX : (((catB (ρ.z.rl 0) (ρ.z.rl 0).length ++ ρ.z.rl 1).length : Nat) : Int) ≤ 9223372036854775807 := by rw [List.length_append]; omega
  have cr := (cat_rd (S := ρ.z.rl 1) hf).1
  obtain ⟨l1, l2⟩ := list_back (S := ρ.z.rl 1) (m := (((ρ.z.rl 0).length : Nat) : Int) + ρ.i .i64 1) hf hT hS
  try simp only [lsN_in hX, lsE_in] at *
  by_cases c : (((ρ.z.rl 0).length : Nat) : Int) ≤ (((ρ.z.rl 0).length : Nat) : Int) + ρ.i .i64 1 ∨ (ρ.z.rl 0).length = 0
  · obtain ⟨a1, a2, a3⟩ := l1 c
    by_cases d : 1 ≤ (ρ.z.rl 0).length
    · obtain ⟨b1, b2⟩ := a3 d
      first
        | omega
        | exact absurd b1 (by assumption)
        | exact absurd b2 (by assumption)
    · have e : ρ.z.rl 0 = [] := List.length_eq_zero_iff.1 (by omega)
      first
        | omega
        | exact absurd e.symm (by assumption)
        | (have q := (lsB_t.1 (by assumption)).2; omega)
  · obtain ⟨a1, a2⟩ := l2 c
    first
      | omega
      | (have q := (lsB_t.1 (by assumption)).1; omega)
theorem vclists_14 : VD TTlists (st0 cLists) wlists_14 := by
  intro ρ kn hp
  have hF : ρ.z.F = oct.Φ := kn.F
  simp only [h_nil, h_cons, d_le, d_eq, d_not, d_var, d_lit, d_cel, d_leq, d_fn, d_and, d_iff, IE.den, LE.den, AL.den, lenV, true_and, and_true, pclists_15, pclists_10, pclists_7, pclists_5, pclists_4, pclists_3, pclists_2, pclists_1, pclists_0, hF, pi2, pi3, pi4, pi5, pi6, pi7, pl1, pi8, pi9, pl3, pi10, pi11, pb1, pl2, pb2, pl5] at hp
  obtain ⟨p1, p2, p3, p4, p5, p6, p7, p8, p9, p10, p11, p12, p13, p14⟩ := hp
  exfalso
  have hf : fewT (ρ.z.rl 0) = true := by assumption
  have hT := kn.rom 0 _ _ rfl
  have hS := kn.rom 1 _ _ rfl
  have h4 := cat_4000 hf (Nat.le_refl _)
  have hX : (((catB (ρ.z.rl 0) (ρ.z.rl 0).length ++ ρ.z.rl 1).length : Nat) : Int) ≤ 9223372036854775807 := by rw [List.length_append]; omega
  have cr := (cat_rd (S := ρ.z.rl 1) hf).1
  obtain ⟨l1, l2⟩ := list_back (S := ρ.z.rl 1) (m := (((ρ.z.rl 0).length : Nat) : Int) + ρ.i .i64 1) hf hT hS
  try simp only [lsN_in hX, lsE_in] at *
  by_cases c : (((ρ.z.rl 0).length : Nat) : Int) ≤ (((ρ.z.rl 0).length : Nat) : Int) + ρ.i .i64 1 ∨ (ρ.z.rl 0).length = 0
  · obtain ⟨a1, a2, a3⟩ := l1 c
    by_cases d : 1 ≤ (ρ.z.rl 0).length
    · obtain ⟨b1, b2⟩ := a3 d
      first
        | omega
        | exact absurd b1 (by assumption)
        | exact absurd b2 (by assumption)
    · have e : ρ.z.rl 0 = [] := List.length_eq_zero_iff.1 (by omega)
      first
        | omega
        | exact absurd e.symm (by assumption)
        | (have q := (lsB_t.1 (by assumption)).2; omega)
  · obtain ⟨a1, a2⟩ := l2 c
    first
      | omega
      | (have q := (lsB_t.1 (by assumption)).1; omega)
theorem vclists_15 : VD TTlists (st0 cLists) wlists_15 := by
  intro ρ kn hp
  exact all_nil
theorem vclists_16 : VD TTlists (st0 cLists) wlists_16 := by
  intro ρ kn hp
  have hF : ρ.z.F = oct.Φ := kn.F
  simp only [h_nil, h_cons, d_le, d_eq, d_not, d_var, d_lit, d_cel, d_leq, d_fn, d_and, d_iff, IE.den, LE.den, AL.den, lenV, true_and, and_true, pclists_25, pclists_16, pclists_10, pclists_7, pclists_5, pclists_4, pclists_3, pclists_2, pclists_1, pclists_0, hF, pi2, pi3, pi4, pi5, pi6, pi7, pl1, pi8, pi9, pl3, pi10, pi11, pb1, pl2, pb2, pl5] at hp
  obtain ⟨p1, p2, p3, p4, p5, p6, p7, p8, p9, p10, p11, p12, p13, p14, p15⟩ := hp
  exfalso
  have hf : fewT (ρ.z.rl 0) = true := by assumption
  have hT := kn.rom 0 _ _ rfl
  have hS := kn.rom 1 _ _ rfl
  have h4 := cat_4000 hf (Nat.le_refl _)
  have hX : (((catB (ρ.z.rl 0) (ρ.z.rl 0).length ++ ρ.z.rl 1).length : Nat) : Int) ≤ 9223372036854775807 := by rw [List.length_append]; omega
  have cr := (cat_rd (S := ρ.z.rl 1) hf).1
  obtain ⟨l1, l2⟩ := list_back (S := ρ.z.rl 1) (m := (((ρ.z.rl 0).length : Nat) : Int) + ρ.i .i64 1) hf hT hS
  try simp only [lsN_in hX, lsE_in] at *
  by_cases c : (((ρ.z.rl 0).length : Nat) : Int) ≤ (((ρ.z.rl 0).length : Nat) : Int) + ρ.i .i64 1 ∨ (ρ.z.rl 0).length = 0
  · obtain ⟨a1, a2, a3⟩ := l1 c
    by_cases d : 1 ≤ (ρ.z.rl 0).length
    · obtain ⟨b1, b2⟩ := a3 d
      first
        | omega
        | exact absurd b1 (by assumption)
        | exact absurd b2 (by assumption)
    · have e : ρ.z.rl 0 = [] := List.length_eq_zero_iff.1 (by omega)
      first
        | omega
        | exact absurd e.symm (by assumption)
        | (have q := (lsB_t.1 (by assumption)).2; omega)
  · obtain ⟨a1, a2⟩ := l2 c
    first
      | omega
      | (have q := (lsB_t.1 (by assumption)).1; omega)
theorem vclists_17 : VD TTlists (st0 cLists) wlists_17 := by
  intro ρ kn hp
  have hF : ρ.z.F = oct.Φ := kn.F
  simp only [h_nil, h_cons, d_le, d_eq, d_not, d_var, d_lit, d_cel, d_leq, d_fn, d_and, d_iff, IE.den, LE.den, AL.den, lenV, true_and, and_true, pclists_16, pclists_10, pclists_7, pclists_5, pclists_4, pclists_3, pclists_2, pclists_1, pclists_0, hF, pi2, pi3, pi4, pi5, pi6, pi7, pl1, pi8, pi9, pl3, pi10, pi11, pb1, pl2, pb2, pl5] at hp
  obtain ⟨p1, p2, p3, p4, p5, p6, p7, p8, p9, p10, p11, p12, p13, p14⟩ := hp
  exfalso
  have hf : fewT (ρ.z.rl 0) = true := by assumption
  have hT := kn.rom 0 _ _ rfl
  have hS := kn.rom 1 _ _ rfl
  have h4 := cat_4000 hf (Nat.le_refl _)
  have hX : (((catB (ρ.z.rl 0) (ρ.z.rl 0).length ++ ρ.z.rl 1).length : Nat) : Int) ≤ 9223372036854775807 := by rw [List.length_append]; omega
  have cr := (cat_rd (S := ρ.z.rl 1) hf).1
  obtain ⟨l1, l2⟩ := list_back (S := ρ.z.rl 1) (m := (((ρ.z.rl 0).length : Nat) : Int) + ρ.i .i64 1) hf hT hS
  try simp only [lsN_in hX, lsE_in] at *
  by_cases c : (((ρ.z.rl 0).length : Nat) : Int) ≤ (((ρ.z.rl 0).length : Nat) : Int) + ρ.i .i64 1 ∨ (ρ.z.rl 0).length = 0
  · obtain ⟨a1, a2, a3⟩ := l1 c
    by_cases d : 1 ≤ (ρ.z.rl 0).length
    · obtain ⟨b1, b2⟩ := a3 d
      first
        | omega
        | exact absurd b1 (by assumption)
        | exact absurd b2 (by assumption)
    · have e : ρ.z.rl 0 = [] := List.length_eq_zero_iff.1 (by omega)
      first
        | omega
        | exact absurd e.symm (by assumption)
        | (have q := (lsB_t.1 (by assumption)).2; omega)
  · obtain ⟨a1, a2⟩ := l2 c
    first
      | omega
      | (have q := (lsB_t.1 (by assumption)).1; omega)
theorem vclists_18 : VD TTlists (st0 cLists) wlists_18 := by
  intro ρ kn hp
  exact all_nil
theorem vclists_19 : VD TTlists (st0 cLists) wlists_19 := by
  intro ρ kn hp
  have hF : ρ.z.F = oct.Φ := kn.F
  simp only [h_nil, h_cons, d_le, d_eq, d_not, d_var, d_lit, d_cel, d_leq, d_fn, d_and, d_iff, IE.den, LE.den, AL.den, lenV, true_and, and_true, pclists_34, pclists_26, pclists_17, pclists_6, pclists_4, pclists_3, pclists_2, pclists_1, pclists_0, hF, pi2, pi3, pi4, pi5, pi6, pi7, pl1, pi8, pi9, pl3, pi10, pi11, pb1, pl2, pb2, pl5] at hp
  obtain ⟨p1, p2, p3, p4, p5, p6, p7, p8, p9, p10, p11, p12, p13, p14, p15, p16⟩ := hp
  exfalso
  have hf : fewT (ρ.z.rl 0) = true := by assumption
  have hT := kn.rom 0 _ _ rfl
  have hS := kn.rom 1 _ _ rfl
  have h4 := cat_4000 hf (Nat.le_refl _)
  have hX : (((catB (ρ.z.rl 0) (ρ.z.rl 0).length ++ ρ.z.rl 1).length : Nat) : Int) ≤ 9223372036854775807 := by rw [List.length_append]; omega
  have cr := (cat_rd (S := ρ.z.rl 1) hf).1
  obtain ⟨l1, l2⟩ := list_back (S := ρ.z.rl 1) (m := (((ρ.z.rl 0).length : Nat) : Int) + ρ.i .i64 1) hf hT hS
  try simp only [lsN_in hX, lsE_in] at *
  by_cases c : (((ρ.z.rl 0).length : Nat) : Int) ≤ (((ρ.z.rl 0).length : Nat) : Int) + ρ.i .i64 1 ∨ (ρ.z.rl 0).length = 0
  · obtain ⟨a1, a2, a3⟩ := l1 c
    by_cases d : 1 ≤ (ρ.z.rl 0).length
    · obtain ⟨b1, b2⟩ := a3 d
      first
        | omega
        | exact absurd b1 (by assumption)
        | exact absurd b2 (by assumption)
    · have e : ρ.z.rl 0 = [] := List.length_eq_zero_iff.1 (by omega)
      first
        | omega
        | exact absurd e.symm (by assumption)
        | (have q := (lsB_t.1 (by assumption)).2; omega)
  · obtain ⟨a1, a2⟩ := l2 c
    first
      | omega
      | (have q := (lsB_t.1 (by assumption)).1; omega)
theorem vclists_20 : VD TTlists (st0 cLists) wlists_20 := by
  intro ρ kn hp
  have hF : ρ.z.F = oct.Φ := kn.F
  simp only [h_nil, h_cons, d_le, d_eq, d_not, d_var, d_lit, d_cel, d_leq, d_fn, d_and, d_iff, IE.den, LE.den, AL.den, lenV, true_and, and_true, pclists_26, pclists_17, pclists_6, pclists_4, pclists_3, pclists_2, pclists_1, pclists_0, hF, pi2, pi3, pi4, pi5, pi6, pi7, pl1, pi8, pi9, pl3, pi10, pi11, pb1, pl2, pb2, pl5] at hp
  obtain ⟨p1, p2, p3, p4, p5, p6, p7, p8, p9, p10, p11, p12, p13, p14, p15⟩ := hp
  exfalso
  have hf : fewT (ρ.z.rl 0) = true := by assumption
  have hT := kn.rom 0 _ _ rfl
  have hS := kn.rom 1 _ _ rfl
  have h4 := cat_4000 hf (Nat.le_refl _)
  have hX : (((catB (ρ.z.rl 0) (ρ.z.rl 0).length ++ ρ.z.rl 1).length : Nat) : Int) ≤ 9223372036854775807 := by rw [List.length_append]; omega
  have cr := (cat_rd (S := ρ.z.rl 1) hf).1
  obtain ⟨l1, l2⟩ := list_back (S := ρ.z.rl 1) (m := (((ρ.z.rl 0).length : Nat) : Int) + ρ.i .i64 1) hf hT hS
  try simp only [lsN_in hX, lsE_in] at *
  by_cases c : (((ρ.z.rl 0).length : Nat) : Int) ≤ (((ρ.z.rl 0).length : Nat) : Int) + ρ.i .i64 1 ∨ (ρ.z.rl 0).length = 0
  · obtain ⟨a1, a2, a3⟩ := l1 c
    by_cases d : 1 ≤ (ρ.z.rl 0).length
    · obtain ⟨b1, b2⟩ := a3 d
      first
        | omega
        | exact absurd b1 (by assumption)
        | exact absurd b2 (by assumption)
    · have e : ρ.z.rl 0 = [] := List.length_eq_zero_iff.1 (by omega)
      first
        | omega
        | exact absurd e.symm (by assumption)
        | (have q := (lsB_t.1 (by assumption)).2; omega)
  · obtain ⟨a1, a2⟩ := l2 c
    first
      | omega
      | (have q := (lsB_t.1 (by assumption)).1; omega)
theorem vclists_21 : VD TTlists (st0 cLists) wlists_21 := by
  intro ρ kn hp
  exact all_nil
theorem vclists_22 : VD TTlists (st0 cLists) wlists_22 := by
  intro ρ kn hp
  have hF : ρ.z.F = oct.Φ := kn.F
  simp only [h_nil, h_cons, d_le, d_eq, d_not, d_var, d_lit, d_cel, d_leq, d_fn, d_and, d_iff, IE.den, LE.den, AL.den, lenV, true_and, and_true, pclists_38, pclists_35, pclists_27, pclists_17, pclists_6, pclists_4, pclists_3, pclists_2, pclists_1, pclists_0, hF, pi2, pi3, pi4, pi5, pi6, pi7, pl1, pi8, pi9, pl3, pi10, pi11, pb1, pl2, pb2, pl5] at hp
  obtain ⟨p1, p2, p3, p4, p5, p6, p7, p8, p9, p10, p11, p12, p13, p14, p15, p16, p17⟩ := hp
  exfalso
  have hf : fewT (ρ.z.rl 0) = true := by assumption
  have hT := kn.rom 0 _ _ rfl
  have hS := kn.rom 1 _ _ rfl
  have h4 := cat_4000 hf (Nat.le_refl _)
  have hX : (((catB (ρ.z.rl 0) (ρ.z.rl 0).length ++ ρ.z.rl 1).length : Nat) : Int) ≤ 9223372036854775807 := by rw [List.length_append]; omega
  have cr := (cat_rd (S := ρ.z.rl 1) hf).1
  obtain ⟨l1, l2⟩ := list_back (S := ρ.z.rl 1) (m := (((ρ.z.rl 0).length : Nat) : Int) + ρ.i .i64 1) hf hT hS
  try simp only [lsN_in hX, lsE_in] at *
  by_cases c : (((ρ.z.rl 0).length : Nat) : Int) ≤ (((ρ.z.rl 0).length : Nat) : Int) + ρ.i .i64 1 ∨ (ρ.z.rl 0).length = 0
  · obtain ⟨a1, a2, a3⟩ := l1 c
    by_cases d : 1 ≤ (ρ.z.rl 0).length
    · obtain ⟨b1, b2⟩ := a3 d
      first
        | omega
        | exact absurd b1 (by assumption)
        | exact absurd b2 (by assumption)
    · have e : ρ.z.rl 0 = [] := List.length_eq_zero_iff.1 (by omega)
      first
        | omega
        | exact absurd e.symm (by assumption)
        | (have q := (lsB_t.1 (by assumption)).2; omega)
  · obtain ⟨a1, a2⟩ := l2 c
    first
      | omega
      | (have q := (lsB_t.1 (by assumption)).1; omega)
theorem vclists_23 : VD TTlists (st0 cLists) wlists_23 := by
  intro ρ kn hp
  have hF : ρ.z.F = oct.Φ := kn.F
  simp only [h_nil, h_cons, d_le, d_eq, d_not, d_var, d_lit, d_cel, d_leq, d_fn, d_and, d_iff, IE.den, LE.den, AL.den, lenV, true_and, and_true, pclists_35, pclists_27, pclists_17, pclists_6, pclists_4, pclists_3, pclists_2, pclists_1, pclists_0, hF, pi2, pi3, pi4, pi5, pi6, pi7, pl1, pi8, pi9, pl3, pi10, pi11, pb1, pl2, pb2, pl5] at hp
  obtain ⟨p1, p2, p3, p4, p5, p6, p7, p8, p9, p10, p11, p12, p13, p14, p15, p16⟩ := hp
  exfalso
  have hf : fewT (ρ.z.rl 0) = true := by assumption
  have hT := kn.rom 0 _ _ rfl
  have hS := kn.rom 1 _ _ rfl
  have h4 := cat_4000 hf (Nat.le_refl _)
  have hX : (((catB (ρ.z.rl 0) (ρ.z.rl 0).length ++ ρ.z.rl 1).length : Nat) : Int) ≤ 9223372036854775807 := by rw [List.length_append]; omega
  have cr := (cat_rd (S := ρ.z.rl 1) hf).1
  obtain ⟨l1, l2⟩ := list_back (S := ρ.z.rl 1) (m := (((ρ.z.rl 0).length : Nat) : Int) + ρ.i .i64 1) hf hT hS
  try simp only [lsN_in hX, lsE_in] at *
  by_cases c : (((ρ.z.rl 0).length : Nat) : Int) ≤ (((ρ.z.rl 0).length : Nat) : Int) + ρ.i .i64 1 ∨ (ρ.z.rl 0).length = 0
  · obtain ⟨a1, a2, a3⟩ := l1 c
    by_cases d : 1 ≤ (ρ.z.rl 0).length
    · obtain ⟨b1, b2⟩ := a3 d
      first
        | omega
        | exact absurd b1 (by assumption)
        | exact absurd b2 (by assumption)
    · have e : ρ.z.rl 0 = [] := List.length_eq_zero_iff.1 (by omega)
      first
        | omega
        | exact absurd e.symm (by assumption)
        | (have q := (lsB_t.1 (by assumption)).2; omega)
  · obtain ⟨a1, a2⟩ := l2 c
    first
      | omega
      | (have q := (lsB_t.1 (by assumption)).1; omega)
theorem vclists_24 : VD TTlists (st0 cLists) wlists_24 := by
  intro ρ kn hp
  have hF : ρ.z.F = oct.Φ := kn.F
  simp only [h_nil, h_cons, d_le, d_eq, d_not, d_var, d_lit, d_cel, d_leq, d_fn, d_and, d_iff, IE.den, LE.den, AL.den, lenV, true_and, and_true, pclists_27, pclists_17, pclists_6, pclists_4, pclists_3, pclists_2, pclists_1, pclists_0, hF, pi2, pi3, pi4, pi5, pi6, pi7, pl1, pi8, pi9, pl3, pi10, pi11, pb1, pl2, pb2, pl5] at hp
  obtain ⟨p1, p2, p3, p4, p5, p6, p7, p8, p9, p10, p11, p12, p13, p14, p15⟩ := hp
  exfalso
  have hf : fewT (ρ.z.rl 0) = true := by assumption
  have hT := kn.rom 0 _ _ rfl
  have hS := kn.rom 1 _ _ rfl
  have h4 := cat_4000 hf (Nat.le_refl _)
  have hX : (((catB (ρ.z.rl 0) (ρ.z.rl 0).length ++ ρ.z.rl 1).length : Nat) : Int) ≤ 9223372036854775807 := by rw [List.length_append]; omega
  have cr := (cat_rd (S := ρ.z.rl 1) hf).1
  obtain ⟨l1, l2⟩ := list_back (S := ρ.z.rl 1) (m := (((ρ.z.rl 0).length : Nat) : Int) + ρ.i .i64 1) hf hT hS
  try simp only [lsN_in hX, lsE_in] at *
  by_cases c : (((ρ.z.rl 0).length : Nat) : Int) ≤ (((ρ.z.rl 0).length : Nat) : Int) + ρ.i .i64 1 ∨ (ρ.z.rl 0).length = 0
  · obtain ⟨a1, a2, a3⟩ := l1 c
    by_cases d : 1 ≤ (ρ.z.rl 0).length
    · obtain ⟨b1, b2⟩ := a3 d
      first
        | omega
        | exact absurd b1 (by assumption)
        | exact absurd b2 (by assumption)
    · have e : ρ.z.rl 0 = [] := List.length_eq_zero_iff.1 (by omega)
      first
        | omega
        | exact absurd e.symm (by assumption)
        | (have q := (lsB_t.1 (by assumption)).2; omega)
  · obtain ⟨a1, a2⟩ := l2 c
    first
      | omega
      | (have q := (lsB_t.1 (by assumption)).1; omega)
theorem vclists_25 : VD TTlists (st0 cLists) wlists_25 := by
  intro ρ kn hp
  exact all_nil
theorem vclists_26 : VD TTlists (st0 cLists) wlists_26 := by
  intro ρ kn hp
  have hF : ρ.z.F = oct.Φ := kn.F
  simp only [h_nil, h_cons, d_le, d_eq, d_not, d_var, d_lit, d_cel, d_leq, d_fn, d_and, d_iff, IE.den, LE.den, AL.den, lenV, true_and, and_true, pclists_28, pclists_18, pclists_11, pclists_8, pclists_6, pclists_4, pclists_3, pclists_2, pclists_1, pclists_0, hF, pi2, pi3, pi4, pi5, pi6, pi7, pl1, pi8, pi9, pl3, pi10, pi11, pb1, pl2, pb2, pl5] at hp
  obtain ⟨p1, p2, p3, p4, p5, p6, p7, p8, p9, p10, p11, p12, p13, p14, p15⟩ := hp
  exfalso
  have hf : fewT (ρ.z.rl 0) = true := by assumption
  have hT := kn.rom 0 _ _ rfl
  have hS := kn.rom 1 _ _ rfl
  have h4 := cat_4000 hf (Nat.le_refl _)
  have hX : (((catB (ρ.z.rl 0) (ρ.z.rl 0).length ++ ρ.z.rl 1).length : Nat) : Int) ≤ 9223372036854775807 := by rw [List.length_append]; omega
  have cr := (cat_rd (S := ρ.z.rl 1) hf).1
  obtain ⟨l1, l2⟩ := list_back (S := ρ.z.rl 1) (m := (((ρ.z.rl 0).length : Nat) : Int) + ρ.i .i64 1) hf hT hS
  try simp only [lsN_in hX, lsE_in] at *
  by_cases c : (((ρ.z.rl 0).length : Nat) : Int) ≤ (((ρ.z.rl 0).length : Nat) : Int) + ρ.i .i64 1 ∨ (ρ.z.rl 0).length = 0
  · obtain ⟨a1, a2, a3⟩ := l1 c
    by_cases d : 1 ≤ (ρ.z.rl 0).length
    · obtain ⟨b1, b2⟩ := a3 d
      first
        | omega
        | exact absurd b1 (by assumption)
        | exact absurd b2 (by assumption)
    · have e : ρ.z.rl 0 = [] := List.length_eq_zero_iff.1 (by omega)
      first
        | omega
        | exact absurd e.symm (by assumption)
        | (have q := (lsB_t.1 (by assumption)).2; omega)
  · obtain ⟨a1, a2⟩ := l2 c
    first
      | omega
      | (have q := (lsB_t.1 (by assumption)).1; omega)
theorem vclists_27 : VD TTlists (st0 cLists) wlists_27 := by
  intro ρ kn hp
  have hF : ρ.z.F = oct.Φ := kn.F
  simp only [h_nil, h_cons, d_le, d_eq, d_not, d_var, d_lit, d_cel, d_leq, d_fn, d_and, d_iff, IE.den, LE.den, AL.den, lenV, true_and, and_true, pclists_18, pclists_11, pclists_8, pclists_6, pclists_4, pclists_3, pclists_2, pclists_1, pclists_0, hF, pi2, pi3, pi4, pi5, pi6, pi7, pl1, pi8, pi9, pl3, pi10, pi11, pb1, pl2, pb2, pl5] at hp
  obtain ⟨p1, p2, p3, p4, p5, p6, p7, p8, p9, p10, p11, p12, p13, p14⟩ := hp
  exfalso
  have hf : fewT (ρ.z.rl 0) = true := by assumption
  have hT := kn.rom 0 _ _ rfl
  have hS := kn.rom 1 _ _ rfl
  have h4 := cat_4000 hf (Nat.le_refl _)
  have hX : (((catB (ρ.z.rl 0) (ρ.z.rl 0).length ++ ρ.z.rl 1).length : Nat) : Int) ≤ 9223372036854775807 := by rw [List.length_append]; omega
  have cr := (cat_rd (S := ρ.z.rl 1) hf).1
  obtain ⟨l1, l2⟩ := list_back (S := ρ.z.rl 1) (m := (((ρ.z.rl 0).length : Nat) : Int) + ρ.i .i64 1) hf hT hS
  try simp only [lsN_in hX, lsE_in] at *
  by_cases c : (((ρ.z.rl 0).length : Nat) : Int) ≤ (((ρ.z.rl 0).length : Nat) : Int) + ρ.i .i64 1 ∨ (ρ.z.rl 0).length = 0
  · obtain ⟨a1, a2, a3⟩ := l1 c
    by_cases d : 1 ≤ (ρ.z.rl 0).length
    · obtain ⟨b1, b2⟩ := a3 d
      first
        | omega
        | exact absurd b1 (by assumption)
        | exact absurd b2 (by assumption)
    · have e : ρ.z.rl 0 = [] := List.length_eq_zero_iff.1 (by omega)
      first
        | omega
        | exact absurd e.symm (by assumption)
        | (have q := (lsB_t.1 (by assumption)).2; omega)
  · obtain ⟨a1, a2⟩ := l2 c
    first
      | omega
      | (have q := (lsB_t.1 (by assumption)).1; omega)
theorem vclists_28 : VD TTlists (st0 cLists) wlists_28 := by
  intro ρ kn hp
  have hF : ρ.z.F = oct.Φ := kn.F
  simp only [h_nil, h_cons, d_le, d_eq, d_not, d_var, d_lit, d_cel, d_leq, d_fn, d_and, d_iff, IE.den, LE.den, AL.den, lenV, true_and, and_true, pclists_11, pclists_8, pclists_6, pclists_4, pclists_3, pclists_2, pclists_1, pclists_0, hF, pi2, pi3, pi4, pi5, pi6, pi7, pl1, pi8, pi9, pl3, pi10, pi11, pb1, pl2, pb2, pl5] at hp
  obtain ⟨p1, p2, p3, p4, p5, p6, p7, p8, p9, p10, p11, p12, p13⟩ := hp
  exfalso
  have hf : fewT (ρ.z.rl 0) = true := by assumption
  have hT := kn.rom 0 _ _ rfl
  have hS := kn.rom 1 _ _ rfl
  have h4 := cat_4000 hf (Nat.le_refl _)
  have hX : (((catB (ρ.z.rl 0) (ρ.z.rl 0).length ++ ρ.z.rl 1).length : Nat) : Int) ≤ 9223372036854775807 := by rw [List.length_append]; omega
  have cr := (cat_rd (S := ρ.z.rl 1) hf).1
  obtain ⟨l1, l2⟩ := list_back (S := ρ.z.rl 1) (m := (((ρ.z.rl 0).length : Nat) : Int) + ρ.i .i64 1) hf hT hS
  try simp only [lsN_in hX, lsE_in] at *
  by_cases c : (((ρ.z.rl 0).length : Nat) : Int) ≤ (((ρ.z.rl 0).length : Nat) : Int) + ρ.i .i64 1 ∨ (ρ.z.rl 0).length = 0
  · obtain ⟨a1, a2, a3⟩ := l1 c
    by_cases d : 1 ≤ (ρ.z.rl 0).length
    · obtain ⟨b1, b2⟩ := a3 d
      first
        | omega
        | exact absurd b1 (by assumption)
        | exact absurd b2 (by assumption)
    · have e : ρ.z.rl 0 = [] := List.length_eq_zero_iff.1 (by omega)
      first
        | omega
        | exact absurd e.symm (by assumption)
        | (have q := (lsB_t.1 (by assumption)).2; omega)
  · obtain ⟨a1, a2⟩ := l2 c
    first
      | omega
      | (have q := (lsB_t.1 (by assumption)).1; omega)
theorem vclists_29 : VD TTlists (st0 cLists) wlists_29 := by
  intro ρ kn hp
  exact all_nil
theorem vclists_30 : VD TTlists (st0 cLists) wlists_30 := by
  intro ρ kn hp
  have hF : ρ.z.F = oct.Φ := kn.F
  simp only [h_nil, h_cons, d_le, d_eq, d_not, d_var, d_lit, d_cel, d_leq, d_fn, d_and, d_iff, IE.den, LE.den, AL.den, lenV, true_and, and_true, pclists_36, pclists_29, pclists_19, pclists_12, pclists_8, pclists_6, pclists_4, pclists_3, pclists_2, pclists_1, pclists_0, hF, pi2, pi3, pi4, pi5, pi6, pi7, pl1, pi8, pi9, pl3, pi10, pi11, pb1, pl2, pb2, pl5] at hp
  obtain ⟨p1, p2, p3, p4, p5, p6, p7, p8, p9, p10, p11, p12, p13, p14, p15, p16⟩ := hp
  exfalso
  have hf : fewT (ρ.z.rl 0) = true := by assumption
  have hT := kn.rom 0 _ _ rfl
  have hS := kn.rom 1 _ _ rfl
  have h4 := cat_4000 hf (Nat.le_refl _)
  have hX : (((catB (ρ.z.rl 0) (ρ.z.rl 0).length ++ ρ.z.rl 1).length : Nat) : Int) ≤ 9223372036854775807 := by rw [List.length_append]; omega
  have cr := (cat_rd (S := ρ.z.rl 1) hf).1
  obtain ⟨l1, l2⟩ := list_back (S := ρ.z.rl 1) (m := (((ρ.z.rl 0).length : Nat) : Int) + ρ.i .i64 1) hf hT hS
  try simp only [lsN_in hX, lsE_in] at *
  by_cases c : (((ρ.z.rl 0).length : Nat) : Int) ≤ (((ρ.z.rl 0).length : Nat) : Int) + ρ.i .i64 1 ∨ (ρ.z.rl 0).length = 0
  · obtain ⟨a1, a2, a3⟩ := l1 c
    by_cases d : 1 ≤ (ρ.z.rl 0).length
    · obtain ⟨b1, b2⟩ := a3 d
      first
        | omega
        | exact absurd b1 (by assumption)
        | exact absurd b2 (by assumption)
    · have e : ρ.z.rl 0 = [] := List.length_eq_zero_iff.1 (by omega)
      first
        | omega
        | exact absurd e.symm (by assumption)
        | (have q := (lsB_t.1 (by assumption)).2; omega)
  · obtain ⟨a1, a2⟩ := l2 c
    first
      | omega
      | (have q := (lsB_t.1 (by assumption)).1; omega)
theorem vclists_31 : VD TTlists (st0 cLists) wlists_31 := by
  intro ρ kn hp
  have hF : ρ.z.F = oct.Φ := kn.F
  simp only [h_nil, h_cons, d_le, d_eq, d_not, d_var, d_lit, d_cel, d_leq, d_fn, d_and, d_iff, IE.den, LE.den, AL.den, lenV, true_and, and_true, pclists_29, pclists_19, pclists_12, pclists_8, pclists_6, pclists_4, pclists_3, pclists_2, pclists_1, pclists_0, hF, pi2, pi3, pi4, pi5, pi6, pi7, pl1, pi8, pi9, pl3, pi10, pi11, pb1, pl2, pb2, pl5] at hp
  obtain ⟨p1, p2, p3, p4, p5, p6, p7, p8, p9, p10, p11, p12, p13, p14, p15⟩ := hp
  exfalso
  have hf : fewT (ρ.z.rl 0) = true := by assumption
  have hT := kn.rom 0 _ _ rfl
  have hS := kn.rom 1 _ _ rfl
  have h4 := cat_4000 hf (Nat.le_refl _)
  have hX : (((catB (ρ.z.rl 0) (ρ.z.rl 0).length ++ ρ.z.rl 1).length : Nat) : Int) ≤ 9223372036854775807 := by rw [List.length_append]; omega
  have cr := (cat_rd (S := ρ.z.rl 1) hf).1
  obtain ⟨l1, l2⟩ := list_back (S := ρ.z.rl 1) (m := (((ρ.z.rl 0).length : Nat) : Int) + ρ.i .i64 1) hf hT hS
  try simp only [lsN_in hX, lsE_in] at *
  by_cases c : (((ρ.z.rl 0).length : Nat) : Int) ≤ (((ρ.z.rl 0).length : Nat) : Int) + ρ.i .i64 1 ∨ (ρ.z.rl 0).length = 0
  · obtain ⟨a1, a2, a3⟩ := l1 c
    by_cases d : 1 ≤ (ρ.z.rl 0).length
    · obtain ⟨b1, b2⟩ := a3 d
      first
        | omega
        | exact absurd b1 (by assumption)
        | exact absurd b2 (by assumption)
    · have e : ρ.z.rl 0 = [] := List.length_eq_zero_iff.1 (by omega)
      first
        | omega
        | exact absurd e.symm (by assumption)
        | (have q := (lsB_t.1 (by assumption)).2; omega)
  · obtain ⟨a1, a2⟩ := l2 c
    first
      | omega
      | (have q := (lsB_t.1 (by assumption)).1; omega)
theorem vclists_32 : VD TTlists (st0 cLists) wlists_32 := by
  intro ρ kn hp
  have hF : ρ.z.F = oct.Φ := kn.F
  simp only [h_nil, h_cons, d_le, d_eq, d_not, d_var, d_lit, d_cel, d_leq, d_fn, d_and, d_iff, IE.den, LE.den, AL.den, lenV, true_and, and_true, pclists_19, pclists_12, pclists_8, pclists_6, pclists_4, pclists_3, pclists_2, pclists_1, pclists_0, hF, pi2, pi3, pi4, pi5, pi6, pi7, pl1, pi8, pi9, pl3, pi10, pi11, pb1, pl2, pb2, pl5] at hp
  obtain ⟨p1, p2, p3, p4, p5, p6, p7, p8, p9, p10, p11, p12, p13, p14⟩ := hp
  exfalso
  have hf : fewT (ρ.z.rl 0) = true := by assumption
  have hT := kn.rom 0 _ _ rfl
  have hS := kn.rom 1 _ _ rfl
  have h4 := cat_4000 hf (Nat.le_refl _)
  have hX : (((catB (ρ.z.rl 0) (ρ.z.rl 0).length ++ ρ.z.rl 1).length : Nat) : Int) ≤ 9223372036854775807 := by rw [List.length_append]; omega
  have cr := (cat_rd (S := ρ.z.rl 1) hf).1
  obtain ⟨l1, l2⟩ := list_back (S := ρ.z.rl 1) (m := (((ρ.z.rl 0).length : Nat) : Int) + ρ.i .i64 1) hf hT hS
  try simp only [lsN_in hX, lsE_in] at *
  by_cases c : (((ρ.z.rl 0).length : Nat) : Int) ≤ (((ρ.z.rl 0).length : Nat) : Int) + ρ.i .i64 1 ∨ (ρ.z.rl 0).length = 0
  · obtain ⟨a1, a2, a3⟩ := l1 c
    by_cases d : 1 ≤ (ρ.z.rl 0).length
    · obtain ⟨b1, b2⟩ := a3 d
      first
        | omega
        | exact absurd b1 (by assumption)
        | exact absurd b2 (by assumption)
    · have e : ρ.z.rl 0 = [] := List.length_eq_zero_iff.1 (by omega)
      first
        | omega
        | exact absurd e.symm (by assumption)
        | (have q := (lsB_t.1 (by assumption)).2; omega)
  · obtain ⟨a1, a2⟩ := l2 c
    first
      | omega
      | (have q := (lsB_t.1 (by assumption)).1; omega)
theorem vclists_33 : VD TTlists (st0 cLists) wlists_33 := by
  intro ρ kn hp
  exact all_nil
theorem vclists_34 : VD TTlists (st0 cLists) wlists_34 := by
  intro ρ kn hp
  have hF : ρ.z.F = oct.Φ := kn.F
  simp only [h_nil, h_cons, d_le, d_eq, d_not, d_var, d_lit, d_cel, d_leq, d_fn, d_and, d_iff, IE.den, LE.den, AL.den, lenV, true_and, and_true, pclists_30, pclists_20, pclists_12, pclists_8, pclists_6, pclists_4, pclists_3, pclists_2, pclists_1, pclists_0, hF, pi2, pi3, pi4, pi5, pi6, pi7, pl1, pi8, pi9, pl3, pi10, pi11, pb1, pl2, pb2, pl5] at hp
  obtain ⟨p1, p2, p3, p4, p5, p6, p7, p8, p9, p10, p11, p12, p13, p14, p15⟩ := hp
  exfalso
  have hf : fewT (ρ.z.rl 0) = true := by assumption
  have hT := kn.rom 0 _ _ rfl
  have hS := kn.rom 1 _ _ rfl
  have h4 := cat_4000 hf (Nat.le_refl _)
  have hX : (((catB (ρ.z.rl 0) (ρ.z.rl 0).length ++ ρ.z.rl 1).length : Nat) : Int) ≤ 9223372036854775807 := by rw [List.length_append]; omega
  have cr := (cat_rd (S := ρ.z.rl 1) hf).1
  obtain ⟨l1, l2⟩ := list_back (S := ρ.z.rl 1) (m := (((ρ.z.rl 0).length : Nat) : Int) + ρ.i .i64 1) hf hT hS
  try simp only [lsN_in hX, lsE_in] at *
  by_cases c : (((ρ.z.rl 0).length : Nat) : Int) ≤ (((ρ.z.rl 0).length : Nat) : Int) + ρ.i .i64 1 ∨ (ρ.z.rl 0).length = 0
  · obtain ⟨a1, a2, a3⟩ := l1 c
    by_cases d : 1 ≤ (ρ.z.rl 0).length
    · obtain ⟨b1, b2⟩ := a3 d
      first
        | omega
        | exact absurd b1 (by assumption)
        | exact absurd b2 (by assumption)
    · have e : ρ.z.rl 0 = [] := List.length_eq_zero_iff.1 (by omega)
      first
        | omega
        | exact absurd e.symm (by assumption)
        | (have q := (lsB_t.1 (by assumption)).2; omega)
  · obtain ⟨a1, a2⟩ := l2 c
    first
      | omega
      | (have q := (lsB_t.1 (by assumption)).1; omega)
theorem vclists_35 : VD TTlists (st0 cLists) wlists_35 := by
  intro ρ kn hp
  have hF : ρ.z.F = oct.Φ := kn.F
  simp only [h_nil, h_cons, d_le, d_eq, d_not, d_var, d_lit, d_cel, d_leq, d_fn, d_and, d_iff, IE.den, LE.den, AL.den, lenV, true_and, and_true, pclists_20, pclists_12, pclists_8, pclists_6, pclists_4, pclists_3, pclists_2, pclists_1, pclists_0, hF, pi2, pi3, pi4, pi5, pi6, pi7, pl1, pi8, pi9, pl3, pi10, pi11, pb1, pl2, pb2, pl5] at hp
  obtain ⟨p1, p2, p3, p4, p5, p6, p7, p8, p9, p10, p11, p12, p13, p14⟩ := hp
  exfalso
  have hf : fewT (ρ.z.rl 0) = true := by assumption
  have hT := kn.rom 0 _ _ rfl
  have hS := kn.rom 1 _ _ rfl
  have h4 := cat_4000 hf (Nat.le_refl _)
  have hX : (((catB (ρ.z.rl 0) (ρ.z.rl 0).length ++ ρ.z.rl 1).length : Nat) : Int) ≤ 9223372036854775807 := by rw [List.length_append]; omega
  have cr := (cat_rd (S := ρ.z.rl 1) hf).1
  obtain ⟨l1, l2⟩ := list_back (S := ρ.z.rl 1) (m := (((ρ.z.rl 0).length : Nat) : Int) + ρ.i .i64 1) hf hT hS
  try simp only [lsN_in hX, lsE_in] at *
  by_cases c : (((ρ.z.rl 0).length : Nat) : Int) ≤ (((ρ.z.rl 0).length : Nat) : Int) + ρ.i .i64 1 ∨ (ρ.z.rl 0).length = 0
  · obtain ⟨a1, a2, a3⟩ := l1 c
    by_cases d : 1 ≤ (ρ.z.rl 0).length
    · obtain ⟨b1, b2⟩ := a3 d
      first
        | omega
        | exact absurd b1 (by assumption)
        | exact absurd b2 (by assumption)
    · have e : ρ.z.rl 0 = [] := List.length_eq_zero_iff.1 (by omega)
      first
        | omega
        | exact absurd e.symm (by assumption)
        | (have q := (lsB_t.1 (by assumption)).2; omega)
  · obtain ⟨a1, a2⟩ := l2 c
    first
      | omega
      | (have q := (lsB_t.1 (by assumption)).1; omega)
theorem vclists_36 : VD TTlists (st0 cLists) wlists_36 := by
  intro ρ kn hp
  exact all_nil
theorem vclists_37 : VD TTlists (st0 cLists) wlists_37 := by
  intro ρ kn hp
  exact all_nil
theorem vclists_38 : VD TTlists (st0 cLists) wlists_38 := by
  intro ρ kn hp
  exact all_nil
theorem vclists_39 : VD TTlists (st0 cLists) wlists_39 := by
  intro ρ kn hp
  exact all_nil
theorem told_lists : Sx.Told oct.Φ cLists := told_vw (cs := [cWorks, cFewT, cFewF, cList, cRList, cListR2, cListN2, cSameS]) (all_cons told_works (all_cons told_fewT (all_cons told_fewF (all_cons told_list (all_cons told_rlist (all_cons told_ljR (all_cons told_ljN (all_cons told_sames (all_nil))))))))) 8000 vwlists (by kernel_rfl) (by kernel_rfl) (by kernel_rfl) (post_nil rfl) (by kernel_rfl) (by kernel_rfl) (all_cons vclists_0 (all_cons vclists_1 (all_cons vclists_2 (all_cons vclists_3 (all_cons vclists_4 (all_cons vclists_5 (all_cons vclists_6 (all_cons vclists_7 (all_cons vclists_8 (all_cons vclists_9 (all_cons vclists_10 (all_cons vclists_11 (all_cons vclists_12 (all_cons vclists_13 (all_cons vclists_14 (all_cons vclists_15 (all_cons vclists_16 (all_cons vclists_17 (all_cons vclists_18 (all_cons vclists_19 (all_cons vclists_20 (all_cons vclists_21 (all_cons vclists_22 (all_cons vclists_23 (all_cons vclists_24 (all_cons vclists_25 (all_cons vclists_26 (all_cons vclists_27 (all_cons vclists_28 (all_cons vclists_29 (all_cons vclists_30 (all_cons vclists_31 (all_cons vclists_32 (all_cons vclists_33 (all_cons vclists_34 (all_cons vclists_35 (all_cons vclists_36 (all_cons vclists_37 (all_cons vclists_38 (all_cons vclists_39 (all_nil)))))))))))))))))))))))))))))))))))))))))
end Go.Proofs.Ytjgkaimgocnkmaa.oct
