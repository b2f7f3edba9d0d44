/- Layer link: the law LinkHolds. No condition. -/
import Derived.Test.YtjgkaimgocnkmaaMe
set_option linter.unusedVariables false
set_option linter.unusedSimpArgs false
set_option linter.deprecated false
namespace Go.Proofs.Ytjgkaimgocnkmaa.lnk
open Go Go.Proofs.Ytjgkaimgocnkmaa.Sx
noncomputable section
abbrev TTholds : Tab := T lnk.Φ cHolds.roms [cWorks, cSendS, cRest, cSendM, cRestM, cTakeA, cTakeB, cTakeC, cTakeD, cStamp, cRight]
def tholds1 : Cfg := { top := ⟨14, over (opqS 10000 129) [(0, (SV.rom 0 (IE.lit 0) (IE.len (LE.rom 0)) none)), (1, (SV.rom 1 (IE.lit 0) (IE.len (LE.rom 1)) none)), (5, (SV.ptr 3 0)), (7, (SV.ptr 7 0)), (9, (SV.sll 15 16 2 (IE.lit 0) (IE.var .i64 1003) none)), (10, (SV.int .i64 (IE.var .i64 1003)))], ogt (loopTodo (bodyOf (T lnk.Φ [] []) 14) 0), [], false, none⟩, rest := [], heap := [(3, .cells [(SV.int .i64 (IE.var .i64 1000)), (SV.sll 17 18 1 (IE.lit 0) (IE.var .i64 1004) none), (SV.sll 19 20 2 (IE.lit 0) (IE.lit 3) none)] 68), (7, .cells [(SV.int .i64 (IE.lit 1)), (SV.slice 5 0 3 3), (SV.slice 6 0 3 3)] 68), (15, .rowl (LE.var 1006) (IE.var .i64 1003) [(CK.int .i64), (CK.int .i64)] 70 16 2), (17, .rowl (LE.var 1002) (IE.var .i64 1004) [(CK.int .i64)] 2 18 1), (19, .rowl (LE.cat (LE.one (AL.int .i64 (IE.lit 0) (AL.int .i64 (IE.lit 0) AL.nil))) (LE.cat (LE.one (AL.int .i64 (IE.lit 0) (AL.int .i64 (IE.lit 0) AL.nil))) (LE.one (AL.int .i64 (IE.lit 0) (AL.int .i64 (IE.lit 0) AL.nil))))) (IE.lit 3) [(CK.int .i64), (CK.int .i64)] 70 20 2), (5, .cells [(SV.int .i64 (IE.lit 0)), (SV.int .i64 (IE.lit 0)), (SV.int .i64 (IE.lit 0))] 2), (6, .cells [(SV.int .i64 (IE.lit 0)), (SV.int .i64 (IE.lit 0)), (SV.int .i64 (IE.lit 0)), (SV.int .i64 (IE.lit 0)), (SV.int .i64 (IE.lit 0)), (SV.int .i64 (IE.lit 0))] 70)], next := 21, pc := .lit true :: ([] ++ [(BE.le (IE.len (LE.rom 0)) (IE.lit 40)), (BE.le (IE.len (LE.rom 1)) (IE.lit 80)), (BE.not (BE.le (IE.len (LE.rom 0)) (IE.lit 0))), (BE.fn 1 (AL.lst (LE.cat (LE.one (AL.int .i64 (IE.lit 0) AL.nil)) (LE.cat (LE.one (AL.int .i64 (IE.lit 0) AL.nil)) (LE.one (AL.int .i64 (IE.lit 0) AL.nil)))) AL.nil)), (BE.fn 2 (AL.lst (LE.cat (LE.one (AL.int .i64 (IE.lit 0) (AL.int .i64 (IE.lit 0) AL.nil))) (LE.cat (LE.one (AL.int .i64 (IE.lit 0) (AL.int .i64 (IE.lit 0) AL.nil))) (LE.one (AL.int .i64 (IE.lit 0) (AL.int .i64 (IE.lit 0) AL.nil))))) AL.nil)), (BE.not (BE.eq (IE.cel .i64 (LE.cat (LE.one (AL.int .i64 (IE.lit 0) AL.nil)) (LE.cat (LE.one (AL.int .i64 (IE.lit 0) AL.nil)) (LE.one (AL.int .i64 (IE.lit 0) AL.nil)))) (IE.lit 2) 0) (IE.lit 1099511627776))), (BE.le (IE.lit 0) (IE.var .i64 1000)), (BE.le (IE.lit 0) (IE.var .i64 1003)), (BE.le (IE.var .i64 1003) (IE.len (LE.rom 0))), (BE.le (IE.lit 0) (IE.var .i64 1004))]) }
def tholds2 : Cfg := { top := ⟨14, over (opqS 10000 129) [(1, (SV.rom 1 (IE.lit 0) (IE.len (LE.rom 1)) none)), (7, (SV.ptr 7 0)), (9, (SV.const (Go.Value.slice none 0 0))), (14, (SV.int .i64 (IE.lit (-1)))), (15, (SV.int .i64 (IE.var .i64 1000)))], ogt (loopTodo (bodyOf (T lnk.Φ [] []) 14) 1), [], false, none⟩, rest := [], heap := [(7, .cells [(SV.int .i64 (IE.lit 1)), (SV.slice 5 0 3 3), (SV.slice 6 0 3 3)] 68), (5, .cells [(SV.int .i64 (IE.lit 0)), (SV.int .i64 (IE.lit 0)), (SV.int .i64 (IE.lit 0))] 2), (6, .cells [(SV.int .i64 (IE.lit 0)), (SV.int .i64 (IE.lit 0)), (SV.int .i64 (IE.lit 0)), (SV.int .i64 (IE.lit 0)), (SV.int .i64 (IE.lit 0)), (SV.int .i64 (IE.lit 0))] 70)], next := 8, pc := .lit true :: ([] ++ [(BE.le (IE.len (LE.rom 0)) (IE.lit 40)), (BE.le (IE.len (LE.rom 1)) (IE.lit 80)), (BE.le (IE.len (LE.rom 0)) (IE.lit 0)), (BE.le (IE.lit 0) (IE.var .i64 1000)), (BE.le (IE.var .i64 1000) (IE.len (LE.rom 1)))]) }
def tholds3 : Cfg := { top := ⟨14, over (opqS 10000 129) [(1, (SV.rom 1 (IE.lit 0) (IE.len (LE.rom 1)) none)), (7, (SV.ptr 7 0)), (9, (SV.sll 15 16 2 (IE.lit 0) (IE.var .i64 1003) none)), (14, (SV.int .i64 (IE.lit (-1)))), (15, (SV.int .i64 (IE.var .i64 1007)))], ogt (loopTodo (bodyOf (T lnk.Φ [] []) 14) 1), [], false, none⟩, rest := [], heap := [(7, .cells [(SV.int .i64 (IE.lit 1)), (SV.slice 5 0 3 3), (SV.slice 6 0 3 3)] 68), (15, .rowl (LE.var 1006) (IE.var .i64 1003) [(CK.int .i64), (CK.int .i64)] 70 16 2), (5, .cells [(SV.int .i64 (IE.lit 0)), (SV.int .i64 (IE.lit 0)), (SV.int .i64 (IE.lit 0))] 2), (6, .cells [(SV.int .i64 (IE.lit 0)), (SV.int .i64 (IE.lit 0)), (SV.int .i64 (IE.lit 0)), (SV.int .i64 (IE.lit 0)), (SV.int .i64 (IE.lit 0)), (SV.int .i64 (IE.lit 0))] 70)], next := 17, pc := .lit true :: ([] ++ [(BE.not (BE.eq (IE.cel .i64 (LE.cat (LE.one (AL.int .i64 (IE.lit 0) AL.nil)) (LE.cat (LE.one (AL.int .i64 (IE.lit 0) AL.nil)) (LE.one (AL.int .i64 (IE.lit 0) AL.nil)))) (IE.lit 2) 0) (IE.lit 1099511627776))), (BE.fn 2 (AL.lst (LE.cat (LE.one (AL.int .i64 (IE.lit 0) (AL.int .i64 (IE.lit 0) AL.nil))) (LE.cat (LE.one (AL.int .i64 (IE.lit 0) (AL.int .i64 (IE.lit 0) AL.nil))) (LE.one (AL.int .i64 (IE.lit 0) (AL.int .i64 (IE.lit 0) AL.nil))))) AL.nil)), (BE.fn 1 (AL.lst (LE.cat (LE.one (AL.int .i64 (IE.lit 0) AL.nil)) (LE.cat (LE.one (AL.int .i64 (IE.lit 0) AL.nil)) (LE.one (AL.int .i64 (IE.lit 0) AL.nil)))) AL.nil)), (BE.not (BE.le (IE.len (LE.rom 0)) (IE.lit 0))), (BE.le (IE.len (LE.rom 1)) (IE.lit 80)), (BE.le (IE.len (LE.rom 0)) (IE.lit 40)), (BE.le (IE.len (LE.rom 0)) (IE.var .i64 1003)), (BE.le (IE.lit 0) (IE.var .i64 1003)), (BE.le (IE.var .i64 1003) (IE.len (LE.rom 0))), (BE.le (IE.lit 0) (IE.var .i64 1007)), (BE.le (IE.var .i64 1007) (IE.len (LE.rom 1)))]) }
def tholds4 : Cfg := { top := ⟨14, over (opqS 10000 129) [(1, (SV.rom 1 (IE.lit 0) (IE.len (LE.rom 1)) none)), (7, (SV.ptr 7 0)), (9, (SV.sll 15 16 2 (IE.lit 0) (IE.var .i64 1003) none)), (14, (SV.int .i64 (IE.var .i64 1008))), (15, (SV.int .i64 (IE.var .i64 1009)))], ogt (loopTodo (bodyOf (T lnk.Φ [] []) 14) 1), [], false, none⟩, rest := [], heap := [(7, .cells [(SV.int .i64 (IE.lit 1)), (SV.sll 17 18 1 (IE.lit 0) (IE.lit 3) none), (SV.sll 19 20 2 (IE.lit 0) (IE.var .i64 1011) none)] 68), (15, .rowl (LE.var 1006) (IE.var .i64 1003) [(CK.int .i64), (CK.int .i64)] 70 16 2), (17, .rowl (LE.cat (LE.one (AL.int .i64 (IE.lit 0) AL.nil)) (LE.cat (LE.one (AL.int .i64 (IE.lit 0) AL.nil)) (LE.one (AL.int .i64 (IE.lit 0) AL.nil)))) (IE.lit 3) [(CK.int .i64)] 2 18 1), (19, .rowl (LE.var 1010) (IE.var .i64 1011) [(CK.int .i64), (CK.int .i64)] 70 20 2)], next := 21, pc := .lit true :: ([] ++ [(BE.le (IE.len (LE.rom 0)) (IE.lit 40)), (BE.le (IE.len (LE.rom 1)) (IE.lit 80)), (BE.not (BE.le (IE.len (LE.rom 0)) (IE.lit 0))), (BE.fn 1 (AL.lst (LE.cat (LE.one (AL.int .i64 (IE.lit 0) AL.nil)) (LE.cat (LE.one (AL.int .i64 (IE.lit 0) AL.nil)) (LE.one (AL.int .i64 (IE.lit 0) AL.nil)))) AL.nil)), (BE.fn 2 (AL.lst (LE.cat (LE.one (AL.int .i64 (IE.lit 0) (AL.int .i64 (IE.lit 0) AL.nil))) (LE.cat (LE.one (AL.int .i64 (IE.lit 0) (AL.int .i64 (IE.lit 0) AL.nil))) (LE.one (AL.int .i64 (IE.lit 0) (AL.int .i64 (IE.lit 0) AL.nil))))) AL.nil)), (BE.not (BE.eq (IE.cel .i64 (LE.cat (LE.one (AL.int .i64 (IE.lit 0) AL.nil)) (LE.cat (LE.one (AL.int .i64 (IE.lit 0) AL.nil)) (LE.one (AL.int .i64 (IE.lit 0) AL.nil)))) (IE.lit 2) 0) (IE.lit 1099511627776))), (BE.le (IE.len (LE.rom 0)) (IE.var .i64 1003)), (BE.le (IE.lit 0) (IE.var .i64 1003)), (BE.le (IE.var .i64 1003) (IE.len (LE.rom 0))), (BE.le (IE.lit 0) (IE.var .i64 1008)), (BE.not (BE.le (IE.len (LE.rom 0)) (IE.var .i64 1008))), (BE.le (IE.lit 0) (IE.var .i64 1009)), (BE.le (IE.var .i64 1009) (IE.len (LE.rom 1))), (BE.le (IE.lit 0) (IE.var .i64 1011))]) }
def tmholds : List (Nat × Cfg) := [(0, startF 14 cHolds.pat (.lit true :: cHolds.pre)), (1, tholds1), (2, tholds2), (3, tholds3), (4, tholds4)]
def selholds : Sel := [(14, 10000001, 1154000, 1), (14, 23000001, 993000, 4), (14, 23000001, 1153000, 2), (14, 23000001, 0, 3)]
def pcholds0_0 : List BE := [(BE.lit true)]
def pcholds0_1 : List BE := ((BE.le (IE.len (LE.rom 0)) (IE.lit 40)) :: pcholds0_0)
def pcholds0_2 : List BE := ((BE.le (IE.len (LE.rom 1)) (IE.lit 80)) :: pcholds0_1)
def pcholds0_3 : List BE := ((BE.not (BE.le (IE.len (LE.rom 0)) (IE.lit 0))) :: pcholds0_2)
def pcholds0_4 : List BE := ((BE.fn 1 (AL.lst (LE.cat (LE.one (AL.int .i64 (IE.lit 0) AL.nil)) (LE.cat (LE.one (AL.int .i64 (IE.lit 0) AL.nil)) (LE.one (AL.int .i64 (IE.lit 0) AL.nil)))) AL.nil)) :: pcholds0_3)
def pcholds0_5 : List BE := ((BE.fn 2 (AL.lst (LE.cat (LE.one (AL.int .i64 (IE.lit 0) (AL.int .i64 (IE.lit 0) AL.nil))) (LE.cat (LE.one (AL.int .i64 (IE.lit 0) (AL.int .i64 (IE.lit 0) AL.nil))) (LE.one (AL.int .i64 (IE.lit 0) (AL.int .i64 (IE.lit 0) AL.nil))))) AL.nil)) :: pcholds0_4)
def pcholds0_6 : List BE := ((BE.not (BE.eq (IE.cel .i64 (LE.cat (LE.one (AL.int .i64 (IE.lit 0) AL.nil)) (LE.cat (LE.one (AL.int .i64 (IE.lit 0) AL.nil)) (LE.one (AL.int .i64 (IE.lit 0) AL.nil)))) (IE.lit 2) 0) (IE.lit 1099511627776))) :: pcholds0_5)
def pcholds0_7 : List BE := ((BE.cel (LE.rom 0) (IE.lit 0) 0) :: pcholds0_6)
def wholds0_0 : VW := (VW.cut 2 ((BE.le (IE.len (LE.rom 0)) (IE.lit 0)) :: pcholds0_2) (Sx.Sub.mk [(.i64, (1000, (IE.lit 0)))] [] [] [] [] []))
def wholds0_1 : VW := (VW.done ((BE.eq (IE.cel .i64 (LE.cat (LE.one (AL.int .i64 (IE.lit 0) AL.nil)) (LE.cat (LE.one (AL.int .i64 (IE.lit 0) AL.nil)) (LE.one (AL.int .i64 (IE.lit 0) AL.nil)))) (IE.lit 2) 0) (IE.lit 1099511627776)) :: pcholds0_5) (some [(G.b (BE.lit true) (BE.lit false))]))
def wholds0_2 : VW := (VW.cut 1 ((BE.fn 1 (AL.lst (LE.set (LE.cat (LE.one (AL.int .i64 (IE.lit 0) AL.nil)) (LE.cat (LE.one (AL.int .i64 (IE.lit 0) AL.nil)) (LE.one (AL.int .i64 (IE.lit 0) AL.nil)))) (IE.lit 2) (AL.int .i64 (IE.wrap .i64 (IE.add (IE.cel .i64 (LE.cat (LE.one (AL.int .i64 (IE.lit 0) AL.nil)) (LE.cat (LE.one (AL.int .i64 (IE.lit 0) AL.nil)) (LE.one (AL.int .i64 (IE.lit 0) AL.nil)))) (IE.lit 2) 0) (IE.lit 1))) AL.nil)) AL.nil)) :: pcholds0_7) (Sx.Sub.mk [(.i64, (1004, (IE.lit 3))), (.i64, (1000, (IE.add (IE.lit 1) (IE.lit 1)))), (.i64, (1003, (IE.lit 1)))] [] [(1002, (LE.rep (AL.int .i64 (IE.lit 0) AL.nil) (IE.lit 3))), (1006, (LE.one (AL.int .i64 (IE.lit 1) (AL.int .i64 (IE.wrap .i64 (IE.add (IE.cel .i64 (LE.cat (LE.one (AL.int .i64 (IE.lit 0) AL.nil)) (LE.cat (LE.one (AL.int .i64 (IE.lit 0) AL.nil)) (LE.one (AL.int .i64 (IE.lit 0) AL.nil)))) (IE.lit 2) 0) (IE.lit 1))) AL.nil))))] [] [] []))
def wholds0_3 : VW := (VW.done ((BE.not (BE.fn 1 (AL.lst (LE.set (LE.cat (LE.one (AL.int .i64 (IE.lit 0) AL.nil)) (LE.cat (LE.one (AL.int .i64 (IE.lit 0) AL.nil)) (LE.one (AL.int .i64 (IE.lit 0) AL.nil)))) (IE.lit 2) (AL.int .i64 (IE.wrap .i64 (IE.add (IE.cel .i64 (LE.cat (LE.one (AL.int .i64 (IE.lit 0) AL.nil)) (LE.cat (LE.one (AL.int .i64 (IE.lit 0) AL.nil)) (LE.one (AL.int .i64 (IE.lit 0) AL.nil)))) (IE.lit 2) 0) (IE.lit 1))) AL.nil)) AL.nil))) :: pcholds0_7) (some [(G.b (BE.lit true) (BE.lit false))]))
def wholds0_4 : VW := (VW.cut 1 ((BE.not (BE.cel (LE.rom 0) (IE.lit 0) 0)) :: pcholds0_6) (Sx.Sub.mk [(.i64, (1004, (IE.lit 3))), (.i64, (1000, (IE.lit 1))), (.i64, (1003, (IE.lit 1)))] [] [(1002, (LE.set (LE.cat (LE.one (AL.int .i64 (IE.lit 0) AL.nil)) (LE.cat (LE.one (AL.int .i64 (IE.lit 0) AL.nil)) (LE.one (AL.int .i64 (IE.lit 0) AL.nil)))) (IE.lit 2) (AL.int .i64 (IE.wrap .i64 (IE.add (IE.cel .i64 (LE.cat (LE.one (AL.int .i64 (IE.lit 0) AL.nil)) (LE.cat (LE.one (AL.int .i64 (IE.lit 0) AL.nil)) (LE.one (AL.int .i64 (IE.lit 0) AL.nil)))) (IE.lit 2) 0) (IE.lit 1))) AL.nil))), (1006, (LE.one (AL.int .i64 (IE.lit 1) (AL.int .i64 (IE.wrap .i64 (IE.add (IE.cel .i64 (LE.cat (LE.one (AL.int .i64 (IE.lit 0) AL.nil)) (LE.cat (LE.one (AL.int .i64 (IE.lit 0) AL.nil)) (LE.one (AL.int .i64 (IE.lit 0) AL.nil)))) (IE.lit 2) 0) (IE.lit 1))) AL.nil))))] [] [] []))
def wholds0_5 : VW := (VW.done ((BE.not (BE.fn 2 (AL.lst (LE.cat (LE.one (AL.int .i64 (IE.lit 0) (AL.int .i64 (IE.lit 0) AL.nil))) (LE.cat (LE.one (AL.int .i64 (IE.lit 0) (AL.int .i64 (IE.lit 0) AL.nil))) (LE.one (AL.int .i64 (IE.lit 0) (AL.int .i64 (IE.lit 0) AL.nil))))) AL.nil))) :: pcholds0_4) (some [(G.b (BE.lit true) (BE.lit false))]))
def wholds0_6 : VW := (VW.done ((BE.not (BE.fn 1 (AL.lst (LE.cat (LE.one (AL.int .i64 (IE.lit 0) AL.nil)) (LE.cat (LE.one (AL.int .i64 (IE.lit 0) AL.nil)) (LE.one (AL.int .i64 (IE.lit 0) AL.nil)))) AL.nil))) :: pcholds0_3) (some [(G.b (BE.lit true) (BE.lit false))]))
def wholds0_7 : VW := (VW.done ((BE.not (BE.le (IE.len (LE.rom 1)) (IE.lit 80))) :: pcholds0_1) (some []))
def wholds0_8 : VW := (VW.done ((BE.not (BE.le (IE.len (LE.rom 0)) (IE.lit 40))) :: pcholds0_0) (some []))
def vwholds0 : List VW := [wholds0_0, wholds0_1, wholds0_2, wholds0_3, wholds0_4, wholds0_5, wholds0_6, wholds0_7, wholds0_8]
def pcholds1_0 : List BE := [(BE.lit true), (BE.le (IE.len (LE.rom 0)) (IE.lit 40)), (BE.le (IE.len (LE.rom 1)) (IE.lit 80)), (BE.not (BE.le (IE.len (LE.rom 0)) (IE.lit 0))), (BE.fn 1 (AL.lst (LE.cat (LE.one (AL.int .i64 (IE.lit 0) AL.nil)) (LE.cat (LE.one (AL.int .i64 (IE.lit 0) AL.nil)) (LE.one (AL.int .i64 (IE.lit 0) AL.nil)))) AL.nil)), (BE.fn 2 (AL.lst (LE.cat (LE.one (AL.int .i64 (IE.lit 0) (AL.int .i64 (IE.lit 0) AL.nil))) (LE.cat (LE.one (AL.int .i64 (IE.lit 0) (AL.int .i64 (IE.lit 0) AL.nil))) (LE.one (AL.int .i64 (IE.lit 0) (AL.int .i64 (IE.lit 0) AL.nil))))) AL.nil)), (BE.not (BE.eq (IE.cel .i64 (LE.cat (LE.one (AL.int .i64 (IE.lit 0) AL.nil)) (LE.cat (LE.one (AL.int .i64 (IE.lit 0) AL.nil)) (LE.one (AL.int .i64 (IE.lit 0) AL.nil)))) (IE.lit 2) 0) (IE.lit 1099511627776))), (BE.le (IE.lit 0) (IE.var .i64 1000)), (BE.le (IE.lit 0) (IE.var .i64 1003)), (BE.le (IE.var .i64 1003) (IE.len (LE.rom 0))), (BE.le (IE.lit 0) (IE.var .i64 1004))]
def pcholds1_1 : List BE := ((BE.not (BE.le (IE.len (LE.rom 0)) (IE.var .i64 1003))) :: pcholds1_0)
def pcholds1_2 : List BE := ((BE.le (IE.lit 1) (IE.var .i64 1000)) :: pcholds1_1)
def pcholds1_3 : List BE := ((BE.le (IE.var .i64 1000) (IE.lit 1099511627776)) :: pcholds1_2)
def pcholds1_4 : List BE := ((BE.le (IE.lit 1) (IE.len (LE.var 1002))) :: pcholds1_3)
def pcholds1_5 : List BE := ((BE.le (IE.len (LE.var 1002)) (IE.lit 64)) :: pcholds1_4)
def pcholds1_6 : List BE := ((BE.eq (IE.lit 3) (IE.len (LE.var 1002))) :: pcholds1_5)
def pcholds1_7 : List BE := ((BE.fn 1 (AL.lst (LE.var 1002) AL.nil)) :: pcholds1_6)
def pcholds1_8 : List BE := ((BE.not (BE.eq (IE.cel .i64 (LE.var 1002) (IE.lit 2) 0) (IE.lit 1099511627776))) :: pcholds1_7)
def pcholds1_9 : List BE := ((BE.cel (LE.rom 0) (IE.var .i64 1003) 0) :: pcholds1_8)
def pcholds1_10 : List BE := ((BE.fn 1 (AL.lst (LE.set (LE.var 1002) (IE.lit 2) (AL.int .i64 (IE.wrap .i64 (IE.add (IE.cel .i64 (LE.var 1002) (IE.lit 2) 0) (IE.lit 1))) AL.nil)) AL.nil)) :: pcholds1_9)
def wholds1_0 : VW := (VW.cut 3 ((BE.le (IE.len (LE.rom 0)) (IE.var .i64 1003)) :: pcholds1_0) (Sx.Sub.mk [(.i64, (1007, (IE.lit 0))), (.i64, (1003, (IE.var .i64 1003)))] [] [(1006, (LE.var 1006))] [] [] []))
def wholds1_1 : VW := (VW.done ((BE.eq (IE.cel .i64 (LE.var 1002) (IE.lit 2) 0) (IE.lit 1099511627776)) :: pcholds1_7) (some [(G.b (BE.lit true) (BE.lit false))]))
def wholds1_2 : VW := (VW.done ((BE.eq (IE.var .i64 1000) (IE.lit 1099511627776)) :: pcholds1_10) (some [(G.b (BE.lit true) (BE.lit false))]))
def wholds1_3 : VW := (VW.cut 1 ((BE.not (BE.eq (IE.var .i64 1000) (IE.lit 1099511627776))) :: pcholds1_10) (Sx.Sub.mk [(.i64, (1004, (IE.len (LE.var 1002)))), (.i64, (1000, (IE.add (IE.var .i64 1000) (IE.lit 1)))), (.i64, (1003, (IE.add (IE.var .i64 1003) (IE.lit 1))))] [] [(1002, (LE.rep (AL.int .i64 (IE.lit 0) AL.nil) (IE.len (LE.var 1002)))), (1006, (LE.cat (LE.var 1006) (LE.one (AL.int .i64 (IE.var .i64 1000) (AL.int .i64 (IE.wrap .i64 (IE.add (IE.cel .i64 (LE.var 1002) (IE.lit 2) 0) (IE.lit 1))) AL.nil)))))] [] [] []))
def wholds1_4 : VW := (VW.done ((BE.not (BE.fn 1 (AL.lst (LE.set (LE.var 1002) (IE.lit 2) (AL.int .i64 (IE.wrap .i64 (IE.add (IE.cel .i64 (LE.var 1002) (IE.lit 2) 0) (IE.lit 1))) AL.nil)) AL.nil))) :: pcholds1_9) (some [(G.b (BE.lit true) (BE.lit false))]))
def wholds1_5 : VW := (VW.cut 1 ((BE.not (BE.cel (LE.rom 0) (IE.var .i64 1003) 0)) :: pcholds1_8) (Sx.Sub.mk [(.i64, (1004, (IE.len (LE.var 1002)))), (.i64, (1000, (IE.var .i64 1000))), (.i64, (1003, (IE.add (IE.var .i64 1003) (IE.lit 1))))] [] [(1002, (LE.set (LE.var 1002) (IE.lit 2) (AL.int .i64 (IE.wrap .i64 (IE.add (IE.cel .i64 (LE.var 1002) (IE.lit 2) 0) (IE.lit 1))) AL.nil))), (1006, (LE.cat (LE.var 1006) (LE.one (AL.int .i64 (IE.var .i64 1000) (AL.int .i64 (IE.wrap .i64 (IE.add (IE.cel .i64 (LE.var 1002) (IE.lit 2) 0) (IE.lit 1))) AL.nil)))))] [] [] []))
def wholds1_6 : VW := (VW.done ((BE.not (BE.fn 1 (AL.lst (LE.var 1002) AL.nil))) :: pcholds1_6) (some [(G.b (BE.lit true) (BE.lit false))]))
def wholds1_7 : VW := (VW.done ((BE.not (BE.eq (IE.lit 3) (IE.len (LE.var 1002)))) :: pcholds1_5) (some [(G.b (BE.lit true) (BE.lit false))]))
def wholds1_8 : VW := (VW.done ((BE.not (BE.le (IE.len (LE.var 1002)) (IE.lit 64))) :: pcholds1_4) (some [(G.b (BE.lit true) (BE.lit false))]))
def wholds1_9 : VW := (VW.done ((BE.not (BE.le (IE.lit 1) (IE.len (LE.var 1002)))) :: pcholds1_3) (some [(G.b (BE.lit true) (BE.lit false))]))
def wholds1_10 : VW := (VW.done ((BE.not (BE.le (IE.var .i64 1000) (IE.lit 1099511627776))) :: pcholds1_2) (some [(G.b (BE.lit true) (BE.lit false))]))
def wholds1_11 : VW := (VW.done ((BE.not (BE.le (IE.lit 1) (IE.var .i64 1000))) :: pcholds1_1) (some [(G.b (BE.lit true) (BE.lit false))]))
def vwholds1 : List VW := [wholds1_0, wholds1_1, wholds1_2, wholds1_3, wholds1_4, wholds1_5, wholds1_6, wholds1_7, wholds1_8, wholds1_9, wholds1_10, wholds1_11]
def pcholds2_0 : List BE := [(BE.lit true), (BE.le (IE.len (LE.rom 0)) (IE.lit 40)), (BE.le (IE.len (LE.rom 1)) (IE.lit 80)), (BE.le (IE.len (LE.rom 0)) (IE.lit 0)), (BE.le (IE.lit 0) (IE.var .i64 1000)), (BE.le (IE.var .i64 1000) (IE.len (LE.rom 1)))]
def pcholds2_1 : List BE := ((BE.not (BE.le (IE.len (LE.rom 1)) (IE.var .i64 1000))) :: pcholds2_0)
def wholds2_0 : VW := (VW.done ((BE.le (IE.len (LE.rom 1)) (IE.var .i64 1000)) :: pcholds2_0) (some []))
def wholds2_1 : VW := (VW.cut 2 ((BE.le (IE.lit 0) (IE.cel .i64 (LE.rom 1) (IE.var .i64 1000) 0)) :: pcholds2_1) (Sx.Sub.mk [(.i64, (1000, (IE.add (IE.var .i64 1000) (IE.lit 1))))] [] [] [] [] []))
def wholds2_2 : VW := (VW.cut 2 ((BE.not (BE.le (IE.lit 0) (IE.cel .i64 (LE.rom 1) (IE.var .i64 1000) 0))) :: pcholds2_1) (Sx.Sub.mk [(.i64, (1000, (IE.add (IE.var .i64 1000) (IE.lit 1))))] [] [] [] [] []))
def vwholds2 : List VW := [wholds2_0, wholds2_1, wholds2_2]
def pcholds3_0 : List BE := [(BE.lit true), (BE.not (BE.eq (IE.cel .i64 (LE.cat (LE.one (AL.int .i64 (IE.lit 0) AL.nil)) (LE.cat (LE.one (AL.int .i64 (IE.lit 0) AL.nil)) (LE.one (AL.int .i64 (IE.lit 0) AL.nil)))) (IE.lit 2) 0) (IE.lit 1099511627776))), (BE.fn 2 (AL.lst (LE.cat (LE.one (AL.int .i64 (IE.lit 0) (AL.int .i64 (IE.lit 0) AL.nil))) (LE.cat (LE.one (AL.int .i64 (IE.lit 0) (AL.int .i64 (IE.lit 0) AL.nil))) (LE.one (AL.int .i64 (IE.lit 0) (AL.int .i64 (IE.lit 0) AL.nil))))) AL.nil)), (BE.fn 1 (AL.lst (LE.cat (LE.one (AL.int .i64 (IE.lit 0) AL.nil)) (LE.cat (LE.one (AL.int .i64 (IE.lit 0) AL.nil)) (LE.one (AL.int .i64 (IE.lit 0) AL.nil)))) AL.nil)), (BE.not (BE.le (IE.len (LE.rom 0)) (IE.lit 0))), (BE.le (IE.len (LE.rom 1)) (IE.lit 80)), (BE.le (IE.len (LE.rom 0)) (IE.lit 40)), (BE.le (IE.len (LE.rom 0)) (IE.var .i64 1003)), (BE.le (IE.lit 0) (IE.var .i64 1003)), (BE.le (IE.var .i64 1003) (IE.len (LE.rom 0))), (BE.le (IE.lit 0) (IE.var .i64 1007)), (BE.le (IE.var .i64 1007) (IE.len (LE.rom 1)))]
def pcholds3_1 : List BE := ((BE.not (BE.le (IE.len (LE.rom 1)) (IE.var .i64 1007))) :: pcholds3_0)
def pcholds3_2 : List BE := ((BE.le (IE.lit 0) (IE.cel .i64 (LE.rom 1) (IE.var .i64 1007) 0)) :: pcholds3_1)
def pcholds3_3 : List BE := ((BE.not (BE.le (IE.var .i64 1003) (IE.cel .i64 (LE.rom 1) (IE.var .i64 1007) 0))) :: pcholds3_2)
def pcholds3_4 : List BE := ((BE.fn 4 (AL.int .i64 (IE.cel .i64 (LE.var 1006) (IE.cel .i64 (LE.rom 1) (IE.var .i64 1007) 0) 0) (AL.int .i64 (IE.cel .i64 (LE.var 1006) (IE.cel .i64 (LE.rom 1) (IE.var .i64 1007) 0) 1) AL.nil))) :: pcholds3_3)
def pcholds3_5 : List BE := ((BE.le (IE.cel .i64 (LE.var 1006) (IE.cel .i64 (LE.rom 1) (IE.var .i64 1007) 0) 0) (IE.cel .i64 (LE.cat (LE.one (AL.int .i64 (IE.lit 0) (AL.int .i64 (IE.lit 0) AL.nil))) (LE.cat (LE.one (AL.int .i64 (IE.lit 0) (AL.int .i64 (IE.lit 0) AL.nil))) (LE.one (AL.int .i64 (IE.lit 0) (AL.int .i64 (IE.lit 0) AL.nil))))) (IE.lit 1) 0)) :: pcholds3_4)
def pcholds3_6 : List BE := ((BE.eq (IE.cel .i64 (LE.var 1006) (IE.cel .i64 (LE.rom 1) (IE.var .i64 1007) 0) 0) (IE.cel .i64 (LE.cat (LE.one (AL.int .i64 (IE.lit 0) (AL.int .i64 (IE.lit 0) AL.nil))) (LE.cat (LE.one (AL.int .i64 (IE.lit 0) (AL.int .i64 (IE.lit 0) AL.nil))) (LE.one (AL.int .i64 (IE.lit 0) (AL.int .i64 (IE.lit 0) AL.nil))))) (IE.lit 1) 0)) :: pcholds3_5)
def wholds3_0 : VW := (VW.done ((BE.le (IE.len (LE.rom 1)) (IE.var .i64 1007)) :: pcholds3_0) (some []))
def wholds3_1 : VW := (VW.cut 3 ((BE.le (IE.var .i64 1003) (IE.cel .i64 (LE.rom 1) (IE.var .i64 1007) 0)) :: pcholds3_2) (Sx.Sub.mk [(.i64, (1007, (IE.add (IE.var .i64 1007) (IE.lit 1)))), (.i64, (1003, (IE.var .i64 1003)))] [] [(1006, (LE.var 1006))] [] [] []))
def wholds3_2 : VW := (VW.done ((BE.le (IE.cel .i64 (LE.var 1006) (IE.cel .i64 (LE.rom 1) (IE.var .i64 1007) 0) 1) (IE.cel .i64 (LE.cat (LE.one (AL.int .i64 (IE.lit 0) (AL.int .i64 (IE.lit 0) AL.nil))) (LE.cat (LE.one (AL.int .i64 (IE.lit 0) (AL.int .i64 (IE.lit 0) AL.nil))) (LE.one (AL.int .i64 (IE.lit 0) (AL.int .i64 (IE.lit 0) AL.nil))))) (IE.lit 1) 1)) :: pcholds3_6) (some [(G.b (BE.lit true) (BE.lit false))]))
def wholds3_3 : VW := (VW.cut 4 ((BE.not (BE.le (IE.cel .i64 (LE.var 1006) (IE.cel .i64 (LE.rom 1) (IE.var .i64 1007) 0) 1) (IE.cel .i64 (LE.cat (LE.one (AL.int .i64 (IE.lit 0) (AL.int .i64 (IE.lit 0) AL.nil))) (LE.cat (LE.one (AL.int .i64 (IE.lit 0) (AL.int .i64 (IE.lit 0) AL.nil))) (LE.one (AL.int .i64 (IE.lit 0) (AL.int .i64 (IE.lit 0) AL.nil))))) (IE.lit 1) 1))) :: pcholds3_6) (Sx.Sub.mk [(.i64, (1011, (IE.lit 3))), (.i64, (1009, (IE.add (IE.var .i64 1007) (IE.lit 1)))), (.i64, (1008, (IE.cel .i64 (LE.rom 1) (IE.var .i64 1007) 0))), (.i64, (1003, (IE.var .i64 1003)))] [] [(1010, (LE.set (LE.cat (LE.one (AL.int .i64 (IE.lit 0) (AL.int .i64 (IE.lit 0) AL.nil))) (LE.cat (LE.one (AL.int .i64 (IE.lit 0) (AL.int .i64 (IE.lit 0) AL.nil))) (LE.one (AL.int .i64 (IE.lit 0) (AL.int .i64 (IE.lit 0) AL.nil))))) (IE.lit 1) (AL.int .i64 (IE.cel .i64 (LE.var 1006) (IE.cel .i64 (LE.rom 1) (IE.var .i64 1007) 0) 0) (AL.int .i64 (IE.cel .i64 (LE.var 1006) (IE.cel .i64 (LE.rom 1) (IE.var .i64 1007) 0) 1) AL.nil)))), (1006, (LE.var 1006))] [] [] []))
def wholds3_4 : VW := (VW.done ((BE.not (BE.eq (IE.cel .i64 (LE.var 1006) (IE.cel .i64 (LE.rom 1) (IE.var .i64 1007) 0) 0) (IE.cel .i64 (LE.cat (LE.one (AL.int .i64 (IE.lit 0) (AL.int .i64 (IE.lit 0) AL.nil))) (LE.cat (LE.one (AL.int .i64 (IE.lit 0) (AL.int .i64 (IE.lit 0) AL.nil))) (LE.one (AL.int .i64 (IE.lit 0) (AL.int .i64 (IE.lit 0) AL.nil))))) (IE.lit 1) 0))) :: pcholds3_5) (some [(G.b (BE.lit true) (BE.lit false))]))
def wholds3_5 : VW := (VW.cut 4 ((BE.not (BE.le (IE.cel .i64 (LE.var 1006) (IE.cel .i64 (LE.rom 1) (IE.var .i64 1007) 0) 0) (IE.cel .i64 (LE.cat (LE.one (AL.int .i64 (IE.lit 0) (AL.int .i64 (IE.lit 0) AL.nil))) (LE.cat (LE.one (AL.int .i64 (IE.lit 0) (AL.int .i64 (IE.lit 0) AL.nil))) (LE.one (AL.int .i64 (IE.lit 0) (AL.int .i64 (IE.lit 0) AL.nil))))) (IE.lit 1) 0))) :: pcholds3_4) (Sx.Sub.mk [(.i64, (1011, (IE.lit 3))), (.i64, (1009, (IE.add (IE.var .i64 1007) (IE.lit 1)))), (.i64, (1008, (IE.cel .i64 (LE.rom 1) (IE.var .i64 1007) 0))), (.i64, (1003, (IE.var .i64 1003)))] [] [(1010, (LE.set (LE.cat (LE.one (AL.int .i64 (IE.lit 0) (AL.int .i64 (IE.lit 0) AL.nil))) (LE.cat (LE.one (AL.int .i64 (IE.lit 0) (AL.int .i64 (IE.lit 0) AL.nil))) (LE.one (AL.int .i64 (IE.lit 0) (AL.int .i64 (IE.lit 0) AL.nil))))) (IE.lit 1) (AL.int .i64 (IE.cel .i64 (LE.var 1006) (IE.cel .i64 (LE.rom 1) (IE.var .i64 1007) 0) 0) (AL.int .i64 (IE.cel .i64 (LE.var 1006) (IE.cel .i64 (LE.rom 1) (IE.var .i64 1007) 0) 1) AL.nil)))), (1006, (LE.var 1006))] [] [] []))
def wholds3_6 : VW := (VW.done ((BE.not (BE.fn 4 (AL.int .i64 (IE.cel .i64 (LE.var 1006) (IE.cel .i64 (LE.rom 1) (IE.var .i64 1007) 0) 0) (AL.int .i64 (IE.cel .i64 (LE.var 1006) (IE.cel .i64 (LE.rom 1) (IE.var .i64 1007) 0) 1) AL.nil)))) :: pcholds3_3) (some [(G.b (BE.lit true) (BE.lit false))]))
def wholds3_7 : VW := (VW.cut 3 ((BE.not (BE.le (IE.lit 0) (IE.cel .i64 (LE.rom 1) (IE.var .i64 1007) 0))) :: pcholds3_1) (Sx.Sub.mk [(.i64, (1007, (IE.add (IE.var .i64 1007) (IE.lit 1)))), (.i64, (1003, (IE.var .i64 1003)))] [] [(1006, (LE.var 1006))] [] [] []))
def vwholds3 : List VW := [wholds3_0, wholds3_1, wholds3_2, wholds3_3, wholds3_4, wholds3_5, wholds3_6, wholds3_7]
def pcholds4_0 : List BE := [(BE.lit true), (BE.le (IE.len (LE.rom 0)) (IE.lit 40)), (BE.le (IE.len (LE.rom 1)) (IE.lit 80)), (BE.not (BE.le (IE.len (LE.rom 0)) (IE.lit 0))), (BE.fn 1 (AL.lst (LE.cat (LE.one (AL.int .i64 (IE.lit 0) AL.nil)) (LE.cat (LE.one (AL.int .i64 (IE.lit 0) AL.nil)) (LE.one (AL.int .i64 (IE.lit 0) AL.nil)))) AL.nil)), (BE.fn 2 (AL.lst (LE.cat (LE.one (AL.int .i64 (IE.lit 0) (AL.int .i64 (IE.lit 0) AL.nil))) (LE.cat (LE.one (AL.int .i64 (IE.lit 0) (AL.int .i64 (IE.lit 0) AL.nil))) (LE.one (AL.int .i64 (IE.lit 0) (AL.int .i64 (IE.lit 0) AL.nil))))) AL.nil)), (BE.not (BE.eq (IE.cel .i64 (LE.cat (LE.one (AL.int .i64 (IE.lit 0) AL.nil)) (LE.cat (LE.one (AL.int .i64 (IE.lit 0) AL.nil)) (LE.one (AL.int .i64 (IE.lit 0) AL.nil)))) (IE.lit 2) 0) (IE.lit 1099511627776))), (BE.le (IE.len (LE.rom 0)) (IE.var .i64 1003)), (BE.le (IE.lit 0) (IE.var .i64 1003)), (BE.le (IE.var .i64 1003) (IE.len (LE.rom 0))), (BE.le (IE.lit 0) (IE.var .i64 1008)), (BE.not (BE.le (IE.len (LE.rom 0)) (IE.var .i64 1008))), (BE.le (IE.lit 0) (IE.var .i64 1009)), (BE.le (IE.var .i64 1009) (IE.len (LE.rom 1))), (BE.le (IE.lit 0) (IE.var .i64 1011))]
def pcholds4_1 : List BE := ((BE.not (BE.le (IE.len (LE.rom 1)) (IE.var .i64 1009))) :: pcholds4_0)
def pcholds4_2 : List BE := ((BE.le (IE.lit 0) (IE.cel .i64 (LE.rom 1) (IE.var .i64 1009) 0)) :: pcholds4_1)
def pcholds4_3 : List BE := ((BE.not (BE.le (IE.var .i64 1003) (IE.cel .i64 (LE.rom 1) (IE.var .i64 1009) 0))) :: pcholds4_2)
def pcholds4_4 : List BE := ((BE.eq (IE.len (LE.var 1010)) (IE.lit 3)) :: pcholds4_3)
def pcholds4_5 : List BE := ((BE.fn 2 (AL.lst (LE.var 1010) AL.nil)) :: pcholds4_4)
def pcholds4_6 : List BE := ((BE.fn 4 (AL.int .i64 (IE.cel .i64 (LE.var 1006) (IE.cel .i64 (LE.rom 1) (IE.var .i64 1009) 0) 0) (AL.int .i64 (IE.cel .i64 (LE.var 1006) (IE.cel .i64 (LE.rom 1) (IE.var .i64 1009) 0) 1) AL.nil))) :: pcholds4_5)
def pcholds4_7 : List BE := ((BE.le (IE.cel .i64 (LE.var 1006) (IE.cel .i64 (LE.rom 1) (IE.var .i64 1009) 0) 0) (IE.cel .i64 (LE.var 1010) (IE.lit 1) 0)) :: pcholds4_6)
def pcholds4_8 : List BE := ((BE.not (BE.le (IE.cel .i64 (LE.var 1006) (IE.cel .i64 (LE.rom 1) (IE.var .i64 1009) 0) 0) (IE.cel .i64 (LE.var 1010) (IE.lit 1) 0))) :: pcholds4_6)
def pcholds4_9 : List BE := ((BE.eq (IE.cel .i64 (LE.var 1006) (IE.cel .i64 (LE.rom 1) (IE.var .i64 1009) 0) 0) (IE.cel .i64 (LE.var 1010) (IE.lit 1) 0)) :: pcholds4_7)
def pcholds4_10 : List BE := ((BE.not (BE.eq (IE.cel .i64 (LE.var 1006) (IE.cel .i64 (LE.rom 1) (IE.var .i64 1009) 0) 0) (IE.cel .i64 (LE.var 1010) (IE.lit 1) 0))) :: pcholds4_7)
def pcholds4_11 : List BE := ((BE.le (IE.cel .i64 (LE.var 1006) (IE.cel .i64 (LE.rom 1) (IE.var .i64 1009) 0) 1) (IE.cel .i64 (LE.var 1010) (IE.lit 1) 1)) :: pcholds4_9)
def pcholds4_12 : List BE := ((BE.not (BE.le (IE.cel .i64 (LE.var 1006) (IE.cel .i64 (LE.rom 1) (IE.var .i64 1009) 0) 1) (IE.cel .i64 (LE.var 1010) (IE.lit 1) 1))) :: pcholds4_9)
def pcholds4_13 : List BE := ((BE.le (IE.cel .i64 (LE.rom 1) (IE.var .i64 1009) 0) (IE.var .i64 1008)) :: pcholds4_10)
def pcholds4_14 : List BE := ((BE.le (IE.cel .i64 (LE.rom 1) (IE.var .i64 1009) 0) (IE.var .i64 1008)) :: pcholds4_11)
def wholds4_0 : VW := (VW.done ((BE.le (IE.len (LE.rom 1)) (IE.var .i64 1009)) :: pcholds4_0) (some []))
def wholds4_1 : VW := (VW.cut 4 ((BE.le (IE.var .i64 1003) (IE.cel .i64 (LE.rom 1) (IE.var .i64 1009) 0)) :: pcholds4_2) (Sx.Sub.mk [(.i64, (1011, (IE.var .i64 1011))), (.i64, (1009, (IE.add (IE.var .i64 1009) (IE.lit 1)))), (.i64, (1008, (IE.var .i64 1008))), (.i64, (1003, (IE.var .i64 1003)))] [] [(1010, (LE.var 1010)), (1006, (LE.var 1006))] [] [] []))
def wholds4_2 : VW := (VW.cut 4 ((BE.le (IE.var .i64 1008) (IE.cel .i64 (LE.rom 1) (IE.var .i64 1009) 0)) :: pcholds4_14) (Sx.Sub.mk [(.i64, (1011, (IE.len (LE.var 1010)))), (.i64, (1009, (IE.add (IE.var .i64 1009) (IE.lit 1)))), (.i64, (1008, (IE.cel .i64 (LE.rom 1) (IE.var .i64 1009) 0))), (.i64, (1003, (IE.var .i64 1003)))] [] [(1010, (LE.var 1010)), (1006, (LE.var 1006))] [] [] []))
def wholds4_3 : VW := (VW.cut 4 ((BE.not (BE.le (IE.var .i64 1008) (IE.cel .i64 (LE.rom 1) (IE.var .i64 1009) 0))) :: pcholds4_14) (Sx.Sub.mk [(.i64, (1011, (IE.len (LE.var 1010)))), (.i64, (1009, (IE.add (IE.var .i64 1009) (IE.lit 1)))), (.i64, (1008, (IE.var .i64 1008))), (.i64, (1003, (IE.var .i64 1003)))] [] [(1010, (LE.var 1010)), (1006, (LE.var 1006))] [] [] []))
def wholds4_4 : VW := (VW.done ((BE.not (BE.le (IE.cel .i64 (LE.rom 1) (IE.var .i64 1009) 0) (IE.var .i64 1008))) :: pcholds4_11) (some [(G.b (BE.lit true) (BE.lit false))]))
def wholds4_5 : VW := (VW.done ((BE.le (IE.cel .i64 (LE.rom 1) (IE.var .i64 1009) 0) (IE.var .i64 1008)) :: pcholds4_12) (some [(G.b (BE.lit true) (BE.lit false))]))
def wholds4_6 : VW := (VW.cut 4 ((BE.not (BE.le (IE.cel .i64 (LE.rom 1) (IE.var .i64 1009) 0) (IE.var .i64 1008))) :: pcholds4_12) (Sx.Sub.mk [(.i64, (1011, (IE.len (LE.var 1010)))), (.i64, (1009, (IE.add (IE.var .i64 1009) (IE.lit 1)))), (.i64, (1008, (IE.cel .i64 (LE.rom 1) (IE.var .i64 1009) 0))), (.i64, (1003, (IE.var .i64 1003)))] [] [(1010, (LE.set (LE.var 1010) (IE.lit 1) (AL.int .i64 (IE.cel .i64 (LE.var 1006) (IE.cel .i64 (LE.rom 1) (IE.var .i64 1009) 0) 0) (AL.int .i64 (IE.cel .i64 (LE.var 1006) (IE.cel .i64 (LE.rom 1) (IE.var .i64 1009) 0) 1) AL.nil)))), (1006, (LE.var 1006))] [] [] []))
def wholds4_7 : VW := (VW.cut 4 ((BE.le (IE.var .i64 1008) (IE.cel .i64 (LE.rom 1) (IE.var .i64 1009) 0)) :: pcholds4_13) (Sx.Sub.mk [(.i64, (1011, (IE.len (LE.var 1010)))), (.i64, (1009, (IE.add (IE.var .i64 1009) (IE.lit 1)))), (.i64, (1008, (IE.cel .i64 (LE.rom 1) (IE.var .i64 1009) 0))), (.i64, (1003, (IE.var .i64 1003)))] [] [(1010, (LE.var 1010)), (1006, (LE.var 1006))] [] [] []))
def wholds4_8 : VW := (VW.cut 4 ((BE.not (BE.le (IE.var .i64 1008) (IE.cel .i64 (LE.rom 1) (IE.var .i64 1009) 0))) :: pcholds4_13) (Sx.Sub.mk [(.i64, (1011, (IE.len (LE.var 1010)))), (.i64, (1009, (IE.add (IE.var .i64 1009) (IE.lit 1)))), (.i64, (1008, (IE.var .i64 1008))), (.i64, (1003, (IE.var .i64 1003)))] [] [(1010, (LE.var 1010)), (1006, (LE.var 1006))] [] [] []))
def wholds4_9 : VW := (VW.done ((BE.not (BE.le (IE.cel .i64 (LE.rom 1) (IE.var .i64 1009) 0) (IE.var .i64 1008))) :: pcholds4_10) (some [(G.b (BE.lit true) (BE.lit false))]))
def wholds4_10 : VW := (VW.done ((BE.le (IE.cel .i64 (LE.rom 1) (IE.var .i64 1009) 0) (IE.var .i64 1008)) :: pcholds4_8) (some [(G.b (BE.lit true) (BE.lit false))]))
def wholds4_11 : VW := (VW.cut 4 ((BE.not (BE.le (IE.cel .i64 (LE.rom 1) (IE.var .i64 1009) 0) (IE.var .i64 1008))) :: pcholds4_8) (Sx.Sub.mk [(.i64, (1011, (IE.len (LE.var 1010)))), (.i64, (1009, (IE.add (IE.var .i64 1009) (IE.lit 1)))), (.i64, (1008, (IE.cel .i64 (LE.rom 1) (IE.var .i64 1009) 0))), (.i64, (1003, (IE.var .i64 1003)))] [] [(1010, (LE.set (LE.var 1010) (IE.lit 1) (AL.int .i64 (IE.cel .i64 (LE.var 1006) (IE.cel .i64 (LE.rom 1) (IE.var .i64 1009) 0) 0) (AL.int .i64 (IE.cel .i64 (LE.var 1006) (IE.cel .i64 (LE.rom 1) (IE.var .i64 1009) 0) 1) AL.nil)))), (1006, (LE.var 1006))] [] [] []))
def wholds4_12 : VW := (VW.done ((BE.not (BE.fn 4 (AL.int .i64 (IE.cel .i64 (LE.var 1006) (IE.cel .i64 (LE.rom 1) (IE.var .i64 1009) 0) 0) (AL.int .i64 (IE.cel .i64 (LE.var 1006) (IE.cel .i64 (LE.rom 1) (IE.var .i64 1009) 0) 1) AL.nil)))) :: pcholds4_5) (some [(G.b (BE.lit true) (BE.lit false))]))
def wholds4_13 : VW := (VW.done ((BE.not (BE.fn 2 (AL.lst (LE.var 1010) AL.nil))) :: pcholds4_4) (some [(G.b (BE.lit true) (BE.lit false))]))
def wholds4_14 : VW := (VW.done ((BE.not (BE.eq (IE.len (LE.var 1010)) (IE.lit 3))) :: pcholds4_3) (some [(G.b (BE.lit true) (BE.lit false))]))
def wholds4_15 : VW := (VW.cut 4 ((BE.not (BE.le (IE.lit 0) (IE.cel .i64 (LE.rom 1) (IE.var .i64 1009) 0))) :: pcholds4_1) (Sx.Sub.mk [(.i64, (1011, (IE.var .i64 1011))), (.i64, (1009, (IE.add (IE.var .i64 1009) (IE.lit 1)))), (.i64, (1008, (IE.var .i64 1008))), (.i64, (1003, (IE.var .i64 1003)))] [] [(1010, (LE.var 1010)), (1006, (LE.var 1006))] [] [] []))
def vwholds4 : List VW := [wholds4_0, wholds4_1, wholds4_2, wholds4_3, wholds4_4, wholds4_5, wholds4_6, wholds4_7, wholds4_8, wholds4_9, wholds4_10, wholds4_11, wholds4_12, wholds4_13, wholds4_14, wholds4_15]
def vwholds : Nat → List VW
  | 0 => vwholds0
  | 1 => vwholds1
  | 2 => vwholds2
  | 3 => vwholds3
  | 4 => vwholds4
  | _ => []
end
def invholds : Nat → Lt → Prop
  | 1, l => Inv (l.z.rl 0) (l.i .i64 1000) (l.l 1002) (l.l 1006) (l.i .i64 1003).toNat
  | 3, l => (l.l 1006) = sentP (l.z.rl 0) (l.z.rl 0).length
  | 4, l => (l.l 1006) = sentP (l.z.rl 0) (l.z.rl 0).length ∧ (l.l 1010) = inP (l.z.rl 0) (l.i .i64 1008).toNat
  | _, _ => True
def msholds : Nat → Lt → Nat
  | 0, l => (l.z.rl 0).length + 2 * ((l.z.rl 1).length + 1) + 2
  | 1, l => ((l.z.rl 0).length - (l.i .i64 1003).toNat) + 2 * ((l.z.rl 1).length + 1) + 1
  | 2, l => (l.z.rl 1).length - (l.i .i64 1000).toNat
  | 3, l => ((l.z.rl 1).length - (l.i .i64 1007).toNat) + ((l.z.rl 1).length + 1)
  | 4, l => (l.z.rl 1).length - (l.i .i64 1009).toNat
  | _, _ => 0
theorem vcgholds0_0 : VC TTholds invholds msholds 0 (startF 14 cHolds.pat (.lit true :: cHolds.pre)) wholds0_1 ∧ VC TTholds invholds msholds 0 (startF 14 cHolds.pat (.lit true :: cHolds.pre)) wholds0_3 ∧ VC TTholds invholds msholds 0 (startF 14 cHolds.pat (.lit true :: cHolds.pre)) wholds0_5 ∧ VC TTholds invholds msholds 0 (startF 14 cHolds.pat (.lit true :: cHolds.pre)) wholds0_6 := by
  refine ⟨?_, ?_, ?_, ?_⟩
  all_goals
    intro ρ kn hi hp
    have hF : ρ.z.F = lnk.Φ := kn.F
    simp only [h_nil, h_cons, d_le, d_eq, d_not, d_var, d_lit, d_cel, d_leq, d_fn, d_and, d_iff, IE.den, LE.den, AL.den, lenV, true_and, and_true, pcholds0_5, pcholds0_4, pcholds0_3, pcholds0_2, pcholds0_1, pcholds0_0, pcholds0_7, pcholds0_6, hF, pb1, pb2, pb4, pb5, pb6] at hp
    have p1 := And.left hp
    replace hp := And.right hp
    repeat (have _ := And.left hp; replace hp := And.right hp)
    exfalso
    first | exact p1 rfl | exact absurd p1 (by decide +kernel) | omega
theorem vcholds0_0 : VC TTholds invholds msholds 0 (startF 14 cHolds.pat (.lit true :: cHolds.pre)) wholds0_0 := by
  intro ρ kn hi hp
  have hF : ρ.z.F = lnk.Φ := kn.F
  simp only [h_nil, h_cons, d_le, d_eq, d_not, d_var, d_lit, d_cel, d_leq, d_fn, d_and, d_iff, IE.den, LE.den, AL.den, lenV, true_and, and_true, pcholds0_2, pcholds0_1, pcholds0_0, hF, pb1, pb2, pb4, pb5, pb6] at hp
  obtain ⟨p1, p2, p3⟩ := hp
  refine (show (True) ∧ (((ρ.z.rl 1).length - (0 : Int).toNat : Nat) < (ρ.z.rl 0).length + 2 * ((ρ.z.rl 1).length + 1) + 2) from ?_)
  exact ⟨trivial, by omega⟩
theorem vcholds0_2 : VC TTholds invholds msholds 0 (startF 14 cHolds.pat (.lit true :: cHolds.pre)) wholds0_2 := by
  intro ρ kn hi hp
  have hF : ρ.z.F = lnk.Φ := kn.F
  simp only [h_nil, h_cons, d_le, d_eq, d_not, d_var, d_lit, d_cel, d_leq, d_fn, d_and, d_iff, IE.den, LE.den, AL.den, lenV, true_and, and_true, pcholds0_7, pcholds0_6, pcholds0_5, pcholds0_4, pcholds0_3, pcholds0_2, pcholds0_1, pcholds0_0, hF, pb1, pb2, pb4, pb5, pb6] at hp
  obtain ⟨p1, p2, p3, p4, p5, p6, p7, p8⟩ := hp
  refine (show (Inv (ρ.z.rl 0) ((1 : Int) + (1 : Int)) (List.replicate (3 : Int).toNat [Go.Value.int .i64 (0 : Int)]) ([[Go.Value.int .i64 (1 : Int), Go.Value.int .i64 (IntKind.wrap .i64 ((clampK .i64 (intV (celV (([[Go.Value.int .i64 (0 : Int)]] : LV) ++ (([[Go.Value.int .i64 (0 : Int)]] : LV) ++ ([[Go.Value.int .i64 (0 : Int)]] : LV))) (2 : Int) 0))) + (1 : Int)))]] : LV) (1 : Int).toNat) ∧ ((((ρ.z.rl 0).length - (1 : Int).toNat) + 2 * ((ρ.z.rl 1).length + 1) + 1 : Nat) < (ρ.z.rl 0).length + 2 * ((ρ.z.rl 1).length + 1) + 2) from ?_)
  exact ⟨inv_t (inv_0 (ρ.z.rl 0)) (by omega) (by assumption) rfl, by omega⟩
theorem vcholds0_4 : VC TTholds invholds msholds 0 (startF 14 cHolds.pat (.lit true :: cHolds.pre)) wholds0_4 := by
  intro ρ kn hi hp
  have hF : ρ.z.F = lnk.Φ := kn.F
  simp only [h_nil, h_cons, d_le, d_eq, d_not, d_var, d_lit, d_cel, d_leq, d_fn, d_and, d_iff, IE.den, LE.den, AL.den, lenV, true_and, and_true, pcholds0_6, pcholds0_5, pcholds0_4, pcholds0_3, pcholds0_2, pcholds0_1, pcholds0_0, hF, pb1, pb2, pb4, pb5, pb6] at hp
  obtain ⟨p1, p2, p3, p4, p5, p6, p7⟩ := hp
  refine (show (Inv (ρ.z.rl 0) (1 : Int) ((([[Go.Value.int .i64 (0 : Int)]] : LV) ++ (([[Go.Value.int .i64 (0 : Int)]] : LV) ++ ([[Go.Value.int .i64 (0 : Int)]] : LV))).set (2 : Int).toNat [Go.Value.int .i64 (IntKind.wrap .i64 ((clampK .i64 (intV (celV (([[Go.Value.int .i64 (0 : Int)]] : LV) ++ (([[Go.Value.int .i64 (0 : Int)]] : LV) ++ ([[Go.Value.int .i64 (0 : Int)]] : LV))) (2 : Int) 0))) + (1 : Int)))]) ([[Go.Value.int .i64 (1 : Int), Go.Value.int .i64 (IntKind.wrap .i64 ((clampK .i64 (intV (celV (([[Go.Value.int .i64 (0 : Int)]] : LV) ++ (([[Go.Value.int .i64 (0 : Int)]] : LV) ++ ([[Go.Value.int .i64 (0 : Int)]] : LV))) (2 : Int) 0))) + (1 : Int)))]] : LV) (1 : Int).toNat) ∧ ((((ρ.z.rl 0).length - (1 : Int).toNat) + 2 * ((ρ.z.rl 1).length + 1) + 1 : Nat) < (ρ.z.rl 0).length + 2 * ((ρ.z.rl 1).length + 1) + 2) from ?_)
  exact ⟨inv_f (inv_0 (ρ.z.rl 0)) (by omega) (by assumption), by omega⟩
def ivholds1 (ρ : Rho) : Prop := Inv (ρ.z.rl 0) (ρ.i .i64 1000) (ρ.l 1002) (ρ.l 1006) (ρ.i .i64 1003).toNat
theorem vcgholds1_0 : VC TTholds invholds msholds 1 tholds1 wholds1_1 ∧ VC TTholds invholds msholds 1 tholds1 wholds1_2 ∧ VC TTholds invholds msholds 1 tholds1 wholds1_4 ∧ VC TTholds invholds msholds 1 tholds1 wholds1_6 ∧ VC TTholds invholds msholds 1 tholds1 wholds1_7 ∧ VC TTholds invholds msholds 1 tholds1 wholds1_8 ∧ VC TTholds invholds msholds 1 tholds1 wholds1_9 ∧ VC TTholds invholds msholds 1 tholds1 wholds1_10 ∧ VC TTholds invholds msholds 1 tholds1 wholds1_11 := by
  refine ⟨?_, ?_, ?_, ?_, ?_, ?_, ?_, ?_, ?_⟩
  all_goals
    intro ρ kn hi hp
    have hi : ivholds1 ρ := hi
    unfold ivholds1 at hi
    have hF : ρ.z.F = lnk.Φ := kn.F
    simp only [h_nil, h_cons, d_le, d_eq, d_not, d_var, d_lit, d_cel, d_leq, d_fn, d_and, d_iff, IE.den, LE.den, AL.den, lenV, true_and, and_true, pcholds1_7, pcholds1_6, pcholds1_5, pcholds1_4, pcholds1_3, pcholds1_2, pcholds1_1, pcholds1_0, pcholds1_10, pcholds1_9, pcholds1_8, hF, pb1, pb2, pb4, pb5, pb6] at hp
    have p1 := And.left hp
    replace hp := And.right hp
    repeat (have _ := And.left hp; replace hp := And.right hp)
    exfalso
    obtain ⟨g1, g2, g3, g4⟩ := inv_rng hi (by omega)
    obtain ⟨g5, g6⟩ := inv_ok hi (by omega)
    first | omega | exact p1 g5 | exact p1 g6 | exact p1 rfl | exact absurd p1 (by decide +kernel)
theorem vcholds1_0 : VC TTholds invholds msholds 1 tholds1 wholds1_0 := by
  intro ρ kn hi hp
  have hi : ivholds1 ρ := hi
  unfold ivholds1 at hi
  have hF : ρ.z.F = lnk.Φ := kn.F
  simp only [h_nil, h_cons, d_le, d_eq, d_not, d_var, d_lit, d_cel, d_leq, d_fn, d_and, d_iff, IE.den, LE.den, AL.den, lenV, true_and, and_true, pcholds1_0, hF, pb1, pb2, pb4, pb5, pb6] at hp
  obtain ⟨p1, p2, p3, p4, p5, p6, p7, p8, p9, p10, p11⟩ := hp
  refine (show ((ρ.l 1006) = sentP (ρ.z.rl 0) (ρ.z.rl 0).length) ∧ ((((ρ.z.rl 1).length - (0 : Int).toNat) + ((ρ.z.rl 1).length + 1) : Nat) < ((ρ.z.rl 0).length - (ρ.i .i64 1003).toNat) + 2 * ((ρ.z.rl 1).length + 1) + 1) from ?_)
  refine ⟨?_, by omega⟩
  rw [show (ρ.z.rl 0).length = (ρ.i .i64 1003).toNat by omega]; exact hi.sent
theorem vcholds1_3 : VC TTholds invholds msholds 1 tholds1 wholds1_3 := by
  intro ρ kn hi hp
  have hi : ivholds1 ρ := hi
  unfold ivholds1 at hi
  have hF : ρ.z.F = lnk.Φ := kn.F
  simp only [h_nil, h_cons, d_le, d_eq, d_not, d_var, d_lit, d_cel, d_leq, d_fn, d_and, d_iff, IE.den, LE.den, AL.den, lenV, true_and, and_true, pcholds1_10, pcholds1_9, pcholds1_8, pcholds1_7, pcholds1_6, pcholds1_5, pcholds1_4, pcholds1_3, pcholds1_2, pcholds1_1, pcholds1_0, hF, pb1, pb2, pb4, pb5, pb6] at hp
  obtain ⟨p1, p2, p3, p4, p5, p6, p7, p8, p9, p10, p11, p12, p13, p14, p15, p16, p17, p18, p19, p20, p21⟩ := hp
  refine (show (Inv (ρ.z.rl 0) ((ρ.i .i64 1000) + (1 : Int)) (List.replicate (((ρ.l 1002).length : Nat) : Int).toNat [Go.Value.int .i64 (0 : Int)]) ((ρ.l 1006) ++ ([[Go.Value.int .i64 (ρ.i .i64 1000), Go.Value.int .i64 (IntKind.wrap .i64 ((clampK .i64 (intV (celV (ρ.l 1002) (2 : Int) 0))) + (1 : Int)))]] : LV)) ((ρ.i .i64 1003) + (1 : Int)).toNat) ∧ ((((ρ.z.rl 0).length - ((ρ.i .i64 1003) + (1 : Int)).toNat) + 2 * ((ρ.z.rl 1).length + 1) + 1 : Nat) < ((ρ.z.rl 0).length - (ρ.i .i64 1003).toNat) + 2 * ((ρ.z.rl 1).length + 1) + 1) from ?_)
  have e : (((ρ.i .i64 1003).toNat : Nat) : Int) = ρ.i .i64 1003 := by omega
  have hb : bO (ρ.z.rl 0) (ρ.i .i64 1003).toNat = true := by
    show boolV (celV (ρ.z.rl 0) (((ρ.i .i64 1003).toNat : Nat) : Int) 0) = true
    rw [e]; assumption
  obtain ⟨g1, g2, g3, g4⟩ := inv_rng hi (by omega)
  refine ⟨?_, by omega⟩
  rw [show (ρ.i .i64 1003 + 1).toNat = (ρ.i .i64 1003).toNat + 1 by omega]
  exact inv_t hi (by omega) hb (by rw [g3]; rfl)
theorem vcholds1_5 : VC TTholds invholds msholds 1 tholds1 wholds1_5 := by
  intro ρ kn hi hp
  have hi : ivholds1 ρ := hi
  unfold ivholds1 at hi
  have hF : ρ.z.F = lnk.Φ := kn.F
  simp only [h_nil, h_cons, d_le, d_eq, d_not, d_var, d_lit, d_cel, d_leq, d_fn, d_and, d_iff, IE.den, LE.den, AL.den, lenV, true_and, and_true, pcholds1_8, pcholds1_7, pcholds1_6, pcholds1_5, pcholds1_4, pcholds1_3, pcholds1_2, pcholds1_1, pcholds1_0, hF, pb1, pb2, pb4, pb5, pb6] at hp
  obtain ⟨p1, p2, p3, p4, p5, p6, p7, p8, p9, p10, p11, p12, p13, p14, p15, p16, p17, p18, p19⟩ := hp
  refine (show (Inv (ρ.z.rl 0) (ρ.i .i64 1000) ((ρ.l 1002).set (2 : Int).toNat [Go.Value.int .i64 (IntKind.wrap .i64 ((clampK .i64 (intV (celV (ρ.l 1002) (2 : Int) 0))) + (1 : Int)))]) ((ρ.l 1006) ++ ([[Go.Value.int .i64 (ρ.i .i64 1000), Go.Value.int .i64 (IntKind.wrap .i64 ((clampK .i64 (intV (celV (ρ.l 1002) (2 : Int) 0))) + (1 : Int)))]] : LV)) ((ρ.i .i64 1003) + (1 : Int)).toNat) ∧ ((((ρ.z.rl 0).length - ((ρ.i .i64 1003) + (1 : Int)).toNat) + 2 * ((ρ.z.rl 1).length + 1) + 1 : Nat) < ((ρ.z.rl 0).length - (ρ.i .i64 1003).toNat) + 2 * ((ρ.z.rl 1).length + 1) + 1) from ?_)
  have e : (((ρ.i .i64 1003).toNat : Nat) : Int) = ρ.i .i64 1003 := by omega
  have hb : ¬ bO (ρ.z.rl 0) (ρ.i .i64 1003).toNat = true := by
    show ¬ boolV (celV (ρ.z.rl 0) (((ρ.i .i64 1003).toNat : Nat) : Int) 0) = true
    rw [e]; assumption
  obtain ⟨g1, g2, g3, g4⟩ := inv_rng hi (by omega)
  refine ⟨?_, by omega⟩
  rw [show (ρ.i .i64 1003 + 1).toNat = (ρ.i .i64 1003).toNat + 1 by omega]
  exact inv_f hi (by omega) hb
theorem vcholds2_1 : VC TTholds invholds msholds 2 tholds2 wholds2_1 := by
  intro ρ kn hi hp
  have hF : ρ.z.F = lnk.Φ := kn.F
  simp only [h_nil, h_cons, d_le, d_eq, d_not, d_var, d_lit, d_cel, d_leq, d_fn, d_and, d_iff, IE.den, LE.den, AL.den, lenV, true_and, and_true, pcholds2_1, pcholds2_0, hF, pb1, pb2, pb4, pb5, pb6] at hp
  obtain ⟨p1, p2, p3, p4, p5, p6, p7⟩ := hp
  refine (show (True) ∧ (((ρ.z.rl 1).length - ((ρ.i .i64 1000) + (1 : Int)).toNat : Nat) < (ρ.z.rl 1).length - (ρ.i .i64 1000).toNat) from ?_)
  exact ⟨trivial, by omega⟩
theorem vcholds2_2 : VC TTholds invholds msholds 2 tholds2 wholds2_2 := by
  intro ρ kn hi hp
  have hF : ρ.z.F = lnk.Φ := kn.F
  simp only [h_nil, h_cons, d_le, d_eq, d_not, d_var, d_lit, d_cel, d_leq, d_fn, d_and, d_iff, IE.den, LE.den, AL.den, lenV, true_and, and_true, pcholds2_1, pcholds2_0, hF, pb1, pb2, pb4, pb5, pb6] at hp
  obtain ⟨p1, p2, p3, p4, p5, p6, p7⟩ := hp
  refine (show (True) ∧ (((ρ.z.rl 1).length - ((ρ.i .i64 1000) + (1 : Int)).toNat : Nat) < (ρ.z.rl 1).length - (ρ.i .i64 1000).toNat) from ?_)
  exact ⟨trivial, by omega⟩
def ivholds3 (ρ : Rho) : Prop := (ρ.l 1006) = sentP (ρ.z.rl 0) (ρ.z.rl 0).length
theorem vcgholds3_0 : VC TTholds invholds msholds 3 tholds3 wholds3_2 ∧ VC TTholds invholds msholds 3 tholds3 wholds3_4 ∧ VC TTholds invholds msholds 3 tholds3 wholds3_6 := by
  refine ⟨?_, ?_, ?_⟩
  all_goals
    intro ρ kn hi hp
    have hi : ivholds3 ρ := hi
    unfold ivholds3 at hi
    have hF : ρ.z.F = lnk.Φ := kn.F
    simp only [h_nil, h_cons, d_le, d_eq, d_not, d_var, d_lit, d_cel, d_leq, d_fn, d_and, d_iff, IE.den, LE.den, AL.den, lenV, true_and, and_true, pcholds3_6, pcholds3_5, pcholds3_4, pcholds3_3, pcholds3_2, pcholds3_1, pcholds3_0, hF, pb1, pb2, pb4, pb5, pb6] at hp
    have p1 := And.left hp
    replace hp := And.right hp
    repeat (have _ := And.left hp; replace hp := And.right hp)
    exfalso
    have rx := st_rng (ρ.z.rl 0) (clampK .i64 (intV (celV (ρ.z.rl 1) (ρ.i .i64 1007) 0))).toNat
    have cc := sent_cel (R := ρ.z.rl 0) (n := (ρ.z.rl 0).length) (x := (clampK .i64 (intV (celV (ρ.z.rl 1) (ρ.i .i64 1007) 0)))) (by omega) (by omega) (by omega)
    rw [← hi] at cc
    obtain ⟨c0, c1⟩ := cc
    have z0 : clampK .i64 (intV (celV (([List.map AV.cell [AV.int .i64 0, AV.int .i64 0]] : LV) ++ (([List.map AV.cell [AV.int .i64 0, AV.int .i64 0]] : LV) ++ ([List.map AV.cell [AV.int .i64 0, AV.int .i64 0]] : LV))) (1 : Int) 0)) = 0 := rfl
    have z1 : clampK .i64 (intV (celV (([List.map AV.cell [AV.int .i64 0, AV.int .i64 0]] : LV) ++ (([List.map AV.cell [AV.int .i64 0, AV.int .i64 0]] : LV) ++ ([List.map AV.cell [AV.int .i64 0, AV.int .i64 0]] : LV))) (1 : Int) 1)) = 0 := rfl
    first | omega | exact p1 (by rw [stamp_iff]; omega)
theorem vcholds3_1 : VC TTholds invholds msholds 3 tholds3 wholds3_1 := by
  intro ρ kn hi hp
  have hi : ivholds3 ρ := hi
  unfold ivholds3 at hi
  have hF : ρ.z.F = lnk.Φ := kn.F
  simp only [h_nil, h_cons, d_le, d_eq, d_not, d_var, d_lit, d_cel, d_leq, d_fn, d_and, d_iff, IE.den, LE.den, AL.den, lenV, true_and, and_true, pcholds3_2, pcholds3_1, pcholds3_0, hF, pb1, pb2, pb4, pb5, pb6] at hp
  obtain ⟨p1, p2, p3, p4, p5, p6, p7, p8, p9, p10, p11, p12, p13, p14⟩ := hp
  refine (show ((ρ.l 1006) = sentP (ρ.z.rl 0) (ρ.z.rl 0).length) ∧ ((((ρ.z.rl 1).length - ((ρ.i .i64 1007) + (1 : Int)).toNat) + ((ρ.z.rl 1).length + 1) : Nat) < ((ρ.z.rl 1).length - (ρ.i .i64 1007).toNat) + ((ρ.z.rl 1).length + 1)) from ?_)
  exact ⟨hi, by omega⟩
theorem vcholds3_3 : VC TTholds invholds msholds 3 tholds3 wholds3_3 := by
  intro ρ kn hi hp
  have hi : ivholds3 ρ := hi
  unfold ivholds3 at hi
  have hF : ρ.z.F = lnk.Φ := kn.F
  simp only [h_nil, h_cons, d_le, d_eq, d_not, d_var, d_lit, d_cel, d_leq, d_fn, d_and, d_iff, IE.den, LE.den, AL.den, lenV, true_and, and_true, pcholds3_6, pcholds3_5, pcholds3_4, pcholds3_3, pcholds3_2, pcholds3_1, pcholds3_0, hF, pb1, pb2, pb4, pb5, pb6] at hp
  obtain ⟨p1, p2, p3, p4, p5, p6, p7, p8, p9, p10, p11, p12, p13, p14, p15, p16, p17, p18⟩ := hp
  refine (show ((ρ.l 1006) = sentP (ρ.z.rl 0) (ρ.z.rl 0).length ∧ ((([[Go.Value.int .i64 (0 : Int), Go.Value.int .i64 (0 : Int)]] : LV) ++ (([[Go.Value.int .i64 (0 : Int), Go.Value.int .i64 (0 : Int)]] : LV) ++ ([[Go.Value.int .i64 (0 : Int), Go.Value.int .i64 (0 : Int)]] : LV))).set (1 : Int).toNat [Go.Value.int .i64 (clampK .i64 (intV (celV (ρ.l 1006) (clampK .i64 (intV (celV (ρ.z.rl 1) (ρ.i .i64 1007) 0))) 0))), Go.Value.int .i64 (clampK .i64 (intV (celV (ρ.l 1006) (clampK .i64 (intV (celV (ρ.z.rl 1) (ρ.i .i64 1007) 0))) 1)))]) = inP (ρ.z.rl 0) (clampK .i64 (intV (celV (ρ.z.rl 1) (ρ.i .i64 1007) 0))).toNat) ∧ (((ρ.z.rl 1).length - ((ρ.i .i64 1007) + (1 : Int)).toNat : Nat) < ((ρ.z.rl 1).length - (ρ.i .i64 1007).toNat) + ((ρ.z.rl 1).length + 1)) from ?_)
  have rx := st_rng (ρ.z.rl 0) (clampK .i64 (intV (celV (ρ.z.rl 1) (ρ.i .i64 1007) 0))).toNat
  have cc := sent_cel (R := ρ.z.rl 0) (n := (ρ.z.rl 0).length) (x := (clampK .i64 (intV (celV (ρ.z.rl 1) (ρ.i .i64 1007) 0)))) (by omega) (by omega) (by omega)
  rw [← hi] at cc
  obtain ⟨c0, c1⟩ := cc
  have z0 : clampK .i64 (intV (celV (([List.map AV.cell [AV.int .i64 0, AV.int .i64 0]] : LV) ++ (([List.map AV.cell [AV.int .i64 0, AV.int .i64 0]] : LV) ++ ([List.map AV.cell [AV.int .i64 0, AV.int .i64 0]] : LV))) (1 : Int) 0)) = 0 := rfl
  have z1 : clampK .i64 (intV (celV (([List.map AV.cell [AV.int .i64 0, AV.int .i64 0]] : LV) ++ (([List.map AV.cell [AV.int .i64 0, AV.int .i64 0]] : LV) ++ ([List.map AV.cell [AV.int .i64 0, AV.int .i64 0]] : LV))) (1 : Int) 1)) = 0 := rfl
  refine ⟨⟨hi, ?_⟩, by omega⟩
  first | (exfalso; omega) | (rw [c0, c1]; rfl)
theorem vcholds3_5 : VC TTholds invholds msholds 3 tholds3 wholds3_5 := by
  intro ρ kn hi hp
  have hi : ivholds3 ρ := hi
  unfold ivholds3 at hi
  have hF : ρ.z.F = lnk.Φ := kn.F
  simp only [h_nil, h_cons, d_le, d_eq, d_not, d_var, d_lit, d_cel, d_leq, d_fn, d_and, d_iff, IE.den, LE.den, AL.den, lenV, true_and, and_true, pcholds3_4, pcholds3_3, pcholds3_2, pcholds3_1, pcholds3_0, hF, pb1, pb2, pb4, pb5, pb6] at hp
  obtain ⟨p1, p2, p3, p4, p5, p6, p7, p8, p9, p10, p11, p12, p13, p14, p15, p16⟩ := hp
  refine (show ((ρ.l 1006) = sentP (ρ.z.rl 0) (ρ.z.rl 0).length ∧ ((([[Go.Value.int .i64 (0 : Int), Go.Value.int .i64 (0 : Int)]] : LV) ++ (([[Go.Value.int .i64 (0 : Int), Go.Value.int .i64 (0 : Int)]] : LV) ++ ([[Go.Value.int .i64 (0 : Int), Go.Value.int .i64 (0 : Int)]] : LV))).set (1 : Int).toNat [Go.Value.int .i64 (clampK .i64 (intV (celV (ρ.l 1006) (clampK .i64 (intV (celV (ρ.z.rl 1) (ρ.i .i64 1007) 0))) 0))), Go.Value.int .i64 (clampK .i64 (intV (celV (ρ.l 1006) (clampK .i64 (intV (celV (ρ.z.rl 1) (ρ.i .i64 1007) 0))) 1)))]) = inP (ρ.z.rl 0) (clampK .i64 (intV (celV (ρ.z.rl 1) (ρ.i .i64 1007) 0))).toNat) ∧ (((ρ.z.rl 1).length - ((ρ.i .i64 1007) + (1 : Int)).toNat : Nat) < ((ρ.z.rl 1).length - (ρ.i .i64 1007).toNat) + ((ρ.z.rl 1).length + 1)) from ?_)
  have rx := st_rng (ρ.z.rl 0) (clampK .i64 (intV (celV (ρ.z.rl 1) (ρ.i .i64 1007) 0))).toNat
  have cc := sent_cel (R := ρ.z.rl 0) (n := (ρ.z.rl 0).length) (x := (clampK .i64 (intV (celV (ρ.z.rl 1) (ρ.i .i64 1007) 0)))) (by omega) (by omega) (by omega)
  rw [← hi] at cc
  obtain ⟨c0, c1⟩ := cc
  have z0 : clampK .i64 (intV (celV (([List.map AV.cell [AV.int .i64 0, AV.int .i64 0]] : LV) ++ (([List.map AV.cell [AV.int .i64 0, AV.int .i64 0]] : LV) ++ ([List.map AV.cell [AV.int .i64 0, AV.int .i64 0]] : LV))) (1 : Int) 0)) = 0 := rfl
  have z1 : clampK .i64 (intV (celV (([List.map AV.cell [AV.int .i64 0, AV.int .i64 0]] : LV) ++ (([List.map AV.cell [AV.int .i64 0, AV.int .i64 0]] : LV) ++ ([List.map AV.cell [AV.int .i64 0, AV.int .i64 0]] : LV))) (1 : Int) 1)) = 0 := rfl
  refine ⟨⟨hi, ?_⟩, by omega⟩
  first | (exfalso; omega) | (rw [c0, c1]; rfl)
theorem vcholds3_7 : VC TTholds invholds msholds 3 tholds3 wholds3_7 := by
  intro ρ kn hi hp
  have hi : ivholds3 ρ := hi
  unfold ivholds3 at hi
  have hF : ρ.z.F = lnk.Φ := kn.F
  simp only [h_nil, h_cons, d_le, d_eq, d_not, d_var, d_lit, d_cel, d_leq, d_fn, d_and, d_iff, IE.den, LE.den, AL.den, lenV, true_and, and_true, pcholds3_1, pcholds3_0, hF, pb1, pb2, pb4, pb5, pb6] at hp
  obtain ⟨p1, p2, p3, p4, p5, p6, p7, p8, p9, p10, p11, p12, p13⟩ := hp
  refine (show ((ρ.l 1006) = sentP (ρ.z.rl 0) (ρ.z.rl 0).length) ∧ ((((ρ.z.rl 1).length - ((ρ.i .i64 1007) + (1 : Int)).toNat) + ((ρ.z.rl 1).length + 1) : Nat) < ((ρ.z.rl 1).length - (ρ.i .i64 1007).toNat) + ((ρ.z.rl 1).length + 1)) from ?_)
  exact ⟨hi, by omega⟩
def ivholds4 (ρ : Rho) : Prop := (ρ.l 1006) = sentP (ρ.z.rl 0) (ρ.z.rl 0).length ∧ (ρ.l 1010) = inP (ρ.z.rl 0) (ρ.i .i64 1008).toNat
theorem vcgholds4_0 : VC TTholds invholds msholds 4 tholds4 wholds4_4 ∧ VC TTholds invholds msholds 4 tholds4 wholds4_5 ∧ VC TTholds invholds msholds 4 tholds4 wholds4_9 ∧ VC TTholds invholds msholds 4 tholds4 wholds4_10 ∧ VC TTholds invholds msholds 4 tholds4 wholds4_12 ∧ VC TTholds invholds msholds 4 tholds4 wholds4_13 ∧ VC TTholds invholds msholds 4 tholds4 wholds4_14 := by
  refine ⟨?_, ?_, ?_, ?_, ?_, ?_, ?_⟩
  all_goals
    intro ρ kn hi hp
    have hi : ivholds4 ρ := hi
    unfold ivholds4 at hi
    have hF : ρ.z.F = lnk.Φ := kn.F
    simp only [h_nil, h_cons, d_le, d_eq, d_not, d_var, d_lit, d_cel, d_leq, d_fn, d_and, d_iff, IE.den, LE.den, AL.den, lenV, true_and, and_true, pcholds4_11, pcholds4_9, pcholds4_7, pcholds4_6, pcholds4_5, pcholds4_4, pcholds4_3, pcholds4_2, pcholds4_1, pcholds4_0, pcholds4_12, pcholds4_10, pcholds4_8, hF, pb1, pb2, pb4, pb5, pb6] at hp
    have p1 := And.left hp
    replace hp := And.right hp
    repeat (have _ := And.left hp; replace hp := And.right hp)
    exfalso
    obtain ⟨h1, h2⟩ := hi
    have rx := st_rng (ρ.z.rl 0) (clampK .i64 (intV (celV (ρ.z.rl 1) (ρ.i .i64 1009) 0))).toNat
    have cc := sent_cel (R := ρ.z.rl 0) (n := (ρ.z.rl 0).length) (x := (clampK .i64 (intV (celV (ρ.z.rl 1) (ρ.i .i64 1009) 0)))) (by omega) (by omega) (by omega)
    rw [← h1] at cc
    obtain ⟨c0, c1⟩ := cc
    have dd := in_cel (R := ρ.z.rl 0) (k := (ρ.i .i64 1008).toNat) (by omega)
    rw [← h2] at dd
    obtain ⟨d0, d1⟩ := dd
    have rl := st_rng (ρ.z.rl 0) (ρ.i .i64 1008).toNat
    have lx := lex3 (ρ.z.rl 0) (clampK .i64 (intV (celV (ρ.z.rl 1) (ρ.i .i64 1009) 0))).toNat (ρ.i .i64 1008).toNat
    first
      | omega
      | exact p1 (by rw [stamp_iff]; omega)
      | exact p1 (by rw [h2]; exact in_ok (by omega))
      | (rw [h2] at p1; exact p1 rfl)
theorem vcholds4_1 : VC TTholds invholds msholds 4 tholds4 wholds4_1 := by
  intro ρ kn hi hp
  have hi : ivholds4 ρ := hi
  unfold ivholds4 at hi
  have hF : ρ.z.F = lnk.Φ := kn.F
  simp only [h_nil, h_cons, d_le, d_eq, d_not, d_var, d_lit, d_cel, d_leq, d_fn, d_and, d_iff, IE.den, LE.den, AL.den, lenV, true_and, and_true, pcholds4_2, pcholds4_1, pcholds4_0, hF, pb1, pb2, pb4, pb5, pb6] at hp
  obtain ⟨p1, p2, p3, p4, p5, p6, p7, p8, p9, p10, p11, p12, p13, p14, p15, p16, p17⟩ := hp
  refine (show ((ρ.l 1006) = sentP (ρ.z.rl 0) (ρ.z.rl 0).length ∧ (ρ.l 1010) = inP (ρ.z.rl 0) (ρ.i .i64 1008).toNat) ∧ (((ρ.z.rl 1).length - ((ρ.i .i64 1009) + (1 : Int)).toNat : Nat) < (ρ.z.rl 1).length - (ρ.i .i64 1009).toNat) from ?_)
  obtain ⟨h1, h2⟩ := hi
  exact ⟨⟨h1, h2⟩, by omega⟩
theorem vcholds4_2 : VC TTholds invholds msholds 4 tholds4 wholds4_2 := by
  intro ρ kn hi hp
  have hi : ivholds4 ρ := hi
  unfold ivholds4 at hi
  have hF : ρ.z.F = lnk.Φ := kn.F
  simp only [h_nil, h_cons, d_le, d_eq, d_not, d_var, d_lit, d_cel, d_leq, d_fn, d_and, d_iff, IE.den, LE.den, AL.den, lenV, true_and, and_true, pcholds4_14, pcholds4_11, pcholds4_9, pcholds4_7, pcholds4_6, pcholds4_5, pcholds4_4, pcholds4_3, pcholds4_2, pcholds4_1, pcholds4_0, hF, pb1, pb2, pb4, pb5, pb6] at hp
  obtain ⟨p1, p2, p3, p4, p5, p6, p7, p8, p9, p10, p11, p12, p13, p14, p15, p16, p17, p18, p19, p20, p21, p22, p23, p24, p25⟩ := hp
  refine (show ((ρ.l 1006) = sentP (ρ.z.rl 0) (ρ.z.rl 0).length ∧ (ρ.l 1010) = inP (ρ.z.rl 0) (clampK .i64 (intV (celV (ρ.z.rl 1) (ρ.i .i64 1009) 0))).toNat) ∧ (((ρ.z.rl 1).length - ((ρ.i .i64 1009) + (1 : Int)).toNat : Nat) < (ρ.z.rl 1).length - (ρ.i .i64 1009).toNat) from ?_)
  obtain ⟨h1, h2⟩ := hi
  have rx := st_rng (ρ.z.rl 0) (clampK .i64 (intV (celV (ρ.z.rl 1) (ρ.i .i64 1009) 0))).toNat
  have cc := sent_cel (R := ρ.z.rl 0) (n := (ρ.z.rl 0).length) (x := (clampK .i64 (intV (celV (ρ.z.rl 1) (ρ.i .i64 1009) 0)))) (by omega) (by omega) (by omega)
  rw [← h1] at cc
  obtain ⟨c0, c1⟩ := cc
  have dd := in_cel (R := ρ.z.rl 0) (k := (ρ.i .i64 1008).toNat) (by omega)
  rw [← h2] at dd
  obtain ⟨d0, d1⟩ := dd
  have rl := st_rng (ρ.z.rl 0) (ρ.i .i64 1008).toNat
  have lx := lex3 (ρ.z.rl 0) (clampK .i64 (intV (celV (ρ.z.rl 1) (ρ.i .i64 1009) 0))).toNat (ρ.i .i64 1008).toNat
  refine ⟨⟨h1, ?_⟩, by omega⟩
  first
    | exact h2
    | (exfalso; omega)
    | (have e : (clampK .i64 (intV (celV (ρ.z.rl 1) (ρ.i .i64 1009) 0))).toNat = (ρ.i .i64 1008).toNat := by omega
       rw [e]; exact h2)
    | (rw [c0, c1, h2]; rfl)
theorem vcholds4_3 : VC TTholds invholds msholds 4 tholds4 wholds4_3 := by
  intro ρ kn hi hp
  have hi : ivholds4 ρ := hi
  unfold ivholds4 at hi
  have hF : ρ.z.F = lnk.Φ := kn.F
  simp only [h_nil, h_cons, d_le, d_eq, d_not, d_var, d_lit, d_cel, d_leq, d_fn, d_and, d_iff, IE.den, LE.den, AL.den, lenV, true_and, and_true, pcholds4_14, pcholds4_11, pcholds4_9, pcholds4_7, pcholds4_6, pcholds4_5, pcholds4_4, pcholds4_3, pcholds4_2, pcholds4_1, pcholds4_0, hF, pb1, pb2, pb4, pb5, pb6] at hp
  obtain ⟨p1, p2, p3, p4, p5, p6, p7, p8, p9, p10, p11, p12, p13, p14, p15, p16, p17, p18, p19, p20, p21, p22, p23, p24, p25⟩ := hp
  refine (show ((ρ.l 1006) = sentP (ρ.z.rl 0) (ρ.z.rl 0).length ∧ (ρ.l 1010) = inP (ρ.z.rl 0) (ρ.i .i64 1008).toNat) ∧ (((ρ.z.rl 1).length - ((ρ.i .i64 1009) + (1 : Int)).toNat : Nat) < (ρ.z.rl 1).length - (ρ.i .i64 1009).toNat) from ?_)
  obtain ⟨h1, h2⟩ := hi
  have rx := st_rng (ρ.z.rl 0) (clampK .i64 (intV (celV (ρ.z.rl 1) (ρ.i .i64 1009) 0))).toNat
  have cc := sent_cel (R := ρ.z.rl 0) (n := (ρ.z.rl 0).length) (x := (clampK .i64 (intV (celV (ρ.z.rl 1) (ρ.i .i64 1009) 0)))) (by omega) (by omega) (by omega)
  rw [← h1] at cc
  obtain ⟨c0, c1⟩ := cc
  have dd := in_cel (R := ρ.z.rl 0) (k := (ρ.i .i64 1008).toNat) (by omega)
  rw [← h2] at dd
  obtain ⟨d0, d1⟩ := dd
  have rl := st_rng (ρ.z.rl 0) (ρ.i .i64 1008).toNat
  have lx := lex3 (ρ.z.rl 0) (clampK .i64 (intV (celV (ρ.z.rl 1) (ρ.i .i64 1009) 0))).toNat (ρ.i .i64 1008).toNat
  refine ⟨⟨h1, ?_⟩, by omega⟩
  first
    | exact h2
    | (exfalso; omega)
    | (have e : (clampK .i64 (intV (celV (ρ.z.rl 1) (ρ.i .i64 1009) 0))).toNat = (ρ.i .i64 1008).toNat := by omega
       rw [e]; exact h2)
    | (rw [c0, c1, h2]; rfl)
theorem vcholds4_6 : VC TTholds invholds msholds 4 tholds4 wholds4_6 := by
  intro ρ kn hi hp
  have hi : ivholds4 ρ := hi
  unfold ivholds4 at hi
  have hF : ρ.z.F = lnk.Φ := kn.F
  simp only [h_nil, h_cons, d_le, d_eq, d_not, d_var, d_lit, d_cel, d_leq, d_fn, d_and, d_iff, IE.den, LE.den, AL.den, lenV, true_and, and_true, pcholds4_12, pcholds4_9, pcholds4_7, pcholds4_6, pcholds4_5, pcholds4_4, pcholds4_3, pcholds4_2, pcholds4_1, pcholds4_0, hF, pb1, pb2, pb4, pb5, pb6] at hp
  obtain ⟨p1, p2, p3, p4, p5, p6, p7, p8, p9, p10, p11, p12, p13, p14, p15, p16, p17, p18, p19, p20, p21, p22, p23, p24⟩ := hp
  refine (show ((ρ.l 1006) = sentP (ρ.z.rl 0) (ρ.z.rl 0).length ∧ ((ρ.l 1010).set (1 : Int).toNat [Go.Value.int .i64 (clampK .i64 (intV (celV (ρ.l 1006) (clampK .i64 (intV (celV (ρ.z.rl 1) (ρ.i .i64 1009) 0))) 0))), Go.Value.int .i64 (clampK .i64 (intV (celV (ρ.l 1006) (clampK .i64 (intV (celV (ρ.z.rl 1) (ρ.i .i64 1009) 0))) 1)))]) = inP (ρ.z.rl 0) (clampK .i64 (intV (celV (ρ.z.rl 1) (ρ.i .i64 1009) 0))).toNat) ∧ (((ρ.z.rl 1).length - ((ρ.i .i64 1009) + (1 : Int)).toNat : Nat) < (ρ.z.rl 1).length - (ρ.i .i64 1009).toNat) from ?_)
  obtain ⟨h1, h2⟩ := hi
  have rx := st_rng (ρ.z.rl 0) (clampK .i64 (intV (celV (ρ.z.rl 1) (ρ.i .i64 1009) 0))).toNat
  have cc := sent_cel (R := ρ.z.rl 0) (n := (ρ.z.rl 0).length) (x := (clampK .i64 (intV (celV (ρ.z.rl 1) (ρ.i .i64 1009) 0)))) (by omega) (by omega) (by omega)
  rw [← h1] at cc
  obtain ⟨c0, c1⟩ := cc
  have dd := in_cel (R := ρ.z.rl 0) (k := (ρ.i .i64 1008).toNat) (by omega)
  rw [← h2] at dd
  obtain ⟨d0, d1⟩ := dd
  have rl := st_rng (ρ.z.rl 0) (ρ.i .i64 1008).toNat
  have lx := lex3 (ρ.z.rl 0) (clampK .i64 (intV (celV (ρ.z.rl 1) (ρ.i .i64 1009) 0))).toNat (ρ.i .i64 1008).toNat
  refine ⟨⟨h1, ?_⟩, by omega⟩
  first
    | exact h2
    | (exfalso; omega)
    | (have e : (clampK .i64 (intV (celV (ρ.z.rl 1) (ρ.i .i64 1009) 0))).toNat = (ρ.i .i64 1008).toNat := by omega
       rw [e]; exact h2)
    | (rw [c0, c1, h2]; rfl)
theorem vcholds4_7 : VC TTholds invholds msholds 4 tholds4 wholds4_7 := by
  intro ρ kn hi hp
  have hi : ivholds4 ρ := hi
  unfold ivholds4 at hi
  have hF : ρ.z.F = lnk.Φ := kn.F
  simp only [h_nil, h_cons, d_le, d_eq, d_not, d_var, d_lit, d_cel, d_leq, d_fn, d_and, d_iff, IE.den, LE.den, AL.den, lenV, true_and, and_true, pcholds4_13, pcholds4_10, pcholds4_7, pcholds4_6, pcholds4_5, pcholds4_4, pcholds4_3, pcholds4_2, pcholds4_1, pcholds4_0, hF, pb1, pb2, pb4, pb5, pb6] at hp
  obtain ⟨p1, p2, p3, p4, p5, p6, p7, p8, p9, p10, p11, p12, p13, p14, p15, p16, p17, p18, p19, p20, p21, p22, p23, p24⟩ := hp
  refine (show ((ρ.l 1006) = sentP (ρ.z.rl 0) (ρ.z.rl 0).length ∧ (ρ.l 1010) = inP (ρ.z.rl 0) (clampK .i64 (intV (celV (ρ.z.rl 1) (ρ.i .i64 1009) 0))).toNat) ∧ (((ρ.z.rl 1).length - ((ρ.i .i64 1009) + (1 : Int)).toNat : Nat) < (ρ.z.rl 1).length - (ρ.i .i64 1009).toNat) from ?_)
  obtain ⟨h1, h2⟩ := hi
  have rx := st_rng (ρ.z.rl 0) (clampK .i64 (intV (celV (ρ.z.rl 1) (ρ.i .i64 1009) 0))).toNat
  have cc := sent_cel (R := ρ.z.rl 0) (n := (ρ.z.rl 0).length) (x := (clampK .i64 (intV (celV (ρ.z.rl 1) (ρ.i .i64 1009) 0)))) (by omega) (by omega) (by omega)
  rw [← h1] at cc
  obtain ⟨c0, c1⟩ := cc
  have dd := in_cel (R := ρ.z.rl 0) (k := (ρ.i .i64 1008).toNat) (by omega)
  rw [← h2] at dd
  obtain ⟨d0, d1⟩ := dd
  have rl := st_rng (ρ.z.rl 0) (ρ.i .i64 1008).toNat
  have lx := lex3 (ρ.z.rl 0) (clampK .i64 (intV (celV (ρ.z.rl 1) (ρ.i .i64 1009) 0))).toNat (ρ.i .i64 1008).toNat
  refine ⟨⟨h1, ?_⟩, by omega⟩
  first
    | exact h2
    | (exfalso; omega)
    | (have e : (clampK .i64 (intV (celV (ρ.z.rl 1) (ρ.i .i64 1009) 0))).toNat = (ρ.i .i64 1008).toNat := by omega
       rw [e]; exact h2)
    | (rw [c0, c1, h2]; rfl)
theorem vcholds4_8 : VC TTholds invholds msholds 4 tholds4 wholds4_8 := by
  intro ρ kn hi hp
  have hi : ivholds4 ρ := hi
  unfold ivholds4 at hi
  have hF : ρ.z.F = lnk.Φ := kn.F
  simp only [h_nil, h_cons, d_le, d_eq, d_not, d_var, d_lit, d_cel, d_leq, d_fn, d_and, d_iff, IE.den, LE.den, AL.den, lenV, true_and, and_true, pcholds4_13, pcholds4_10, pcholds4_7, pcholds4_6, pcholds4_5, pcholds4_4, pcholds4_3, pcholds4_2, pcholds4_1, pcholds4_0, hF, pb1, pb2, pb4, pb5, pb6] at hp
  obtain ⟨p1, p2, p3, p4, p5, p6, p7, p8, p9, p10, p11, p12, p13, p14, p15, p16, p17, p18, p19, p20, p21, p22, p23, p24⟩ := hp
  refine (show ((ρ.l 1006) = sentP (ρ.z.rl 0) (ρ.z.rl 0).length ∧ (ρ.l 1010) = inP (ρ.z.rl 0) (ρ.i .i64 1008).toNat) ∧ (((ρ.z.rl 1).length - ((ρ.i .i64 1009) + (1 : Int)).toNat : Nat) < (ρ.z.rl 1).length - (ρ.i .i64 1009).toNat) from ?_)
  obtain ⟨h1, h2⟩ := hi
  have rx := st_rng (ρ.z.rl 0) (clampK .i64 (intV (celV (ρ.z.rl 1) (ρ.i .i64 1009) 0))).toNat
  have cc := sent_cel (R := ρ.z.rl 0) (n := (ρ.z.rl 0).length) (x := (clampK .i64 (intV (celV (ρ.z.rl 1) (ρ.i .i64 1009) 0)))) (by omega) (by omega) (by omega)
  rw [← h1] at cc
  obtain ⟨c0, c1⟩ := cc
  have dd := in_cel (R := ρ.z.rl 0) (k := (ρ.i .i64 1008).toNat) (by omega)
  rw [← h2] at dd
  obtain ⟨d0, d1⟩ := dd
  have rl := st_rng (ρ.z.rl 0) (ρ.i .i64 1008).toNat
  have lx := lex3 (ρ.z.rl 0) (clampK .i64 (intV (celV (ρ.z.rl 1) (ρ.i .i64 1009) 0))).toNat (ρ.i .i64 1008).toNat
  refine ⟨⟨h1, ?_⟩, by omega⟩
  first
    | exact h2
    | (exfalso; omega)
    | (have e : (clampK .i64 (intV (celV (ρ.z.rl 1) (ρ.i .i64 1009) 0))).toNat = (ρ.i .i64 1008).toNat := by omega
       rw [e]; exact h2)
    | (rw [c0, c1, h2]; rfl)
theorem vcholds4_11 : VC TTholds invholds msholds 4 tholds4 wholds4_11 := by
  intro ρ kn hi hp
  have hi : ivholds4 ρ := hi
  unfold ivholds4 at hi
  have hF : ρ.z.F = lnk.Φ := kn.F
  simp only [h_nil, h_cons, d_le, d_eq, d_not, d_var, d_lit, d_cel, d_leq, d_fn, d_and, d_iff, IE.den, LE.den, AL.den, lenV, true_and, and_true, pcholds4_8, pcholds4_6, pcholds4_5, pcholds4_4, pcholds4_3, pcholds4_2, pcholds4_1, pcholds4_0, hF, pb1, pb2, pb4, pb5, pb6] at hp
  obtain ⟨p1, p2, p3, p4, p5, p6, p7, p8, p9, p10, p11, p12, p13, p14, p15, p16, p17, p18, p19, p20, p21, p22⟩ := hp
  refine (show ((ρ.l 1006) = sentP (ρ.z.rl 0) (ρ.z.rl 0).length ∧ ((ρ.l 1010).set (1 : Int).toNat [Go.Value.int .i64 (clampK .i64 (intV (celV (ρ.l 1006) (clampK .i64 (intV (celV (ρ.z.rl 1) (ρ.i .i64 1009) 0))) 0))), Go.Value.int .i64 (clampK .i64 (intV (celV (ρ.l 1006) (clampK .i64 (intV (celV (ρ.z.rl 1) (ρ.i .i64 1009) 0))) 1)))]) = inP (ρ.z.rl 0) (clampK .i64 (intV (celV (ρ.z.rl 1) (ρ.i .i64 1009) 0))).toNat) ∧ (((ρ.z.rl 1).length - ((ρ.i .i64 1009) + (1 : Int)).toNat : Nat) < (ρ.z.rl 1).length - (ρ.i .i64 1009).toNat) from ?_)
  obtain ⟨h1, h2⟩ := hi
  have rx := st_rng (ρ.z.rl 0) (clampK .i64 (intV (celV (ρ.z.rl 1) (ρ.i .i64 1009) 0))).toNat
  have cc := sent_cel (R := ρ.z.rl 0) (n := (ρ.z.rl 0).length) (x := (clampK .i64 (intV (celV (ρ.z.rl 1) (ρ.i .i64 1009) 0)))) (by omega) (by omega) (by omega)
  rw [← h1] at cc
  obtain ⟨c0, c1⟩ := cc
  have dd := in_cel (R := ρ.z.rl 0) (k := (ρ.i .i64 1008).toNat) (by omega)
  rw [← h2] at dd
  obtain ⟨d0, d1⟩ := dd
  have rl := st_rng (ρ.z.rl 0) (ρ.i .i64 1008).toNat
  have lx := lex3 (ρ.z.rl 0) (clampK .i64 (intV (celV (ρ.z.rl 1) (ρ.i .i64 1009) 0))).toNat (ρ.i .i64 1008).toNat
  refine ⟨⟨h1, ?_⟩, by omega⟩
  first
    | exact h2
    | (exfalso; omega)
    | (have e : (clampK .i64 (intV (celV (ρ.z.rl 1) (ρ.i .i64 1009) 0))).toNat = (ρ.i .i64 1008).toNat := by omega
       rw [e]; exact h2)
    | (rw [c0, c1, h2]; rfl)
theorem vcholds4_15 : VC TTholds invholds msholds 4 tholds4 wholds4_15 := by
  intro ρ kn hi hp
  have hi : ivholds4 ρ := hi
  unfold ivholds4 at hi
  have hF : ρ.z.F = lnk.Φ := kn.F
  simp only [h_nil, h_cons, d_le, d_eq, d_not, d_var, d_lit, d_cel, d_leq, d_fn, d_and, d_iff, IE.den, LE.den, AL.den, lenV, true_and, and_true, pcholds4_1, pcholds4_0, hF, pb1, pb2, pb4, pb5, pb6] at hp
  obtain ⟨p1, p2, p3, p4, p5, p6, p7, p8, p9, p10, p11, p12, p13, p14, p15, p16⟩ := hp
  refine (show ((ρ.l 1006) = sentP (ρ.z.rl 0) (ρ.z.rl 0).length ∧ (ρ.l 1010) = inP (ρ.z.rl 0) (ρ.i .i64 1008).toNat) ∧ (((ρ.z.rl 1).length - ((ρ.i .i64 1009) + (1 : Int)).toNat : Nat) < (ρ.z.rl 1).length - (ρ.i .i64 1009).toNat) from ?_)
  obtain ⟨h1, h2⟩ := hi
  exact ⟨⟨h1, h2⟩, by omega⟩
theorem vcsholds0 : ∀ v ∈ vwholds 0, VC TTholds invholds msholds 0 (startF 14 cHolds.pat (.lit true :: cHolds.pre)) v := all_cons vcholds0_0 (all_cons vcgholds0_0.1 (all_cons vcholds0_2 (all_cons vcgholds0_0.2.1 (all_cons vcholds0_4 (all_cons vcgholds0_0.2.2.1 (all_cons vcgholds0_0.2.2.2 (all_cons (fun _ _ _ _ => all_nil) (all_cons (fun _ _ _ _ => all_nil) (all_nil)))))))))
theorem okholds0 : cfgOk (startF 14 cHolds.pat (.lit true :: cHolds.pre)) = true := by kernel_rfl
theorem sgholds0 : segL cHolds.roms cHolds (seg TTholds selholds 4000 tmholds (startF 14 cHolds.pat (.lit true :: cHolds.pre))) = (true, codesR tmholds (views (seg TTholds selholds 4000 tmholds (startF 14 cHolds.pat (.lit true :: cHolds.pre)))), vwholds 0) := by kernel_rfl
theorem vcsholds1 : ∀ v ∈ vwholds 1, VC TTholds invholds msholds 1 tholds1 v := all_cons vcholds1_0 (all_cons vcgholds1_0.1 (all_cons vcgholds1_0.2.1 (all_cons vcholds1_3 (all_cons vcgholds1_0.2.2.1 (all_cons vcholds1_5 (all_cons vcgholds1_0.2.2.2.1 (all_cons vcgholds1_0.2.2.2.2.1 (all_cons vcgholds1_0.2.2.2.2.2.1 (all_cons vcgholds1_0.2.2.2.2.2.2.1 (all_cons vcgholds1_0.2.2.2.2.2.2.2.1 (all_cons vcgholds1_0.2.2.2.2.2.2.2.2 (all_nil))))))))))))
theorem okholds1 : cfgOk tholds1 = true := by kernel_rfl
theorem sgholds1 : segL cHolds.roms cHolds (seg TTholds selholds 4000 tmholds tholds1) = (true, codesR tmholds (views (seg TTholds selholds 4000 tmholds tholds1)), vwholds 1) := by kernel_rfl
theorem vcsholds2 : ∀ v ∈ vwholds 2, VC TTholds invholds msholds 2 tholds2 v := all_cons (fun _ _ _ _ => all_nil) (all_cons vcholds2_1 (all_cons vcholds2_2 (all_nil)))
theorem okholds2 : cfgOk tholds2 = true := by kernel_rfl
theorem sgholds2 : segL cHolds.roms cHolds (seg TTholds selholds 4000 tmholds tholds2) = (true, codesR tmholds (views (seg TTholds selholds 4000 tmholds tholds2)), vwholds 2) := by kernel_rfl
theorem vcsholds3 : ∀ v ∈ vwholds 3, VC TTholds invholds msholds 3 tholds3 v := all_cons (fun _ _ _ _ => all_nil) (all_cons vcholds3_1 (all_cons vcgholds3_0.1 (all_cons vcholds3_3 (all_cons vcgholds3_0.2.1 (all_cons vcholds3_5 (all_cons vcgholds3_0.2.2 (all_cons vcholds3_7 (all_nil))))))))
theorem okholds3 : cfgOk tholds3 = true := by kernel_rfl
theorem sgholds3 : segL cHolds.roms cHolds (seg TTholds selholds 4000 tmholds tholds3) = (true, codesR tmholds (views (seg TTholds selholds 4000 tmholds tholds3)), vwholds 3) := by kernel_rfl
theorem vcsholds4 : ∀ v ∈ vwholds 4, VC TTholds invholds msholds 4 tholds4 v := all_cons (fun _ _ _ _ => all_nil) (all_cons vcholds4_1 (all_cons vcholds4_2 (all_cons vcholds4_3 (all_cons vcgholds4_0.1 (all_cons vcgholds4_0.2.1 (all_cons vcholds4_6 (all_cons vcholds4_7 (all_cons vcholds4_8 (all_cons vcgholds4_0.2.2.1 (all_cons vcgholds4_0.2.2.2.1 (all_cons vcholds4_11 (all_cons vcgholds4_0.2.2.2.2.1 (all_cons vcgholds4_0.2.2.2.2.2.1 (all_cons vcgholds4_0.2.2.2.2.2.2 (all_cons vcholds4_15 (all_nil))))))))))))))))
theorem okholds4 : cfgOk tholds4 = true := by kernel_rfl
theorem sgholds4 : segL cHolds.roms cHolds (seg TTholds selholds 4000 tmholds tholds4) = (true, codesR tmholds (views (seg TTholds selholds 4000 tmholds tholds4)), vwholds 4) := by kernel_rfl
theorem lnholds0 : ∀ ρ, Known TTholds (startF 14 cHolds.pat (.lit true :: cHolds.pre)) ρ → invholds 0 ρ.lt → Holds ρ (leanOf (Cfg.pc (startF 14 cHolds.pat (.lit true :: cHolds.pre)))) := by
  intro ρ _ _
  exact (show Holds ρ [] from fun p hp => by cases hp)
theorem lnholds1 : ∀ ρ, Known TTholds tholds1 ρ → invholds 1 ρ.lt → Holds ρ (leanOf (Cfg.pc tholds1)) := by
  intro ρ _ _
  exact (show Holds ρ [] from fun p hp => by cases hp)
theorem lnholds2 : ∀ ρ, Known TTholds tholds2 ρ → invholds 2 ρ.lt → Holds ρ (leanOf (Cfg.pc tholds2)) := by
  intro ρ _ _
  exact (show Holds ρ [] from fun p hp => by cases hp)
theorem lnholds3 : ∀ ρ, Known TTholds tholds3 ρ → invholds 3 ρ.lt → Holds ρ (leanOf (Cfg.pc tholds3)) := by
  intro ρ _ _
  exact (show Holds ρ [] from fun p hp => by cases hp)
theorem lnholds4 : ∀ ρ, Known TTholds tholds4 ρ → invholds 4 ρ.lt → Holds ρ (leanOf (Cfg.pc tholds4)) := by
  intro ρ _ _
  exact (show Holds ρ [] from fun p hp => by cases hp)
theorem told_holds : Sx.Told lnk.Φ cHolds := by
  refine told_of (cs := [cWorks, cSendS, cRest, cSendM, cRestM, cTakeA, cTakeB, cTakeC, cTakeD, cStamp, cRight]) (all_cons told_works (all_cons told_send (all_cons told_rest (all_cons told_sendM (all_cons told_restM (all_cons told_takeA (all_cons told_takeB (all_cons told_takeC (all_cons told_takeD (all_cons told_stamp (all_cons told_right (all_nil)))))))))))) (sel := selholds) 4000 tmholds invholds msholds vwholds 0 (pc0 := (.lit true :: cHolds.pre)) (by kernel_rfl) (by kernel_rfl) (by kernel_rfl) (post_nil rfl) ?_ ?_ ?_ rfl (fun ρ _ h => h.cons (p := .lit true) (by simp only [BE.den])) (fun _ _ _ _ => trivial) ?_
  · intro k C h
    have := lk_mem h
    simp only [tmholds, List.mem_cons, Prod.mk.injEq, List.not_mem_nil, or_false] at this
    rcases this with ⟨rfl, rfl⟩ | ⟨rfl, rfl⟩ | ⟨rfl, rfl⟩ | ⟨rfl, rfl⟩ | ⟨rfl, rfl⟩
    · exact okholds0
    · exact okholds1
    · exact okholds2
    · exact okholds3
    · exact okholds4
  · intro k C h
    have := lk_mem h
    simp only [tmholds, List.mem_cons, Prod.mk.injEq, List.not_mem_nil, or_false] at this
    rcases this with ⟨rfl, rfl⟩ | ⟨rfl, rfl⟩ | ⟨rfl, rfl⟩ | ⟨rfl, rfl⟩ | ⟨rfl, rfl⟩
    · exact sgholds0
    · exact sgholds1
    · exact sgholds2
    · exact sgholds3
    · exact sgholds4
  · intro k C h
    have := lk_mem h
    simp only [tmholds, List.mem_cons, Prod.mk.injEq, List.not_mem_nil, or_false] at this
    rcases this with ⟨rfl, rfl⟩ | ⟨rfl, rfl⟩ | ⟨rfl, rfl⟩ | ⟨rfl, rfl⟩ | ⟨rfl, rfl⟩
    · exact vcsholds0
    · exact vcsholds1
    · exact vcsholds2
    · exact vcsholds3
    · exact vcsholds4
  · intro k C h
    have := lk_mem h
    simp only [tmholds, List.mem_cons, Prod.mk.injEq, List.not_mem_nil, or_false] at this
    rcases this with ⟨rfl, rfl⟩ | ⟨rfl, rfl⟩ | ⟨rfl, rfl⟩ | ⟨rfl, rfl⟩ | ⟨rfl, rfl⟩
    · exact lnholds0
    · exact lnholds1
    · exact lnholds2
    · exact lnholds3
    · exact lnholds4
end Go.Proofs.Ytjgkaimgocnkmaa.lnk
