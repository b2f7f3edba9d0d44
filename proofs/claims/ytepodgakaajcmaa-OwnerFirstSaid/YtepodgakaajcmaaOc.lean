/- Layer owner: the law OwnerFirst. No condition. -/
import Derived.Test.YtepodgakaajcmaaOb
set_option linter.unusedVariables false
set_option linter.unusedSimpArgs false
set_option linter.deprecated false
namespace Go.Proofs.Ytepodgakaajcmaa.own
open Go Go.Proofs.Ytepodgakaajcmaa.Sx
theorem told_first0 : Sx.Told own.Φ cFirst0 := told_auto (cs := [cWorks, cRight, cRRight, cSi, cHop, cRHop]) (all_cons told_works (all_cons told_right (all_cons told_rright (all_cons told_si (all_cons told_hop (all_cons told_rhop (all_nil))))))) 20000 (by kernel_rfl) (by kernel_rfl) (by kernel_rfl) (post_nil rfl) (by kernel_rfl) (by kernel_rfl)
noncomputable section
def tfirst11 : Cfg := { top := ⟨21, over (opqS 10000 46) [(1, (SV.int .i64 (IE.var .i64 4))), (10, (SV.const (Go.Value.slice none 0 0))), (33, (SV.int .i64 (IE.var .i64 1))), (34, (SV.int .i64 (IE.var .i64 1000)))], ogt (loopTodo (bodyOf (T own.Φ [] []) 21) 0), [], false, none⟩, rest := [⟨5, over (opqS 30000 59) [(3, (SV.ptr 0 0)), (4, (SV.ptr 1 0)), (5, (SV.ptr 2 0))], ogt (callTodo (bodyOf (T own.Φ [] []) 5) 1 [6, 7, 8, 9, 10, 11]), [], false, none⟩], heap := [(0, .cells [(SV.int .i64 (IE.var .i64 1)), (SV.int .i64 (IE.var .i64 2)), (SV.int .i64 (IE.var .i64 3))] 23), (1, .cells [(SV.int .i64 (IE.var .i64 4)), (SV.bool (BE.var 1))] 41), (2, .cells [(SV.int .i64 (IE.var .i64 5)), (SV.int .i64 (IE.var .i64 6))] 25)], next := 3, pc := .lit true :: ([] ++ [(BE.var 1), (BE.le (IE.lit 2) (IE.var .i64 1)), (BE.le (IE.lit 0) (IE.var .i64 4)), (BE.le (IE.var .i64 1) (IE.lit 64)), (BE.fn 1 (AL.int .i64 (IE.var .i64 2) (AL.int .i64 (IE.var .i64 3) AL.nil))), (BE.le (IE.lit 0) (IE.var .i64 5)), (BE.not (BE.le (IE.var .i64 1) (IE.var .i64 5))), (BE.fn 2 (AL.int .i64 (IE.var .i64 6) AL.nil)), (BE.not (BE.le (IE.var .i64 1) (IE.var .i64 4))), (BE.le (IE.lit 0) (IE.var .i64 1000))] ++ (.and (.lit true) (.lit true)) :: [.le (.var .i64 1000) (.lit 1)]) }
def tfirst12 : Cfg := { top := ⟨21, over (opqS 10000 46) [(1, (SV.int .i64 (IE.var .i64 4))), (10, (SV.sll 4 5 1 (IE.lit 0) (IE.var .i64 1001) none)), (33, (SV.int .i64 (IE.var .i64 1))), (34, (SV.int .i64 (IE.var .i64 1002)))], ogt (loopTodo (bodyOf (T own.Φ [] []) 21) 0), [], false, none⟩, rest := [⟨5, over (opqS 30000 59) [(3, (SV.ptr 0 0)), (4, (SV.ptr 1 0)), (5, (SV.ptr 2 0))], ogt (callTodo (bodyOf (T own.Φ [] []) 5) 1 [6, 7, 8, 9, 10, 11]), [], false, none⟩], heap := [(4, .rowl (LE.var 1004) (IE.var .i64 1001) [(CK.int .i64)] 3 5 1), (0, .cells [(SV.int .i64 (IE.var .i64 1)), (SV.int .i64 (IE.var .i64 2)), (SV.int .i64 (IE.var .i64 3))] 23), (1, .cells [(SV.int .i64 (IE.var .i64 4)), (SV.bool (BE.var 1))] 41), (2, .cells [(SV.int .i64 (IE.var .i64 5)), (SV.int .i64 (IE.var .i64 6))] 25)], next := 6, pc := .lit true :: ([] ++ [(BE.not (BE.le (IE.var .i64 1) (IE.var .i64 4))), (BE.fn 2 (AL.int .i64 (IE.var .i64 6) AL.nil)), (BE.not (BE.le (IE.var .i64 1) (IE.var .i64 5))), (BE.le (IE.lit 0) (IE.var .i64 5)), (BE.fn 1 (AL.int .i64 (IE.var .i64 2) (AL.int .i64 (IE.var .i64 3) AL.nil))), (BE.le (IE.var .i64 1) (IE.lit 64)), (BE.le (IE.lit 0) (IE.var .i64 4)), (BE.le (IE.lit 2) (IE.var .i64 1)), (BE.var 1), (BE.le (IE.lit 0) (IE.var .i64 1001)), (BE.le (IE.var .i64 1001) (IE.var .i64 1002))]) }
def tfirst13 : Cfg := { top := ⟨22, over (opqS 10000 47) [(1, (SV.int .i64 (IE.var .i64 4))), (4, (SV.ptr 6 0)), (10, (SV.const (Go.Value.slice none 0 0))), (11, (SV.int .i64 (IE.var .i64 1005)))], ogt (loopTodo (bodyOf (T own.Φ [] []) 22) 0), [], false, none⟩, rest := [⟨5, over (opqS 30000 59) [(7, (SV.sll 4 5 1 (IE.lit 0) (IE.var .i64 1001) none)), (8, (SV.int .i64 (IE.lit 0)))], ogt (callTodo (bodyOf (T own.Φ [] []) 5) 2 [6, 7, 8, 9, 10, 11]), [], false, none⟩], heap := [(6, .cells [(SV.int .i64 (IE.var .i64 1)), (SV.int .i64 (IE.var .i64 2)), (SV.int .i64 (IE.var .i64 3))] 23), (4, .rowl (LE.var 1004) (IE.var .i64 1001) [(CK.int .i64)] 3 5 1)], next := 7, pc := .lit true :: ([] ++ [(BE.var 1), (BE.le (IE.lit 2) (IE.var .i64 1)), (BE.le (IE.lit 0) (IE.var .i64 4)), (BE.le (IE.var .i64 1) (IE.lit 64)), (BE.fn 1 (AL.int .i64 (IE.var .i64 2) (AL.int .i64 (IE.var .i64 3) AL.nil))), (BE.le (IE.lit 0) (IE.var .i64 5)), (BE.not (BE.le (IE.var .i64 1) (IE.var .i64 5))), (BE.fn 2 (AL.int .i64 (IE.var .i64 6) AL.nil)), (BE.not (BE.le (IE.var .i64 1) (IE.var .i64 4))), (BE.le (IE.lit 0) (IE.var .i64 1001)), (BE.le (IE.lit 0) (IE.var .i64 1005))] ++ (.and (.lit true) (.lit true)) :: [.le (.var .i64 1005) (.lit 1), .le (.lit 1) (.var .i64 1001)]) }
def tfirst14 : Cfg := { top := ⟨22, over (opqS 10000 47) [(1, (SV.int .i64 (IE.var .i64 4))), (4, (SV.ptr 6 0)), (10, (SV.sll 8 9 1 (IE.lit 0) (IE.var .i64 1006) none)), (11, (SV.int .i64 (IE.var .i64 1007)))], ogt (loopTodo (bodyOf (T own.Φ [] []) 22) 0), [], false, none⟩, rest := [⟨5, over (opqS 30000 59) [(7, (SV.sll 4 5 1 (IE.lit 0) (IE.var .i64 1001) none)), (8, (SV.int .i64 (IE.lit 0)))], ogt (callTodo (bodyOf (T own.Φ [] []) 5) 2 [6, 7, 8, 9, 10, 11]), [], false, none⟩], heap := [(6, .cells [(SV.int .i64 (IE.var .i64 1)), (SV.int .i64 (IE.var .i64 2)), (SV.int .i64 (IE.var .i64 3))] 23), (8, .rowl (LE.var 1008) (IE.var .i64 1006) [(CK.int .i64)] 3 9 1), (4, .rowl (LE.var 1004) (IE.var .i64 1001) [(CK.int .i64)] 3 5 1)], next := 10, pc := .lit true :: ([] ++ [(BE.not (BE.le (IE.var .i64 1) (IE.var .i64 4))), (BE.fn 2 (AL.int .i64 (IE.var .i64 6) AL.nil)), (BE.not (BE.le (IE.var .i64 1) (IE.var .i64 5))), (BE.le (IE.lit 0) (IE.var .i64 5)), (BE.fn 1 (AL.int .i64 (IE.var .i64 2) (AL.int .i64 (IE.var .i64 3) AL.nil))), (BE.le (IE.var .i64 1) (IE.lit 64)), (BE.le (IE.lit 0) (IE.var .i64 4)), (BE.le (IE.lit 2) (IE.var .i64 1)), (BE.var 1), (BE.le (IE.lit 0) (IE.var .i64 1001)), (BE.le (IE.lit 1) (IE.var .i64 1001)), (BE.le (IE.lit 0) (IE.var .i64 1006)), (BE.le (IE.var .i64 1006) (IE.var .i64 1007))]) }
def tfirst15 : Cfg := { top := ⟨5, over (opqS 10000 59) [(7, (SV.sll 4 5 1 (IE.lit 0) (IE.var .i64 1001) none)), (9, (SV.sll 8 9 1 (IE.lit 0) (IE.var .i64 1006) none)), (11, (SV.int .i64 (IE.var .i64 1009)))], ogt (loopTodo (bodyOf (T own.Φ [] []) 5) 0), [], false, none⟩, rest := [], heap := [(4, .rowl (LE.var 1004) (IE.var .i64 1001) [(CK.int .i64)] 3 5 1), (8, .rowl (LE.var 1008) (IE.var .i64 1006) [(CK.int .i64)] 3 9 1)], next := 10, pc := .lit true :: ([] ++ [(BE.var 1), (BE.le (IE.lit 2) (IE.var .i64 1)), (BE.le (IE.lit 0) (IE.var .i64 4)), (BE.le (IE.var .i64 1) (IE.lit 64)), (BE.fn 1 (AL.int .i64 (IE.var .i64 2) (AL.int .i64 (IE.var .i64 3) AL.nil))), (BE.le (IE.lit 0) (IE.var .i64 5)), (BE.not (BE.le (IE.var .i64 1) (IE.var .i64 5))), (BE.fn 2 (AL.int .i64 (IE.var .i64 6) AL.nil)), (BE.not (BE.le (IE.var .i64 1) (IE.var .i64 4))), (BE.eq (IE.var .i64 1001) (IE.var .i64 1006)), (BE.le (IE.lit 1) (IE.var .i64 1001)), (BE.le (IE.var .i64 1001) (IE.var .i64 1006)), (BE.le (IE.var .i64 1006) (IE.var .i64 1001)), (BE.le (IE.lit 0) (IE.var .i64 1009)), (BE.le (IE.var .i64 1009) (IE.var .i64 1006))]) }
def tmfirst1 : List (Nat × Cfg) := [(0, startF 5 cFirst1.pat (.lit true :: cFirst1.pre)), (1, tfirst11), (2, tfirst12), (3, tfirst13), (4, tfirst14), (5, tfirst15)]
def selfirst1 : Sel := [(21, 1, 1281001, 1), (21, 1, 1282001, 2), (22, 1, 1281001, 3), (22, 1, 1282001, 4), (5, 1, 1273000, 5)]
def wfirst10_0 : VW := (VW.done [(BE.le (IE.var .i64 1) (IE.var .i64 5)), (BE.le (IE.lit 0) (IE.var .i64 5)), (BE.fn 1 (AL.int .i64 (IE.var .i64 2) (AL.int .i64 (IE.var .i64 3) AL.nil))), (BE.le (IE.var .i64 1) (IE.lit 64)), (BE.le (IE.lit 0) (IE.var .i64 4)), (BE.lit true), (BE.le (IE.lit 2) (IE.var .i64 1)), (BE.var 1)] (some []))
def wfirst10_1 : VW := (VW.done [(BE.le (IE.var .i64 1) (IE.var .i64 4)), (BE.fn 2 (AL.int .i64 (IE.var .i64 6) AL.nil)), (BE.not (BE.le (IE.var .i64 1) (IE.var .i64 5))), (BE.le (IE.lit 0) (IE.var .i64 5)), (BE.fn 1 (AL.int .i64 (IE.var .i64 2) (AL.int .i64 (IE.var .i64 3) AL.nil))), (BE.le (IE.var .i64 1) (IE.lit 64)), (BE.le (IE.lit 0) (IE.var .i64 4)), (BE.lit true), (BE.le (IE.lit 2) (IE.var .i64 1)), (BE.var 1)] (some []))
def wfirst10_2 : VW := (VW.cut 1 [(BE.not (BE.le (IE.var .i64 1) (IE.var .i64 4))), (BE.fn 2 (AL.int .i64 (IE.var .i64 6) AL.nil)), (BE.not (BE.le (IE.var .i64 1) (IE.var .i64 5))), (BE.le (IE.lit 0) (IE.var .i64 5)), (BE.fn 1 (AL.int .i64 (IE.var .i64 2) (AL.int .i64 (IE.var .i64 3) AL.nil))), (BE.le (IE.var .i64 1) (IE.lit 64)), (BE.le (IE.lit 0) (IE.var .i64 4)), (BE.lit true), (BE.le (IE.lit 2) (IE.var .i64 1)), (BE.var 1)] (Sx.Sub.mk [(.i64, (1000, (IE.lit 0)))] [] [] [] [] []))
def wfirst10_3 : VW := (VW.done [(BE.not (BE.fn 2 (AL.int .i64 (IE.var .i64 6) AL.nil))), (BE.not (BE.le (IE.var .i64 1) (IE.var .i64 5))), (BE.le (IE.lit 0) (IE.var .i64 5)), (BE.fn 1 (AL.int .i64 (IE.var .i64 2) (AL.int .i64 (IE.var .i64 3) AL.nil))), (BE.le (IE.var .i64 1) (IE.lit 64)), (BE.le (IE.lit 0) (IE.var .i64 4)), (BE.lit true), (BE.le (IE.lit 2) (IE.var .i64 1)), (BE.var 1)] (some []))
def wfirst10_4 : VW := (VW.done [(BE.not (BE.le (IE.lit 0) (IE.var .i64 5))), (BE.fn 1 (AL.int .i64 (IE.var .i64 2) (AL.int .i64 (IE.var .i64 3) AL.nil))), (BE.le (IE.var .i64 1) (IE.lit 64)), (BE.le (IE.lit 0) (IE.var .i64 4)), (BE.lit true), (BE.le (IE.lit 2) (IE.var .i64 1)), (BE.var 1)] (some []))
def wfirst10_5 : VW := (VW.done [(BE.not (BE.fn 1 (AL.int .i64 (IE.var .i64 2) (AL.int .i64 (IE.var .i64 3) AL.nil)))), (BE.le (IE.var .i64 1) (IE.lit 64)), (BE.le (IE.lit 0) (IE.var .i64 4)), (BE.lit true), (BE.le (IE.lit 2) (IE.var .i64 1)), (BE.var 1)] (some []))
def wfirst10_6 : VW := (VW.done [(BE.not (BE.le (IE.var .i64 1) (IE.lit 64))), (BE.le (IE.lit 0) (IE.var .i64 4)), (BE.lit true), (BE.le (IE.lit 2) (IE.var .i64 1)), (BE.var 1)] (some []))
def wfirst10_7 : VW := (VW.done [(BE.le (IE.var .i64 1) (IE.var .i64 5)), (BE.le (IE.lit 0) (IE.var .i64 5)), (BE.fn 1 (AL.int .i64 (IE.var .i64 2) (AL.int .i64 (IE.var .i64 3) AL.nil))), (BE.le (IE.var .i64 1) (IE.lit 64)), (BE.not (BE.le (IE.lit 0) (IE.var .i64 4))), (BE.lit true), (BE.le (IE.lit 2) (IE.var .i64 1)), (BE.var 1)] (some []))
def wfirst10_8 : VW := (VW.done [(BE.fn 2 (AL.int .i64 (IE.var .i64 6) AL.nil)), (BE.not (BE.le (IE.var .i64 1) (IE.var .i64 5))), (BE.le (IE.lit 0) (IE.var .i64 5)), (BE.fn 1 (AL.int .i64 (IE.var .i64 2) (AL.int .i64 (IE.var .i64 3) AL.nil))), (BE.le (IE.var .i64 1) (IE.lit 64)), (BE.not (BE.le (IE.lit 0) (IE.var .i64 4))), (BE.lit true), (BE.le (IE.lit 2) (IE.var .i64 1)), (BE.var 1)] (some []))
def wfirst10_9 : VW := (VW.done [(BE.not (BE.fn 2 (AL.int .i64 (IE.var .i64 6) AL.nil))), (BE.not (BE.le (IE.var .i64 1) (IE.var .i64 5))), (BE.le (IE.lit 0) (IE.var .i64 5)), (BE.fn 1 (AL.int .i64 (IE.var .i64 2) (AL.int .i64 (IE.var .i64 3) AL.nil))), (BE.le (IE.var .i64 1) (IE.lit 64)), (BE.not (BE.le (IE.lit 0) (IE.var .i64 4))), (BE.lit true), (BE.le (IE.lit 2) (IE.var .i64 1)), (BE.var 1)] (some []))
def wfirst10_10 : VW := (VW.done [(BE.not (BE.le (IE.lit 0) (IE.var .i64 5))), (BE.fn 1 (AL.int .i64 (IE.var .i64 2) (AL.int .i64 (IE.var .i64 3) AL.nil))), (BE.le (IE.var .i64 1) (IE.lit 64)), (BE.not (BE.le (IE.lit 0) (IE.var .i64 4))), (BE.lit true), (BE.le (IE.lit 2) (IE.var .i64 1)), (BE.var 1)] (some []))
def wfirst10_11 : VW := (VW.done [(BE.not (BE.fn 1 (AL.int .i64 (IE.var .i64 2) (AL.int .i64 (IE.var .i64 3) AL.nil)))), (BE.le (IE.var .i64 1) (IE.lit 64)), (BE.not (BE.le (IE.lit 0) (IE.var .i64 4))), (BE.lit true), (BE.le (IE.lit 2) (IE.var .i64 1)), (BE.var 1)] (some []))
def wfirst10_12 : VW := (VW.done [(BE.not (BE.le (IE.var .i64 1) (IE.lit 64))), (BE.not (BE.le (IE.lit 0) (IE.var .i64 4))), (BE.lit true), (BE.le (IE.lit 2) (IE.var .i64 1)), (BE.var 1)] (some []))
def vwfirst10 : List VW := [wfirst10_0, wfirst10_1, wfirst10_2, wfirst10_3, wfirst10_4, wfirst10_5, wfirst10_6, wfirst10_7, wfirst10_8, wfirst10_9, wfirst10_10, wfirst10_11, wfirst10_12]
def wfirst11_0 : VW := (VW.cut 1 [(BE.eq (IE.var .i64 1000) (IE.var .i64 4)), (BE.lit true), (BE.var 1), (BE.le (IE.lit 2) (IE.var .i64 1)), (BE.le (IE.lit 0) (IE.var .i64 4)), (BE.le (IE.var .i64 1) (IE.lit 64)), (BE.fn 1 (AL.int .i64 (IE.var .i64 2) (AL.int .i64 (IE.var .i64 3) AL.nil))), (BE.le (IE.lit 0) (IE.var .i64 5)), (BE.not (BE.le (IE.var .i64 1) (IE.var .i64 5))), (BE.fn 2 (AL.int .i64 (IE.var .i64 6) AL.nil)), (BE.not (BE.le (IE.var .i64 1) (IE.var .i64 4))), (BE.le (IE.lit 0) (IE.var .i64 1000)), (BE.and (BE.lit true) (BE.lit true)), (BE.le (IE.var .i64 1000) (IE.lit 1))] (Sx.Sub.mk [(.i64, (1000, (IE.add (IE.var .i64 1000) (IE.lit 1))))] [] [] [] [] []))
def wfirst11_1 : VW := (VW.cut 2 [(BE.not (BE.eq (IE.var .i64 1000) (IE.var .i64 4))), (BE.lit true), (BE.var 1), (BE.le (IE.lit 2) (IE.var .i64 1)), (BE.le (IE.lit 0) (IE.var .i64 4)), (BE.le (IE.var .i64 1) (IE.lit 64)), (BE.fn 1 (AL.int .i64 (IE.var .i64 2) (AL.int .i64 (IE.var .i64 3) AL.nil))), (BE.le (IE.lit 0) (IE.var .i64 5)), (BE.not (BE.le (IE.var .i64 1) (IE.var .i64 5))), (BE.fn 2 (AL.int .i64 (IE.var .i64 6) AL.nil)), (BE.not (BE.le (IE.var .i64 1) (IE.var .i64 4))), (BE.le (IE.lit 0) (IE.var .i64 1000)), (BE.and (BE.lit true) (BE.lit true)), (BE.le (IE.var .i64 1000) (IE.lit 1))] (Sx.Sub.mk [(.i64, (1002, (IE.add (IE.var .i64 1000) (IE.lit 1)))), (.i64, (1001, (IE.lit 1)))] [] [(1004, (LE.one (AL.int .i64 (IE.var .i64 1000) AL.nil)))] [] [] []))
def vwfirst11 : List VW := [wfirst11_0, wfirst11_1]
def wfirst12_0 : VW := (VW.cut 3 [(BE.le (IE.var .i64 1) (IE.var .i64 1002)), (BE.lit true), (BE.not (BE.le (IE.var .i64 1) (IE.var .i64 4))), (BE.fn 2 (AL.int .i64 (IE.var .i64 6) AL.nil)), (BE.not (BE.le (IE.var .i64 1) (IE.var .i64 5))), (BE.le (IE.lit 0) (IE.var .i64 5)), (BE.fn 1 (AL.int .i64 (IE.var .i64 2) (AL.int .i64 (IE.var .i64 3) AL.nil))), (BE.le (IE.var .i64 1) (IE.lit 64)), (BE.le (IE.lit 0) (IE.var .i64 4)), (BE.le (IE.lit 2) (IE.var .i64 1)), (BE.var 1), (BE.le (IE.lit 0) (IE.var .i64 1001)), (BE.le (IE.var .i64 1001) (IE.var .i64 1002))] (Sx.Sub.mk [(.i64, (1001, (IE.var .i64 1001))), (.i64, (1005, (IE.lit 0)))] [] [(1004, (LE.var 1004))] [] [] []))
def wfirst12_1 : VW := (VW.cut 2 [(BE.eq (IE.var .i64 1002) (IE.var .i64 4)), (BE.not (BE.le (IE.var .i64 1) (IE.var .i64 1002))), (BE.lit true), (BE.not (BE.le (IE.var .i64 1) (IE.var .i64 4))), (BE.fn 2 (AL.int .i64 (IE.var .i64 6) AL.nil)), (BE.not (BE.le (IE.var .i64 1) (IE.var .i64 5))), (BE.le (IE.lit 0) (IE.var .i64 5)), (BE.fn 1 (AL.int .i64 (IE.var .i64 2) (AL.int .i64 (IE.var .i64 3) AL.nil))), (BE.le (IE.var .i64 1) (IE.lit 64)), (BE.le (IE.lit 0) (IE.var .i64 4)), (BE.le (IE.lit 2) (IE.var .i64 1)), (BE.var 1), (BE.le (IE.lit 0) (IE.var .i64 1001)), (BE.le (IE.var .i64 1001) (IE.var .i64 1002))] (Sx.Sub.mk [(.i64, (1002, (IE.add (IE.var .i64 1002) (IE.lit 1)))), (.i64, (1001, (IE.var .i64 1001)))] [] [(1004, (LE.var 1004))] [] [] []))
def wfirst12_2 : VW := (VW.cut 2 [(BE.not (BE.eq (IE.var .i64 1002) (IE.var .i64 4))), (BE.not (BE.le (IE.var .i64 1) (IE.var .i64 1002))), (BE.lit true), (BE.not (BE.le (IE.var .i64 1) (IE.var .i64 4))), (BE.fn 2 (AL.int .i64 (IE.var .i64 6) AL.nil)), (BE.not (BE.le (IE.var .i64 1) (IE.var .i64 5))), (BE.le (IE.lit 0) (IE.var .i64 5)), (BE.fn 1 (AL.int .i64 (IE.var .i64 2) (AL.int .i64 (IE.var .i64 3) AL.nil))), (BE.le (IE.var .i64 1) (IE.lit 64)), (BE.le (IE.lit 0) (IE.var .i64 4)), (BE.le (IE.lit 2) (IE.var .i64 1)), (BE.var 1), (BE.le (IE.lit 0) (IE.var .i64 1001)), (BE.le (IE.var .i64 1001) (IE.var .i64 1002))] (Sx.Sub.mk [(.i64, (1002, (IE.add (IE.var .i64 1002) (IE.lit 1)))), (.i64, (1001, (IE.add (IE.var .i64 1001) (IE.lit 1))))] [] [(1004, (LE.cat (LE.var 1004) (LE.one (AL.int .i64 (IE.var .i64 1002) AL.nil))))] [] [] []))
def vwfirst12 : List VW := [wfirst12_0, wfirst12_1, wfirst12_2]
def wfirst13_0 : VW := (VW.cut 3 [(BE.eq (IE.var .i64 1005) (IE.var .i64 4)), (BE.lit true), (BE.var 1), (BE.le (IE.lit 2) (IE.var .i64 1)), (BE.le (IE.lit 0) (IE.var .i64 4)), (BE.le (IE.var .i64 1) (IE.lit 64)), (BE.fn 1 (AL.int .i64 (IE.var .i64 2) (AL.int .i64 (IE.var .i64 3) AL.nil))), (BE.le (IE.lit 0) (IE.var .i64 5)), (BE.not (BE.le (IE.var .i64 1) (IE.var .i64 5))), (BE.fn 2 (AL.int .i64 (IE.var .i64 6) AL.nil)), (BE.not (BE.le (IE.var .i64 1) (IE.var .i64 4))), (BE.le (IE.lit 0) (IE.var .i64 1001)), (BE.le (IE.lit 0) (IE.var .i64 1005)), (BE.and (BE.lit true) (BE.lit true)), (BE.le (IE.var .i64 1005) (IE.lit 1)), (BE.le (IE.lit 1) (IE.var .i64 1001))] (Sx.Sub.mk [(.i64, (1001, (IE.var .i64 1001))), (.i64, (1005, (IE.add (IE.var .i64 1005) (IE.lit 1))))] [] [(1004, (LE.var 1004))] [] [] []))
def wfirst13_1 : VW := (VW.cut 4 [(BE.not (BE.eq (IE.var .i64 1005) (IE.var .i64 4))), (BE.lit true), (BE.var 1), (BE.le (IE.lit 2) (IE.var .i64 1)), (BE.le (IE.lit 0) (IE.var .i64 4)), (BE.le (IE.var .i64 1) (IE.lit 64)), (BE.fn 1 (AL.int .i64 (IE.var .i64 2) (AL.int .i64 (IE.var .i64 3) AL.nil))), (BE.le (IE.lit 0) (IE.var .i64 5)), (BE.not (BE.le (IE.var .i64 1) (IE.var .i64 5))), (BE.fn 2 (AL.int .i64 (IE.var .i64 6) AL.nil)), (BE.not (BE.le (IE.var .i64 1) (IE.var .i64 4))), (BE.le (IE.lit 0) (IE.var .i64 1001)), (BE.le (IE.lit 0) (IE.var .i64 1005)), (BE.and (BE.lit true) (BE.lit true)), (BE.le (IE.var .i64 1005) (IE.lit 1)), (BE.le (IE.lit 1) (IE.var .i64 1001))] (Sx.Sub.mk [(.i64, (1001, (IE.var .i64 1001))), (.i64, (1007, (IE.add (IE.var .i64 1005) (IE.lit 1)))), (.i64, (1006, (IE.lit 1)))] [] [(1004, (LE.var 1004)), (1008, (LE.one (AL.int .i64 (IE.var .i64 1005) AL.nil)))] [] [] []))
def vwfirst13 : List VW := [wfirst13_0, wfirst13_1]
def wfirst14_0 : VW := (VW.cut 5 [(BE.eq (IE.var .i64 1001) (IE.var .i64 1006)), (BE.le (IE.var .i64 1) (IE.var .i64 1007)), (BE.lit true), (BE.not (BE.le (IE.var .i64 1) (IE.var .i64 4))), (BE.fn 2 (AL.int .i64 (IE.var .i64 6) AL.nil)), (BE.not (BE.le (IE.var .i64 1) (IE.var .i64 5))), (BE.le (IE.lit 0) (IE.var .i64 5)), (BE.fn 1 (AL.int .i64 (IE.var .i64 2) (AL.int .i64 (IE.var .i64 3) AL.nil))), (BE.le (IE.var .i64 1) (IE.lit 64)), (BE.le (IE.lit 0) (IE.var .i64 4)), (BE.le (IE.lit 2) (IE.var .i64 1)), (BE.var 1), (BE.le (IE.lit 0) (IE.var .i64 1001)), (BE.le (IE.lit 1) (IE.var .i64 1001)), (BE.le (IE.lit 0) (IE.var .i64 1006)), (BE.le (IE.var .i64 1006) (IE.var .i64 1007))] (Sx.Sub.mk [(.i64, (1009, (IE.lit 0))), (.i64, (1006, (IE.var .i64 1006))), (.i64, (1001, (IE.var .i64 1001)))] [] [(1008, (LE.var 1008)), (1004, (LE.var 1004))] [] [] []))
def wfirst14_1 : VW := (VW.done [(BE.not (BE.eq (IE.var .i64 1001) (IE.var .i64 1006))), (BE.le (IE.var .i64 1) (IE.var .i64 1007)), (BE.lit true), (BE.not (BE.le (IE.var .i64 1) (IE.var .i64 4))), (BE.fn 2 (AL.int .i64 (IE.var .i64 6) AL.nil)), (BE.not (BE.le (IE.var .i64 1) (IE.var .i64 5))), (BE.le (IE.lit 0) (IE.var .i64 5)), (BE.fn 1 (AL.int .i64 (IE.var .i64 2) (AL.int .i64 (IE.var .i64 3) AL.nil))), (BE.le (IE.var .i64 1) (IE.lit 64)), (BE.le (IE.lit 0) (IE.var .i64 4)), (BE.le (IE.lit 2) (IE.var .i64 1)), (BE.var 1), (BE.le (IE.lit 0) (IE.var .i64 1001)), (BE.le (IE.lit 1) (IE.var .i64 1001)), (BE.le (IE.lit 0) (IE.var .i64 1006)), (BE.le (IE.var .i64 1006) (IE.var .i64 1007))] (some [(G.b (BE.lit true) (BE.lit false))]))
def wfirst14_2 : VW := (VW.cut 4 [(BE.eq (IE.var .i64 1007) (IE.var .i64 4)), (BE.not (BE.le (IE.var .i64 1) (IE.var .i64 1007))), (BE.lit true), (BE.not (BE.le (IE.var .i64 1) (IE.var .i64 4))), (BE.fn 2 (AL.int .i64 (IE.var .i64 6) AL.nil)), (BE.not (BE.le (IE.var .i64 1) (IE.var .i64 5))), (BE.le (IE.lit 0) (IE.var .i64 5)), (BE.fn 1 (AL.int .i64 (IE.var .i64 2) (AL.int .i64 (IE.var .i64 3) AL.nil))), (BE.le (IE.var .i64 1) (IE.lit 64)), (BE.le (IE.lit 0) (IE.var .i64 4)), (BE.le (IE.lit 2) (IE.var .i64 1)), (BE.var 1), (BE.le (IE.lit 0) (IE.var .i64 1001)), (BE.le (IE.lit 1) (IE.var .i64 1001)), (BE.le (IE.lit 0) (IE.var .i64 1006)), (BE.le (IE.var .i64 1006) (IE.var .i64 1007))] (Sx.Sub.mk [(.i64, (1001, (IE.var .i64 1001))), (.i64, (1007, (IE.add (IE.var .i64 1007) (IE.lit 1)))), (.i64, (1006, (IE.var .i64 1006)))] [] [(1004, (LE.var 1004)), (1008, (LE.var 1008))] [] [] []))
def wfirst14_3 : VW := (VW.cut 4 [(BE.not (BE.eq (IE.var .i64 1007) (IE.var .i64 4))), (BE.not (BE.le (IE.var .i64 1) (IE.var .i64 1007))), (BE.lit true), (BE.not (BE.le (IE.var .i64 1) (IE.var .i64 4))), (BE.fn 2 (AL.int .i64 (IE.var .i64 6) AL.nil)), (BE.not (BE.le (IE.var .i64 1) (IE.var .i64 5))), (BE.le (IE.lit 0) (IE.var .i64 5)), (BE.fn 1 (AL.int .i64 (IE.var .i64 2) (AL.int .i64 (IE.var .i64 3) AL.nil))), (BE.le (IE.var .i64 1) (IE.lit 64)), (BE.le (IE.lit 0) (IE.var .i64 4)), (BE.le (IE.lit 2) (IE.var .i64 1)), (BE.var 1), (BE.le (IE.lit 0) (IE.var .i64 1001)), (BE.le (IE.lit 1) (IE.var .i64 1001)), (BE.le (IE.lit 0) (IE.var .i64 1006)), (BE.le (IE.var .i64 1006) (IE.var .i64 1007))] (Sx.Sub.mk [(.i64, (1001, (IE.var .i64 1001))), (.i64, (1007, (IE.add (IE.var .i64 1007) (IE.lit 1)))), (.i64, (1006, (IE.add (IE.var .i64 1006) (IE.lit 1))))] [] [(1004, (LE.var 1004)), (1008, (LE.cat (LE.var 1008) (LE.one (AL.int .i64 (IE.var .i64 1007) AL.nil))))] [] [] []))
def vwfirst14 : List VW := [wfirst14_0, wfirst14_1, wfirst14_2, wfirst14_3]
def wfirst15_0 : VW := (VW.done [(BE.le (IE.var .i64 1001) (IE.var .i64 1009)), (BE.lit true), (BE.var 1), (BE.le (IE.lit 2) (IE.var .i64 1)), (BE.le (IE.lit 0) (IE.var .i64 4)), (BE.le (IE.var .i64 1) (IE.lit 64)), (BE.fn 1 (AL.int .i64 (IE.var .i64 2) (AL.int .i64 (IE.var .i64 3) AL.nil))), (BE.le (IE.lit 0) (IE.var .i64 5)), (BE.not (BE.le (IE.var .i64 1) (IE.var .i64 5))), (BE.fn 2 (AL.int .i64 (IE.var .i64 6) AL.nil)), (BE.not (BE.le (IE.var .i64 1) (IE.var .i64 4))), (BE.eq (IE.var .i64 1001) (IE.var .i64 1006)), (BE.le (IE.lit 1) (IE.var .i64 1001)), (BE.le (IE.var .i64 1001) (IE.var .i64 1006)), (BE.le (IE.var .i64 1006) (IE.var .i64 1001)), (BE.le (IE.lit 0) (IE.var .i64 1009)), (BE.le (IE.var .i64 1009) (IE.var .i64 1006))] (some []))
def wfirst15_1 : VW := (VW.cut 5 [(BE.eq (IE.cel .i64 (LE.var 1004) (IE.var .i64 1009) 0) (IE.cel .i64 (LE.var 1008) (IE.var .i64 1009) 0)), (BE.not (BE.le (IE.var .i64 1001) (IE.var .i64 1009))), (BE.lit true), (BE.var 1), (BE.le (IE.lit 2) (IE.var .i64 1)), (BE.le (IE.lit 0) (IE.var .i64 4)), (BE.le (IE.var .i64 1) (IE.lit 64)), (BE.fn 1 (AL.int .i64 (IE.var .i64 2) (AL.int .i64 (IE.var .i64 3) AL.nil))), (BE.le (IE.lit 0) (IE.var .i64 5)), (BE.not (BE.le (IE.var .i64 1) (IE.var .i64 5))), (BE.fn 2 (AL.int .i64 (IE.var .i64 6) AL.nil)), (BE.not (BE.le (IE.var .i64 1) (IE.var .i64 4))), (BE.eq (IE.var .i64 1001) (IE.var .i64 1006)), (BE.le (IE.lit 1) (IE.var .i64 1001)), (BE.le (IE.var .i64 1001) (IE.var .i64 1006)), (BE.le (IE.var .i64 1006) (IE.var .i64 1001)), (BE.le (IE.lit 0) (IE.var .i64 1009)), (BE.le (IE.var .i64 1009) (IE.var .i64 1006))] (Sx.Sub.mk [(.i64, (1009, (IE.add (IE.var .i64 1009) (IE.lit 1)))), (.i64, (1006, (IE.var .i64 1006))), (.i64, (1001, (IE.var .i64 1001)))] [] [(1008, (LE.var 1008)), (1004, (LE.var 1004))] [] [] []))
def wfirst15_2 : VW := (VW.done [(BE.not (BE.eq (IE.cel .i64 (LE.var 1004) (IE.var .i64 1009) 0) (IE.cel .i64 (LE.var 1008) (IE.var .i64 1009) 0))), (BE.not (BE.le (IE.var .i64 1001) (IE.var .i64 1009))), (BE.lit true), (BE.var 1), (BE.le (IE.lit 2) (IE.var .i64 1)), (BE.le (IE.lit 0) (IE.var .i64 4)), (BE.le (IE.var .i64 1) (IE.lit 64)), (BE.fn 1 (AL.int .i64 (IE.var .i64 2) (AL.int .i64 (IE.var .i64 3) AL.nil))), (BE.le (IE.lit 0) (IE.var .i64 5)), (BE.not (BE.le (IE.var .i64 1) (IE.var .i64 5))), (BE.fn 2 (AL.int .i64 (IE.var .i64 6) AL.nil)), (BE.not (BE.le (IE.var .i64 1) (IE.var .i64 4))), (BE.eq (IE.var .i64 1001) (IE.var .i64 1006)), (BE.le (IE.lit 1) (IE.var .i64 1001)), (BE.le (IE.var .i64 1001) (IE.var .i64 1006)), (BE.le (IE.var .i64 1006) (IE.var .i64 1001)), (BE.le (IE.lit 0) (IE.var .i64 1009)), (BE.le (IE.var .i64 1009) (IE.var .i64 1006))] (some [(G.b (BE.lit true) (BE.lit false))]))
def vwfirst15 : List VW := [wfirst15_0, wfirst15_1, wfirst15_2]
def vwfirst1 : Nat → List VW
  | 0 => vwfirst10
  | 1 => vwfirst11
  | 2 => vwfirst12
  | 3 => vwfirst13
  | 4 => vwfirst14
  | 5 => vwfirst15
  | _ => []
end
def invfirst1 : Nat → Lt → Prop
  | 1, l => butN (l.i .i64 4) (l.i .i64 1000).toNat = []
  | 2, l => (l.l 1004) = butN (l.i .i64 4) (l.i .i64 1002).toNat ∧ (l.i .i64 1002) ≤ (l.i .i64 1)
  | 3, l => (l.l 1004) = butN (l.i .i64 4) (l.i .i64 1).toNat ∧ butN (l.i .i64 4) (l.i .i64 1005).toNat = [] ∧ 2 ≤ (l.i .i64 1)
  | 4, l => (l.l 1004) = butN (l.i .i64 4) (l.i .i64 1).toNat ∧ (l.l 1008) = butN (l.i .i64 4) (l.i .i64 1007).toNat ∧ (l.i .i64 1007) ≤ (l.i .i64 1)
  | 5, l => (l.l 1004) = (l.l 1008)
  | _, _ => True
def msfirst1 : Nat → Lt → Nat
  | 0, l => 8 * ((l.i .i64 1).toNat + 2)
  | 1, l => 6 * ((l.i .i64 1).toNat + 2) + (((l.i .i64 1).toNat + 2) - (l.i .i64 1000).toNat)
  | 2, l => 5 * ((l.i .i64 1).toNat + 2) + (((l.i .i64 1).toNat + 2) - (l.i .i64 1002).toNat)
  | 3, l => (l.i .i64 1001).toNat + 2 * ((l.i .i64 1).toNat + 2) + (((l.i .i64 1).toNat + 2) - (l.i .i64 1005).toNat)
  | 4, l => (l.i .i64 1001).toNat + ((l.i .i64 1).toNat + 2) + (((l.i .i64 1).toNat + 2) - (l.i .i64 1007).toNat)
  | 5, l => (l.i .i64 1001).toNat - (l.i .i64 1009).toNat
  | _, _ => 0
theorem vcfirst10_0 : VC (T own.Φ cFirst1.roms [cWorks, cRight, cRRight, cSi, cHop, cRHop]) invfirst1 msfirst1 0 (startF 5 cFirst1.pat (.lit true :: cFirst1.pre)) wfirst10_0 := by
  intro ρ kn hi hp
  exact all_nil
theorem vcfirst10_1 : VC (T own.Φ cFirst1.roms [cWorks, cRight, cRRight, cSi, cHop, cRHop]) invfirst1 msfirst1 0 (startF 5 cFirst1.pat (.lit true :: cFirst1.pre)) wfirst10_1 := by
  intro ρ kn hi hp
  exact all_nil
theorem vcfirst10_2 : VC (T own.Φ cFirst1.roms [cWorks, cRight, cRRight, cSi, cHop, cRHop]) invfirst1 msfirst1 0 (startF 5 cFirst1.pat (.lit true :: cFirst1.pre)) wfirst10_2 := by
  intro ρ kn hi hp
  have hF : ρ.z.F = own.Φ := kn.F
  simp only [h_nil, h_cons, d_le, d_eq, d_not, d_var, d_lit, d_cel, d_leq, d_fn, d_and, d_iff, IE.den, LE.den, AL.den, lenV, true_and, and_true, hF, pb1, pb2, pb3, pi1, pi2, pl2] at hp
  obtain ⟨p1, p2, p3, p4, p5, p6, p7, p8, p9⟩ := hp
  refine (show (butN (ρ.i .i64 4) (0 : Int).toNat = []) ∧ ((6 * ((ρ.i .i64 1).toNat + 2) + (((ρ.i .i64 1).toNat + 2) - (0 : Int).toNat) : Nat) < 8 * ((ρ.i .i64 1).toNat + 2)) from ?_)
  exact ⟨rfl, by omega⟩
theorem vcfirst10_3 : VC (T own.Φ cFirst1.roms [cWorks, cRight, cRRight, cSi, cHop, cRHop]) invfirst1 msfirst1 0 (startF 5 cFirst1.pat (.lit true :: cFirst1.pre)) wfirst10_3 := by
  intro ρ kn hi hp
  exact all_nil
theorem vcfirst10_4 : VC (T own.Φ cFirst1.roms [cWorks, cRight, cRRight, cSi, cHop, cRHop]) invfirst1 msfirst1 0 (startF 5 cFirst1.pat (.lit true :: cFirst1.pre)) wfirst10_4 := by
  intro ρ kn hi hp
  exact all_nil
theorem vcfirst10_5 : VC (T own.Φ cFirst1.roms [cWorks, cRight, cRRight, cSi, cHop, cRHop]) invfirst1 msfirst1 0 (startF 5 cFirst1.pat (.lit true :: cFirst1.pre)) wfirst10_5 := by
  intro ρ kn hi hp
  exact all_nil
theorem vcfirst10_6 : VC (T own.Φ cFirst1.roms [cWorks, cRight, cRRight, cSi, cHop, cRHop]) invfirst1 msfirst1 0 (startF 5 cFirst1.pat (.lit true :: cFirst1.pre)) wfirst10_6 := by
  intro ρ kn hi hp
  exact all_nil
theorem vcfirst10_7 : VC (T own.Φ cFirst1.roms [cWorks, cRight, cRRight, cSi, cHop, cRHop]) invfirst1 msfirst1 0 (startF 5 cFirst1.pat (.lit true :: cFirst1.pre)) wfirst10_7 := by
  intro ρ kn hi hp
  exact all_nil
theorem vcfirst10_8 : VC (T own.Φ cFirst1.roms [cWorks, cRight, cRRight, cSi, cHop, cRHop]) invfirst1 msfirst1 0 (startF 5 cFirst1.pat (.lit true :: cFirst1.pre)) wfirst10_8 := by
  intro ρ kn hi hp
  exact all_nil
theorem vcfirst10_9 : VC (T own.Φ cFirst1.roms [cWorks, cRight, cRRight, cSi, cHop, cRHop]) invfirst1 msfirst1 0 (startF 5 cFirst1.pat (.lit true :: cFirst1.pre)) wfirst10_9 := by
  intro ρ kn hi hp
  exact all_nil
theorem vcfirst10_10 : VC (T own.Φ cFirst1.roms [cWorks, cRight, cRRight, cSi, cHop, cRHop]) invfirst1 msfirst1 0 (startF 5 cFirst1.pat (.lit true :: cFirst1.pre)) wfirst10_10 := by
  intro ρ kn hi hp
  exact all_nil
theorem vcfirst10_11 : VC (T own.Φ cFirst1.roms [cWorks, cRight, cRRight, cSi, cHop, cRHop]) invfirst1 msfirst1 0 (startF 5 cFirst1.pat (.lit true :: cFirst1.pre)) wfirst10_11 := by
  intro ρ kn hi hp
  exact all_nil
theorem vcfirst10_12 : VC (T own.Φ cFirst1.roms [cWorks, cRight, cRRight, cSi, cHop, cRHop]) invfirst1 msfirst1 0 (startF 5 cFirst1.pat (.lit true :: cFirst1.pre)) wfirst10_12 := by
  intro ρ kn hi hp
  exact all_nil
theorem vcfirst11_0 : VC (T own.Φ cFirst1.roms [cWorks, cRight, cRRight, cSi, cHop, cRHop]) invfirst1 msfirst1 1 tfirst11 wfirst11_0 := by
  intro ρ kn hi hp
  have hi : butN (ρ.i .i64 4) (ρ.i .i64 1000).toNat = [] := hi
  have hF : ρ.z.F = own.Φ := kn.F
  simp only [h_nil, h_cons, d_le, d_eq, d_not, d_var, d_lit, d_cel, d_leq, d_fn, d_and, d_iff, IE.den, LE.den, AL.den, lenV, true_and, and_true, hF, pb1, pb2, pb3, pi1, pi2, pl2] at hp
  obtain ⟨p1, p2, p3, p4, p5, p6, p7, p8, p9, p10, p11, p12⟩ := hp
  refine (show (butN (ρ.i .i64 4) ((ρ.i .i64 1000) + (1 : Int)).toNat = []) ∧ ((6 * ((ρ.i .i64 1).toNat + 2) + (((ρ.i .i64 1).toNat + 2) - ((ρ.i .i64 1000) + (1 : Int)).toNat) : Nat) < 6 * ((ρ.i .i64 1).toNat + 2) + (((ρ.i .i64 1).toNat + 2) - (ρ.i .i64 1000).toNat)) from ?_)
  exact ⟨by rw [but_e (by omega) (by assumption)]; exact hi, by omega⟩
theorem vcfirst11_1 : VC (T own.Φ cFirst1.roms [cWorks, cRight, cRRight, cSi, cHop, cRHop]) invfirst1 msfirst1 1 tfirst11 wfirst11_1 := by
  intro ρ kn hi hp
  have hi : butN (ρ.i .i64 4) (ρ.i .i64 1000).toNat = [] := hi
  have hF : ρ.z.F = own.Φ := kn.F
  simp only [h_nil, h_cons, d_le, d_eq, d_not, d_var, d_lit, d_cel, d_leq, d_fn, d_and, d_iff, IE.den, LE.den, AL.den, lenV, true_and, and_true, hF, pb1, pb2, pb3, pi1, pi2, pl2] at hp
  obtain ⟨p1, p2, p3, p4, p5, p6, p7, p8, p9, p10, p11, p12⟩ := hp
  refine (show (([[Go.Value.int .i64 (ρ.i .i64 1000)]] : LV) = butN (ρ.i .i64 4) ((ρ.i .i64 1000) + (1 : Int)).toNat ∧ ((ρ.i .i64 1000) + (1 : Int)) ≤ (ρ.i .i64 1)) ∧ ((5 * ((ρ.i .i64 1).toNat + 2) + (((ρ.i .i64 1).toNat + 2) - ((ρ.i .i64 1000) + (1 : Int)).toNat) : Nat) < 6 * ((ρ.i .i64 1).toNat + 2) + (((ρ.i .i64 1).toNat + 2) - (ρ.i .i64 1000).toNat)) from ?_)
  exact ⟨⟨by rw [but_s (by omega) (by assumption), hi]; rfl, by omega⟩, by omega⟩
theorem vcfirst12_0 : VC (T own.Φ cFirst1.roms [cWorks, cRight, cRRight, cSi, cHop, cRHop]) invfirst1 msfirst1 2 tfirst12 wfirst12_0 := by
  intro ρ kn hi hp
  have hi : (ρ.l 1004) = butN (ρ.i .i64 4) (ρ.i .i64 1002).toNat ∧ (ρ.i .i64 1002) ≤ (ρ.i .i64 1) := hi
  have hr4 : Typed [(CK.int .i64)] (ρ.l 1004) ∧ (ρ.i .i64 1001) = (((ρ.l 1004)).length : Int) := kn.rows 4 _ _ _ _ _ _ rfl
  have hF : ρ.z.F = own.Φ := kn.F
  simp only [h_nil, h_cons, d_le, d_eq, d_not, d_var, d_lit, d_cel, d_leq, d_fn, d_and, d_iff, IE.den, LE.den, AL.den, lenV, true_and, and_true, hF, pb1, pb2, pb3, pi1, pi2, pl2] at hp
  obtain ⟨p1, p2, p3, p4, p5, p6, p7, p8, p9, p10, p11, p12⟩ := hp
  refine (show ((ρ.l 1004) = butN (ρ.i .i64 4) (ρ.i .i64 1).toNat ∧ butN (ρ.i .i64 4) (0 : Int).toNat = [] ∧ 2 ≤ (ρ.i .i64 1)) ∧ (((ρ.i .i64 1001).toNat + 2 * ((ρ.i .i64 1).toNat + 2) + (((ρ.i .i64 1).toNat + 2) - (0 : Int).toNat) : Nat) < 5 * ((ρ.i .i64 1).toNat + 2) + (((ρ.i .i64 1).toNat + 2) - (ρ.i .i64 1002).toNat)) from ?_)
  exact ⟨⟨by rw [hi.1, show (ρ.i .i64 1002).toNat = (ρ.i .i64 1).toNat by omega], rfl, by omega⟩, by omega⟩
theorem vcfirst12_1 : VC (T own.Φ cFirst1.roms [cWorks, cRight, cRRight, cSi, cHop, cRHop]) invfirst1 msfirst1 2 tfirst12 wfirst12_1 := by
  intro ρ kn hi hp
  have hi : (ρ.l 1004) = butN (ρ.i .i64 4) (ρ.i .i64 1002).toNat ∧ (ρ.i .i64 1002) ≤ (ρ.i .i64 1) := hi
  have hr4 : Typed [(CK.int .i64)] (ρ.l 1004) ∧ (ρ.i .i64 1001) = (((ρ.l 1004)).length : Int) := kn.rows 4 _ _ _ _ _ _ rfl
  have hF : ρ.z.F = own.Φ := kn.F
  simp only [h_nil, h_cons, d_le, d_eq, d_not, d_var, d_lit, d_cel, d_leq, d_fn, d_and, d_iff, IE.den, LE.den, AL.den, lenV, true_and, and_true, hF, pb1, pb2, pb3, pi1, pi2, pl2] at hp
  obtain ⟨p1, p2, p3, p4, p5, p6, p7, p8, p9, p10, p11, p12, p13⟩ := hp
  refine (show ((ρ.l 1004) = butN (ρ.i .i64 4) ((ρ.i .i64 1002) + (1 : Int)).toNat ∧ ((ρ.i .i64 1002) + (1 : Int)) ≤ (ρ.i .i64 1)) ∧ ((5 * ((ρ.i .i64 1).toNat + 2) + (((ρ.i .i64 1).toNat + 2) - ((ρ.i .i64 1002) + (1 : Int)).toNat) : Nat) < 5 * ((ρ.i .i64 1).toNat + 2) + (((ρ.i .i64 1).toNat + 2) - (ρ.i .i64 1002).toNat)) from ?_)
  exact ⟨⟨by rw [but_e (by omega) (by assumption)]; exact hi.1, by omega⟩, by omega⟩
theorem vcfirst12_2 : VC (T own.Φ cFirst1.roms [cWorks, cRight, cRRight, cSi, cHop, cRHop]) invfirst1 msfirst1 2 tfirst12 wfirst12_2 := by
  intro ρ kn hi hp
  have hi : (ρ.l 1004) = butN (ρ.i .i64 4) (ρ.i .i64 1002).toNat ∧ (ρ.i .i64 1002) ≤ (ρ.i .i64 1) := hi
  have hr4 : Typed [(CK.int .i64)] (ρ.l 1004) ∧ (ρ.i .i64 1001) = (((ρ.l 1004)).length : Int) := kn.rows 4 _ _ _ _ _ _ rfl
  have hF : ρ.z.F = own.Φ := kn.F
  simp only [h_nil, h_cons, d_le, d_eq, d_not, d_var, d_lit, d_cel, d_leq, d_fn, d_and, d_iff, IE.den, LE.den, AL.den, lenV, true_and, and_true, hF, pb1, pb2, pb3, pi1, pi2, pl2] at hp
  obtain ⟨p1, p2, p3, p4, p5, p6, p7, p8, p9, p10, p11, p12, p13⟩ := hp
  refine (show (((ρ.l 1004) ++ ([[Go.Value.int .i64 (ρ.i .i64 1002)]] : LV)) = butN (ρ.i .i64 4) ((ρ.i .i64 1002) + (1 : Int)).toNat ∧ ((ρ.i .i64 1002) + (1 : Int)) ≤ (ρ.i .i64 1)) ∧ ((5 * ((ρ.i .i64 1).toNat + 2) + (((ρ.i .i64 1).toNat + 2) - ((ρ.i .i64 1002) + (1 : Int)).toNat) : Nat) < 5 * ((ρ.i .i64 1).toNat + 2) + (((ρ.i .i64 1).toNat + 2) - (ρ.i .i64 1002).toNat)) from ?_)
  exact ⟨⟨by rw [but_s (by omega) (by assumption), ← hi.1], by omega⟩, by omega⟩
theorem vcfirst13_0 : VC (T own.Φ cFirst1.roms [cWorks, cRight, cRRight, cSi, cHop, cRHop]) invfirst1 msfirst1 3 tfirst13 wfirst13_0 := by
  intro ρ kn hi hp
  have hi : (ρ.l 1004) = butN (ρ.i .i64 4) (ρ.i .i64 1).toNat ∧ butN (ρ.i .i64 4) (ρ.i .i64 1005).toNat = [] ∧ 2 ≤ (ρ.i .i64 1) := hi
  have hr4 : Typed [(CK.int .i64)] (ρ.l 1004) ∧ (ρ.i .i64 1001) = (((ρ.l 1004)).length : Int) := kn.rows 4 _ _ _ _ _ _ rfl
  have hF : ρ.z.F = own.Φ := kn.F
  simp only [h_nil, h_cons, d_le, d_eq, d_not, d_var, d_lit, d_cel, d_leq, d_fn, d_and, d_iff, IE.den, LE.den, AL.den, lenV, true_and, and_true, hF, pb1, pb2, pb3, pi1, pi2, pl2] at hp
  obtain ⟨p1, p2, p3, p4, p5, p6, p7, p8, p9, p10, p11, p12, p13, p14⟩ := hp
  refine (show ((ρ.l 1004) = butN (ρ.i .i64 4) (ρ.i .i64 1).toNat ∧ butN (ρ.i .i64 4) ((ρ.i .i64 1005) + (1 : Int)).toNat = [] ∧ 2 ≤ (ρ.i .i64 1)) ∧ (((ρ.i .i64 1001).toNat + 2 * ((ρ.i .i64 1).toNat + 2) + (((ρ.i .i64 1).toNat + 2) - ((ρ.i .i64 1005) + (1 : Int)).toNat) : Nat) < (ρ.i .i64 1001).toNat + 2 * ((ρ.i .i64 1).toNat + 2) + (((ρ.i .i64 1).toNat + 2) - (ρ.i .i64 1005).toNat)) from ?_)
  exact ⟨⟨hi.1, by rw [but_e (by omega) (by assumption)]; exact hi.2.1, hi.2.2⟩, by omega⟩
theorem vcfirst13_1 : VC (T own.Φ cFirst1.roms [cWorks, cRight, cRRight, cSi, cHop, cRHop]) invfirst1 msfirst1 3 tfirst13 wfirst13_1 := by
  intro ρ kn hi hp
  have hi : (ρ.l 1004) = butN (ρ.i .i64 4) (ρ.i .i64 1).toNat ∧ butN (ρ.i .i64 4) (ρ.i .i64 1005).toNat = [] ∧ 2 ≤ (ρ.i .i64 1) := hi
  have hr4 : Typed [(CK.int .i64)] (ρ.l 1004) ∧ (ρ.i .i64 1001) = (((ρ.l 1004)).length : Int) := kn.rows 4 _ _ _ _ _ _ rfl
  have hF : ρ.z.F = own.Φ := kn.F
  simp only [h_nil, h_cons, d_le, d_eq, d_not, d_var, d_lit, d_cel, d_leq, d_fn, d_and, d_iff, IE.den, LE.den, AL.den, lenV, true_and, and_true, hF, pb1, pb2, pb3, pi1, pi2, pl2] at hp
  obtain ⟨p1, p2, p3, p4, p5, p6, p7, p8, p9, p10, p11, p12, p13, p14⟩ := hp
  refine (show ((ρ.l 1004) = butN (ρ.i .i64 4) (ρ.i .i64 1).toNat ∧ ([[Go.Value.int .i64 (ρ.i .i64 1005)]] : LV) = butN (ρ.i .i64 4) ((ρ.i .i64 1005) + (1 : Int)).toNat ∧ ((ρ.i .i64 1005) + (1 : Int)) ≤ (ρ.i .i64 1)) ∧ (((ρ.i .i64 1001).toNat + ((ρ.i .i64 1).toNat + 2) + (((ρ.i .i64 1).toNat + 2) - ((ρ.i .i64 1005) + (1 : Int)).toNat) : Nat) < (ρ.i .i64 1001).toNat + 2 * ((ρ.i .i64 1).toNat + 2) + (((ρ.i .i64 1).toNat + 2) - (ρ.i .i64 1005).toNat)) from ?_)
  exact ⟨⟨hi.1, by rw [but_s (by omega) (by assumption), hi.2.1]; rfl, by omega⟩, by omega⟩
theorem vcfirst14_0 : VC (T own.Φ cFirst1.roms [cWorks, cRight, cRRight, cSi, cHop, cRHop]) invfirst1 msfirst1 4 tfirst14 wfirst14_0 := by
  intro ρ kn hi hp
  have hi : (ρ.l 1004) = butN (ρ.i .i64 4) (ρ.i .i64 1).toNat ∧ (ρ.l 1008) = butN (ρ.i .i64 4) (ρ.i .i64 1007).toNat ∧ (ρ.i .i64 1007) ≤ (ρ.i .i64 1) := hi
  have hr8 : Typed [(CK.int .i64)] (ρ.l 1008) ∧ (ρ.i .i64 1006) = (((ρ.l 1008)).length : Int) := kn.rows 8 _ _ _ _ _ _ rfl
  have hr4 : Typed [(CK.int .i64)] (ρ.l 1004) ∧ (ρ.i .i64 1001) = (((ρ.l 1004)).length : Int) := kn.rows 4 _ _ _ _ _ _ rfl
  have hF : ρ.z.F = own.Φ := kn.F
  simp only [h_nil, h_cons, d_le, d_eq, d_not, d_var, d_lit, d_cel, d_leq, d_fn, d_and, d_iff, IE.den, LE.den, AL.den, lenV, true_and, and_true, hF, pb1, pb2, pb3, pi1, pi2, pl2] at hp
  obtain ⟨p1, p2, p3, p4, p5, p6, p7, p8, p9, p10, p11, p12, p13, p14, p15⟩ := hp
  refine (show ((ρ.l 1004) = (ρ.l 1008)) ∧ (((ρ.i .i64 1001).toNat - (0 : Int).toNat : Nat) < (ρ.i .i64 1001).toNat + ((ρ.i .i64 1).toNat + 2) + (((ρ.i .i64 1).toNat + 2) - (ρ.i .i64 1007).toNat)) from ?_)
  exact ⟨by rw [hi.1, hi.2.1, show (ρ.i .i64 1007).toNat = (ρ.i .i64 1).toNat by omega], by omega⟩
theorem vcfirst14_1 : VC (T own.Φ cFirst1.roms [cWorks, cRight, cRRight, cSi, cHop, cRHop]) invfirst1 msfirst1 4 tfirst14 wfirst14_1 := by
  intro ρ kn hi hp
  have hi : (ρ.l 1004) = butN (ρ.i .i64 4) (ρ.i .i64 1).toNat ∧ (ρ.l 1008) = butN (ρ.i .i64 4) (ρ.i .i64 1007).toNat ∧ (ρ.i .i64 1007) ≤ (ρ.i .i64 1) := hi
  have hr8 : Typed [(CK.int .i64)] (ρ.l 1008) ∧ (ρ.i .i64 1006) = (((ρ.l 1008)).length : Int) := kn.rows 8 _ _ _ _ _ _ rfl
  have hr4 : Typed [(CK.int .i64)] (ρ.l 1004) ∧ (ρ.i .i64 1001) = (((ρ.l 1004)).length : Int) := kn.rows 4 _ _ _ _ _ _ rfl
  have hF : ρ.z.F = own.Φ := kn.F
  simp only [h_nil, h_cons, d_le, d_eq, d_not, d_var, d_lit, d_cel, d_leq, d_fn, d_and, d_iff, IE.den, LE.den, AL.den, lenV, true_and, and_true, hF, pb1, pb2, pb3, pi1, pi2, pl2] at hp
  obtain ⟨p1, p2, p3, p4, p5, p6, p7, p8, p9, p10, p11, p12, p13, p14, p15⟩ := hp
  exfalso
  have a := hr4.2
  have b := hr8.2
  rw [hi.1] at a
  rw [hi.2.1, show (ρ.i .i64 1007).toNat = (ρ.i .i64 1).toNat by omega] at b
  omega
theorem vcfirst14_2 : VC (T own.Φ cFirst1.roms [cWorks, cRight, cRRight, cSi, cHop, cRHop]) invfirst1 msfirst1 4 tfirst14 wfirst14_2 := by
  intro ρ kn hi hp
  have hi : (ρ.l 1004) = butN (ρ.i .i64 4) (ρ.i .i64 1).toNat ∧ (ρ.l 1008) = butN (ρ.i .i64 4) (ρ.i .i64 1007).toNat ∧ (ρ.i .i64 1007) ≤ (ρ.i .i64 1) := hi
  have hr8 : Typed [(CK.int .i64)] (ρ.l 1008) ∧ (ρ.i .i64 1006) = (((ρ.l 1008)).length : Int) := kn.rows 8 _ _ _ _ _ _ rfl
  have hr4 : Typed [(CK.int .i64)] (ρ.l 1004) ∧ (ρ.i .i64 1001) = (((ρ.l 1004)).length : Int) := kn.rows 4 _ _ _ _ _ _ rfl
  have hF : ρ.z.F = own.Φ := kn.F
  simp only [h_nil, h_cons, d_le, d_eq, d_not, d_var, d_lit, d_cel, d_leq, d_fn, d_and, d_iff, IE.den, LE.den, AL.den, lenV, true_and, and_true, hF, pb1, pb2, pb3, pi1, pi2, pl2] at hp
  obtain ⟨p1, p2, p3, p4, p5, p6, p7, p8, p9, p10, p11, p12, p13, p14, p15⟩ := hp
  refine (show ((ρ.l 1004) = butN (ρ.i .i64 4) (ρ.i .i64 1).toNat ∧ (ρ.l 1008) = butN (ρ.i .i64 4) ((ρ.i .i64 1007) + (1 : Int)).toNat ∧ ((ρ.i .i64 1007) + (1 : Int)) ≤ (ρ.i .i64 1)) ∧ (((ρ.i .i64 1001).toNat + ((ρ.i .i64 1).toNat + 2) + (((ρ.i .i64 1).toNat + 2) - ((ρ.i .i64 1007) + (1 : Int)).toNat) : Nat) < (ρ.i .i64 1001).toNat + ((ρ.i .i64 1).toNat + 2) + (((ρ.i .i64 1).toNat + 2) - (ρ.i .i64 1007).toNat)) from ?_)
  exact ⟨⟨hi.1, by rw [but_e (by omega) (by assumption)]; exact hi.2.1, by omega⟩, by omega⟩
theorem vcfirst14_3 : VC (T own.Φ cFirst1.roms [cWorks, cRight, cRRight, cSi, cHop, cRHop]) invfirst1 msfirst1 4 tfirst14 wfirst14_3 := by
  intro ρ kn hi hp
  have hi : (ρ.l 1004) = butN (ρ.i .i64 4) (ρ.i .i64 1).toNat ∧ (ρ.l 1008) = butN (ρ.i .i64 4) (ρ.i .i64 1007).toNat ∧ (ρ.i .i64 1007) ≤ (ρ.i .i64 1) := hi
  have hr8 : Typed [(CK.int .i64)] (ρ.l 1008) ∧ (ρ.i .i64 1006) = (((ρ.l 1008)).length : Int) := kn.rows 8 _ _ _ _ _ _ rfl
  have hr4 : Typed [(CK.int .i64)] (ρ.l 1004) ∧ (ρ.i .i64 1001) = (((ρ.l 1004)).length : Int) := kn.rows 4 _ _ _ _ _ _ rfl
  have hF : ρ.z.F = own.Φ := kn.F
  simp only [h_nil, h_cons, d_le, d_eq, d_not, d_var, d_lit, d_cel, d_leq, d_fn, d_and, d_iff, IE.den, LE.den, AL.den, lenV, true_and, and_true, hF, pb1, pb2, pb3, pi1, pi2, pl2] at hp
  obtain ⟨p1, p2, p3, p4, p5, p6, p7, p8, p9, p10, p11, p12, p13, p14, p15⟩ := hp
  refine (show ((ρ.l 1004) = butN (ρ.i .i64 4) (ρ.i .i64 1).toNat ∧ ((ρ.l 1008) ++ ([[Go.Value.int .i64 (ρ.i .i64 1007)]] : LV)) = butN (ρ.i .i64 4) ((ρ.i .i64 1007) + (1 : Int)).toNat ∧ ((ρ.i .i64 1007) + (1 : Int)) ≤ (ρ.i .i64 1)) ∧ (((ρ.i .i64 1001).toNat + ((ρ.i .i64 1).toNat + 2) + (((ρ.i .i64 1).toNat + 2) - ((ρ.i .i64 1007) + (1 : Int)).toNat) : Nat) < (ρ.i .i64 1001).toNat + ((ρ.i .i64 1).toNat + 2) + (((ρ.i .i64 1).toNat + 2) - (ρ.i .i64 1007).toNat)) from ?_)
  exact ⟨⟨hi.1, by rw [but_s (by omega) (by assumption), ← hi.2.1], by omega⟩, by omega⟩
theorem vcfirst15_0 : VC (T own.Φ cFirst1.roms [cWorks, cRight, cRRight, cSi, cHop, cRHop]) invfirst1 msfirst1 5 tfirst15 wfirst15_0 := by
  intro ρ kn hi hp
  exact all_nil
theorem vcfirst15_1 : VC (T own.Φ cFirst1.roms [cWorks, cRight, cRRight, cSi, cHop, cRHop]) invfirst1 msfirst1 5 tfirst15 wfirst15_1 := by
  intro ρ kn hi hp
  have hi : (ρ.l 1004) = (ρ.l 1008) := hi
  have hr4 : Typed [(CK.int .i64)] (ρ.l 1004) ∧ (ρ.i .i64 1001) = (((ρ.l 1004)).length : Int) := kn.rows 4 _ _ _ _ _ _ rfl
  have hr8 : Typed [(CK.int .i64)] (ρ.l 1008) ∧ (ρ.i .i64 1006) = (((ρ.l 1008)).length : Int) := kn.rows 8 _ _ _ _ _ _ rfl
  have hF : ρ.z.F = own.Φ := kn.F
  simp only [h_nil, h_cons, d_le, d_eq, d_not, d_var, d_lit, d_cel, d_leq, d_fn, d_and, d_iff, IE.den, LE.den, AL.den, lenV, true_and, and_true, hF, pb1, pb2, pb3, pi1, pi2, pl2] at hp
  obtain ⟨p1, p2, p3, p4, p5, p6, p7, p8, p9, p10, p11, p12, p13, p14, p15, p16, p17⟩ := hp
  refine (show ((ρ.l 1004) = (ρ.l 1008)) ∧ (((ρ.i .i64 1001).toNat - ((ρ.i .i64 1009) + (1 : Int)).toNat : Nat) < (ρ.i .i64 1001).toNat - (ρ.i .i64 1009).toNat) from ?_)
  exact ⟨hi, by omega⟩
theorem vcfirst15_2 : VC (T own.Φ cFirst1.roms [cWorks, cRight, cRRight, cSi, cHop, cRHop]) invfirst1 msfirst1 5 tfirst15 wfirst15_2 := by
  intro ρ kn hi hp
  have hi : (ρ.l 1004) = (ρ.l 1008) := hi
  have hr4 : Typed [(CK.int .i64)] (ρ.l 1004) ∧ (ρ.i .i64 1001) = (((ρ.l 1004)).length : Int) := kn.rows 4 _ _ _ _ _ _ rfl
  have hr8 : Typed [(CK.int .i64)] (ρ.l 1008) ∧ (ρ.i .i64 1006) = (((ρ.l 1008)).length : Int) := kn.rows 8 _ _ _ _ _ _ rfl
  have hF : ρ.z.F = own.Φ := kn.F
  simp only [h_nil, h_cons, d_le, d_eq, d_not, d_var, d_lit, d_cel, d_leq, d_fn, d_and, d_iff, IE.den, LE.den, AL.den, lenV, true_and, and_true, hF, pb1, pb2, pb3, pi1, pi2, pl2] at hp
  obtain ⟨p1, p2, p3, p4, p5, p6, p7, p8, p9, p10, p11, p12, p13, p14, p15, p16, p17⟩ := hp
  exfalso
  exact p1 (by rw [hi])
theorem vcsfirst10 : ∀ v ∈ vwfirst1 0, VC (T own.Φ cFirst1.roms [cWorks, cRight, cRRight, cSi, cHop, cRHop]) invfirst1 msfirst1 0 (startF 5 cFirst1.pat (.lit true :: cFirst1.pre)) v := all_cons vcfirst10_0 (all_cons vcfirst10_1 (all_cons vcfirst10_2 (all_cons vcfirst10_3 (all_cons vcfirst10_4 (all_cons vcfirst10_5 (all_cons vcfirst10_6 (all_cons vcfirst10_7 (all_cons vcfirst10_8 (all_cons vcfirst10_9 (all_cons vcfirst10_10 (all_cons vcfirst10_11 (all_cons vcfirst10_12 (all_nil)))))))))))))
theorem okfirst10 : cfgOk (startF 5 cFirst1.pat (.lit true :: cFirst1.pre)) = true := by kernel_rfl
theorem sgfirst10 : segL cFirst1.roms cFirst1 (seg (T own.Φ cFirst1.roms [cWorks, cRight, cRRight, cSi, cHop, cRHop]) selfirst1 3000 tmfirst1 (startF 5 cFirst1.pat (.lit true :: cFirst1.pre))) = (true, codesR tmfirst1 (views (seg (T own.Φ cFirst1.roms [cWorks, cRight, cRRight, cSi, cHop, cRHop]) selfirst1 3000 tmfirst1 (startF 5 cFirst1.pat (.lit true :: cFirst1.pre)))), vwfirst1 0) := by kernel_rfl
theorem vcsfirst11 : ∀ v ∈ vwfirst1 1, VC (T own.Φ cFirst1.roms [cWorks, cRight, cRRight, cSi, cHop, cRHop]) invfirst1 msfirst1 1 tfirst11 v := all_cons vcfirst11_0 (all_cons vcfirst11_1 (all_nil))
theorem okfirst11 : cfgOk tfirst11 = true := by kernel_rfl
theorem sgfirst11 : segL cFirst1.roms cFirst1 (seg (T own.Φ cFirst1.roms [cWorks, cRight, cRRight, cSi, cHop, cRHop]) selfirst1 3000 tmfirst1 tfirst11) = (true, codesR tmfirst1 (views (seg (T own.Φ cFirst1.roms [cWorks, cRight, cRRight, cSi, cHop, cRHop]) selfirst1 3000 tmfirst1 tfirst11)), vwfirst1 1) := by kernel_rfl
theorem vcsfirst12 : ∀ v ∈ vwfirst1 2, VC (T own.Φ cFirst1.roms [cWorks, cRight, cRRight, cSi, cHop, cRHop]) invfirst1 msfirst1 2 tfirst12 v := all_cons vcfirst12_0 (all_cons vcfirst12_1 (all_cons vcfirst12_2 (all_nil)))
theorem okfirst12 : cfgOk tfirst12 = true := by kernel_rfl
theorem sgfirst12 : segL cFirst1.roms cFirst1 (seg (T own.Φ cFirst1.roms [cWorks, cRight, cRRight, cSi, cHop, cRHop]) selfirst1 3000 tmfirst1 tfirst12) = (true, codesR tmfirst1 (views (seg (T own.Φ cFirst1.roms [cWorks, cRight, cRRight, cSi, cHop, cRHop]) selfirst1 3000 tmfirst1 tfirst12)), vwfirst1 2) := by kernel_rfl
theorem vcsfirst13 : ∀ v ∈ vwfirst1 3, VC (T own.Φ cFirst1.roms [cWorks, cRight, cRRight, cSi, cHop, cRHop]) invfirst1 msfirst1 3 tfirst13 v := all_cons vcfirst13_0 (all_cons vcfirst13_1 (all_nil))
theorem okfirst13 : cfgOk tfirst13 = true := by kernel_rfl
theorem sgfirst13 : segL cFirst1.roms cFirst1 (seg (T own.Φ cFirst1.roms [cWorks, cRight, cRRight, cSi, cHop, cRHop]) selfirst1 3000 tmfirst1 tfirst13) = (true, codesR tmfirst1 (views (seg (T own.Φ cFirst1.roms [cWorks, cRight, cRRight, cSi, cHop, cRHop]) selfirst1 3000 tmfirst1 tfirst13)), vwfirst1 3) := by kernel_rfl
theorem vcsfirst14 : ∀ v ∈ vwfirst1 4, VC (T own.Φ cFirst1.roms [cWorks, cRight, cRRight, cSi, cHop, cRHop]) invfirst1 msfirst1 4 tfirst14 v := all_cons vcfirst14_0 (all_cons vcfirst14_1 (all_cons vcfirst14_2 (all_cons vcfirst14_3 (all_nil))))
theorem okfirst14 : cfgOk tfirst14 = true := by kernel_rfl
theorem sgfirst14 : segL cFirst1.roms cFirst1 (seg (T own.Φ cFirst1.roms [cWorks, cRight, cRRight, cSi, cHop, cRHop]) selfirst1 3000 tmfirst1 tfirst14) = (true, codesR tmfirst1 (views (seg (T own.Φ cFirst1.roms [cWorks, cRight, cRRight, cSi, cHop, cRHop]) selfirst1 3000 tmfirst1 tfirst14)), vwfirst1 4) := by kernel_rfl
theorem vcsfirst15 : ∀ v ∈ vwfirst1 5, VC (T own.Φ cFirst1.roms [cWorks, cRight, cRRight, cSi, cHop, cRHop]) invfirst1 msfirst1 5 tfirst15 v := all_cons vcfirst15_0 (all_cons vcfirst15_1 (all_cons vcfirst15_2 (all_nil)))
theorem okfirst15 : cfgOk tfirst15 = true := by kernel_rfl
theorem sgfirst15 : segL cFirst1.roms cFirst1 (seg (T own.Φ cFirst1.roms [cWorks, cRight, cRRight, cSi, cHop, cRHop]) selfirst1 3000 tmfirst1 tfirst15) = (true, codesR tmfirst1 (views (seg (T own.Φ cFirst1.roms [cWorks, cRight, cRRight, cSi, cHop, cRHop]) selfirst1 3000 tmfirst1 tfirst15)), vwfirst1 5) := by kernel_rfl
theorem lnfirst10 : ∀ ρ, Known (T own.Φ cFirst1.roms [cWorks, cRight, cRRight, cSi, cHop, cRHop]) (startF 5 cFirst1.pat (.lit true :: cFirst1.pre)) ρ → invfirst1 0 ρ.lt → Holds ρ (leanOf (Cfg.pc (startF 5 cFirst1.pat (.lit true :: cFirst1.pre)))) := by
  intro ρ _ _
  exact (show Holds ρ [] from fun p hp => by cases hp)
theorem lnfirst11 : ∀ ρ, Known (T own.Φ cFirst1.roms [cWorks, cRight, cRRight, cSi, cHop, cRHop]) tfirst11 ρ → invfirst1 1 ρ.lt → Holds ρ (leanOf (Cfg.pc tfirst11)) := by
  intro ρ kn hi
  refine (show Holds ρ [.le (.var .i64 1000) (.lit 1)] from ?_)
  have hi : butN (ρ.i .i64 4) (ρ.i .i64 1000).toNat = [] := hi
  have hF : ρ.z.F = own.Φ := kn.F
  simp only [h_nil, h_cons, d_le, d_eq, d_not, d_var, d_lit, d_cel, d_leq, d_fn, d_and, d_iff, IE.den, LE.den, AL.den, lenV, true_and, and_true, hF, pb1, pb2, pb3, pi1, pi2, pl2]
  refine Int.not_lt.1 fun h => ?_
  have := but_two (m := ρ.i .i64 4) (show 2 ≤ ρ.i .i64 1000 by omega)
  rw [hi] at this
  simp at this
theorem lnfirst12 : ∀ ρ, Known (T own.Φ cFirst1.roms [cWorks, cRight, cRRight, cSi, cHop, cRHop]) tfirst12 ρ → invfirst1 2 ρ.lt → Holds ρ (leanOf (Cfg.pc tfirst12)) := by
  intro ρ _ _
  exact (show Holds ρ [] from fun p hp => by cases hp)
theorem lnfirst13 : ∀ ρ, Known (T own.Φ cFirst1.roms [cWorks, cRight, cRRight, cSi, cHop, cRHop]) tfirst13 ρ → invfirst1 3 ρ.lt → Holds ρ (leanOf (Cfg.pc tfirst13)) := by
  intro ρ kn hi
  refine (show Holds ρ [.le (.var .i64 1005) (.lit 1), .le (.lit 1) (.var .i64 1001)] from ?_)
  have hi : (ρ.l 1004) = butN (ρ.i .i64 4) (ρ.i .i64 1).toNat ∧ butN (ρ.i .i64 4) (ρ.i .i64 1005).toNat = [] ∧ 2 ≤ (ρ.i .i64 1) := hi
  have hF : ρ.z.F = own.Φ := kn.F
  simp only [h_nil, h_cons, d_le, d_eq, d_not, d_var, d_lit, d_cel, d_leq, d_fn, d_and, d_iff, IE.den, LE.den, AL.den, lenV, true_and, and_true, hF, pb1, pb2, pb3, pi1, pi2, pl2]
  have hr4 : Typed [CK.int .i64] (ρ.l 1004) ∧ (ρ.i .i64 1001) = ((ρ.l 1004).length : Int) := kn.rows 4 _ _ _ _ _ _ rfl
  refine ⟨Int.not_lt.1 fun h => ?_, ?_⟩
  · have := but_two (m := ρ.i .i64 4) (show 2 ≤ ρ.i .i64 1005 by omega)
    rw [hi.2.1] at this
    simp at this
  · have := but_two (m := ρ.i .i64 4) (show 2 ≤ ρ.i .i64 1 from hi.2.2)
    rw [hr4.2, hi.1]
    exact this
theorem lnfirst14 : ∀ ρ, Known (T own.Φ cFirst1.roms [cWorks, cRight, cRRight, cSi, cHop, cRHop]) tfirst14 ρ → invfirst1 4 ρ.lt → Holds ρ (leanOf (Cfg.pc tfirst14)) := by
  intro ρ _ _
  exact (show Holds ρ [] from fun p hp => by cases hp)
theorem lnfirst15 : ∀ ρ, Known (T own.Φ cFirst1.roms [cWorks, cRight, cRRight, cSi, cHop, cRHop]) tfirst15 ρ → invfirst1 5 ρ.lt → Holds ρ (leanOf (Cfg.pc tfirst15)) := by
  intro ρ _ _
  exact (show Holds ρ [] from fun p hp => by cases hp)
theorem told_first1 : Sx.Told own.Φ cFirst1 := by
  refine told_of (cs := [cWorks, cRight, cRRight, cSi, cHop, cRHop]) (all_cons told_works (all_cons told_right (all_cons told_rright (all_cons told_si (all_cons told_hop (all_cons told_rhop (all_nil))))))) (sel := selfirst1) 3000 tmfirst1 invfirst1 msfirst1 vwfirst1 0 (pc0 := (.lit true :: cFirst1.pre)) (by kernel_rfl) (by kernel_rfl) (by kernel_rfl) (post_nil rfl) ?_ ?_ ?_ rfl (fun ρ _ h => h.cons (p := .lit true) (by simp only [BE.den])) (fun _ _ _ _ => trivial) ?_
  · intro k C h
    have := lk_mem h
    simp only [tmfirst1, List.mem_cons, Prod.mk.injEq, List.not_mem_nil, or_false] at this
    rcases this with ⟨rfl, rfl⟩ | ⟨rfl, rfl⟩ | ⟨rfl, rfl⟩ | ⟨rfl, rfl⟩ | ⟨rfl, rfl⟩ | ⟨rfl, rfl⟩
    · exact okfirst10
    · exact okfirst11
    · exact okfirst12
    · exact okfirst13
    · exact okfirst14
    · exact okfirst15
  · intro k C h
    have := lk_mem h
    simp only [tmfirst1, List.mem_cons, Prod.mk.injEq, List.not_mem_nil, or_false] at this
    rcases this with ⟨rfl, rfl⟩ | ⟨rfl, rfl⟩ | ⟨rfl, rfl⟩ | ⟨rfl, rfl⟩ | ⟨rfl, rfl⟩ | ⟨rfl, rfl⟩
    · exact sgfirst10
    · exact sgfirst11
    · exact sgfirst12
    · exact sgfirst13
    · exact sgfirst14
    · exact sgfirst15
  · intro k C h
    have := lk_mem h
    simp only [tmfirst1, List.mem_cons, Prod.mk.injEq, List.not_mem_nil, or_false] at this
    rcases this with ⟨rfl, rfl⟩ | ⟨rfl, rfl⟩ | ⟨rfl, rfl⟩ | ⟨rfl, rfl⟩ | ⟨rfl, rfl⟩ | ⟨rfl, rfl⟩
    · exact vcsfirst10
    · exact vcsfirst11
    · exact vcsfirst12
    · exact vcsfirst13
    · exact vcsfirst14
    · exact vcsfirst15
  · intro k C h
    have := lk_mem h
    simp only [tmfirst1, List.mem_cons, Prod.mk.injEq, List.not_mem_nil, or_false] at this
    rcases this with ⟨rfl, rfl⟩ | ⟨rfl, rfl⟩ | ⟨rfl, rfl⟩ | ⟨rfl, rfl⟩ | ⟨rfl, rfl⟩ | ⟨rfl, rfl⟩
    · exact lnfirst10
    · exact lnfirst11
    · exact lnfirst12
    · exact lnfirst13
    · exact lnfirst14
    · exact lnfirst15
noncomputable section
def tfirst21 : Cfg := { top := ⟨21, over (opqS 10000 46) [(1, (SV.int .i64 (IE.var .i64 4))), (10, (SV.const (Go.Value.slice none 0 0))), (33, (SV.int .i64 (IE.var .i64 1))), (34, (SV.int .i64 (IE.var .i64 1000)))], ogt (loopTodo (bodyOf (T own.Φ [] []) 21) 0), [], false, none⟩, rest := [⟨5, over (opqS 30000 59) [(3, (SV.ptr 0 0)), (4, (SV.ptr 1 0)), (5, (SV.ptr 2 0))], ogt (callTodo (bodyOf (T own.Φ [] []) 5) 1 [6, 7, 8, 9, 10, 11]), [], false, none⟩], heap := [(0, .cells [(SV.int .i64 (IE.var .i64 1)), (SV.int .i64 (IE.var .i64 2)), (SV.int .i64 (IE.var .i64 3))] 23), (1, .cells [(SV.int .i64 (IE.var .i64 4)), (SV.bool (BE.var 1))] 41), (2, .cells [(SV.int .i64 (IE.var .i64 5)), (SV.int .i64 (IE.var .i64 6))] 25)], next := 3, pc := .lit true :: ([] ++ [(BE.eq (IE.var .i64 5) (IE.var .i64 4)), (BE.not (BE.var 1)), (BE.le (IE.lit 2) (IE.var .i64 1)), (BE.le (IE.lit 0) (IE.var .i64 4)), (BE.le (IE.var .i64 1) (IE.lit 64)), (BE.fn 1 (AL.int .i64 (IE.var .i64 2) (AL.int .i64 (IE.var .i64 3) AL.nil))), (BE.not (BE.le (IE.var .i64 1) (IE.var .i64 5))), (BE.fn 2 (AL.int .i64 (IE.var .i64 6) AL.nil)), (BE.le (IE.lit 0) (IE.var .i64 1000))] ++ (.and (.lit true) (.lit true)) :: [.le (.var .i64 1000) (.lit 1)]) }
def tfirst22 : Cfg := { top := ⟨21, over (opqS 10000 46) [(1, (SV.int .i64 (IE.var .i64 4))), (10, (SV.sll 4 5 1 (IE.lit 0) (IE.var .i64 1001) none)), (33, (SV.int .i64 (IE.var .i64 1))), (34, (SV.int .i64 (IE.var .i64 1002)))], ogt (loopTodo (bodyOf (T own.Φ [] []) 21) 0), [], false, none⟩, rest := [⟨5, over (opqS 30000 59) [(3, (SV.ptr 0 0)), (4, (SV.ptr 1 0)), (5, (SV.ptr 2 0))], ogt (callTodo (bodyOf (T own.Φ [] []) 5) 1 [6, 7, 8, 9, 10, 11]), [], false, none⟩], heap := [(4, .rowl (LE.var 1004) (IE.var .i64 1001) [(CK.int .i64)] 3 5 1), (0, .cells [(SV.int .i64 (IE.var .i64 1)), (SV.int .i64 (IE.var .i64 2)), (SV.int .i64 (IE.var .i64 3))] 23), (1, .cells [(SV.int .i64 (IE.var .i64 4)), (SV.bool (BE.var 1))] 41), (2, .cells [(SV.int .i64 (IE.var .i64 5)), (SV.int .i64 (IE.var .i64 6))] 25)], next := 6, pc := .lit true :: ([] ++ [(BE.fn 2 (AL.int .i64 (IE.var .i64 6) AL.nil)), (BE.not (BE.le (IE.var .i64 1) (IE.var .i64 5))), (BE.fn 1 (AL.int .i64 (IE.var .i64 2) (AL.int .i64 (IE.var .i64 3) AL.nil))), (BE.le (IE.var .i64 1) (IE.lit 64)), (BE.le (IE.lit 0) (IE.var .i64 4)), (BE.le (IE.lit 2) (IE.var .i64 1)), (BE.not (BE.var 1)), (BE.eq (IE.var .i64 5) (IE.var .i64 4)), (BE.le (IE.lit 0) (IE.var .i64 1001)), (BE.le (IE.var .i64 1001) (IE.var .i64 1002))]) }
def tfirst23 : Cfg := { top := ⟨22, over (opqS 10000 47) [(1, (SV.int .i64 (IE.var .i64 4))), (4, (SV.ptr 6 0)), (10, (SV.const (Go.Value.slice none 0 0))), (11, (SV.int .i64 (IE.var .i64 1005)))], ogt (loopTodo (bodyOf (T own.Φ [] []) 22) 0), [], false, none⟩, rest := [⟨5, over (opqS 30000 59) [(7, (SV.sll 4 5 1 (IE.lit 0) (IE.var .i64 1001) none)), (8, (SV.int .i64 (IE.lit 0)))], ogt (callTodo (bodyOf (T own.Φ [] []) 5) 2 [6, 7, 8, 9, 10, 11]), [], false, none⟩], heap := [(6, .cells [(SV.int .i64 (IE.var .i64 1)), (SV.int .i64 (IE.var .i64 2)), (SV.int .i64 (IE.var .i64 3))] 23), (4, .rowl (LE.var 1004) (IE.var .i64 1001) [(CK.int .i64)] 3 5 1)], next := 7, pc := .lit true :: ([] ++ [(BE.eq (IE.var .i64 5) (IE.var .i64 4)), (BE.not (BE.var 1)), (BE.le (IE.lit 2) (IE.var .i64 1)), (BE.le (IE.lit 0) (IE.var .i64 4)), (BE.le (IE.var .i64 1) (IE.lit 64)), (BE.fn 1 (AL.int .i64 (IE.var .i64 2) (AL.int .i64 (IE.var .i64 3) AL.nil))), (BE.not (BE.le (IE.var .i64 1) (IE.var .i64 5))), (BE.fn 2 (AL.int .i64 (IE.var .i64 6) AL.nil)), (BE.le (IE.lit 0) (IE.var .i64 1001)), (BE.le (IE.lit 0) (IE.var .i64 1005))] ++ (.and (.lit true) (.lit true)) :: [.le (.var .i64 1005) (.lit 1), .le (.lit 1) (.var .i64 1001)]) }
def tfirst24 : Cfg := { top := ⟨22, over (opqS 10000 47) [(1, (SV.int .i64 (IE.var .i64 4))), (4, (SV.ptr 6 0)), (10, (SV.sll 8 9 1 (IE.lit 0) (IE.var .i64 1006) none)), (11, (SV.int .i64 (IE.var .i64 1007)))], ogt (loopTodo (bodyOf (T own.Φ [] []) 22) 0), [], false, none⟩, rest := [⟨5, over (opqS 30000 59) [(7, (SV.sll 4 5 1 (IE.lit 0) (IE.var .i64 1001) none)), (8, (SV.int .i64 (IE.lit 0)))], ogt (callTodo (bodyOf (T own.Φ [] []) 5) 2 [6, 7, 8, 9, 10, 11]), [], false, none⟩], heap := [(6, .cells [(SV.int .i64 (IE.var .i64 1)), (SV.int .i64 (IE.var .i64 2)), (SV.int .i64 (IE.var .i64 3))] 23), (8, .rowl (LE.var 1008) (IE.var .i64 1006) [(CK.int .i64)] 3 9 1), (4, .rowl (LE.var 1004) (IE.var .i64 1001) [(CK.int .i64)] 3 5 1)], next := 10, pc := .lit true :: ([] ++ [(BE.fn 2 (AL.int .i64 (IE.var .i64 6) AL.nil)), (BE.not (BE.le (IE.var .i64 1) (IE.var .i64 5))), (BE.fn 1 (AL.int .i64 (IE.var .i64 2) (AL.int .i64 (IE.var .i64 3) AL.nil))), (BE.le (IE.var .i64 1) (IE.lit 64)), (BE.le (IE.lit 0) (IE.var .i64 4)), (BE.le (IE.lit 2) (IE.var .i64 1)), (BE.not (BE.var 1)), (BE.eq (IE.var .i64 5) (IE.var .i64 4)), (BE.le (IE.lit 0) (IE.var .i64 1001)), (BE.le (IE.lit 1) (IE.var .i64 1001)), (BE.le (IE.lit 0) (IE.var .i64 1006)), (BE.le (IE.var .i64 1006) (IE.var .i64 1007))]) }
def tfirst25 : Cfg := { top := ⟨5, over (opqS 10000 59) [(7, (SV.sll 4 5 1 (IE.lit 0) (IE.var .i64 1001) none)), (9, (SV.sll 8 9 1 (IE.lit 0) (IE.var .i64 1006) none)), (11, (SV.int .i64 (IE.var .i64 1009)))], ogt (loopTodo (bodyOf (T own.Φ [] []) 5) 0), [], false, none⟩, rest := [], heap := [(4, .rowl (LE.var 1004) (IE.var .i64 1001) [(CK.int .i64)] 3 5 1), (8, .rowl (LE.var 1008) (IE.var .i64 1006) [(CK.int .i64)] 3 9 1)], next := 10, pc := .lit true :: ([] ++ [(BE.eq (IE.var .i64 5) (IE.var .i64 4)), (BE.not (BE.var 1)), (BE.le (IE.lit 2) (IE.var .i64 1)), (BE.le (IE.lit 0) (IE.var .i64 4)), (BE.le (IE.var .i64 1) (IE.lit 64)), (BE.fn 1 (AL.int .i64 (IE.var .i64 2) (AL.int .i64 (IE.var .i64 3) AL.nil))), (BE.not (BE.le (IE.var .i64 1) (IE.var .i64 5))), (BE.fn 2 (AL.int .i64 (IE.var .i64 6) AL.nil)), (BE.eq (IE.var .i64 1001) (IE.var .i64 1006)), (BE.le (IE.lit 1) (IE.var .i64 1001)), (BE.le (IE.var .i64 1001) (IE.var .i64 1006)), (BE.le (IE.var .i64 1006) (IE.var .i64 1001)), (BE.le (IE.lit 0) (IE.var .i64 1009)), (BE.le (IE.var .i64 1009) (IE.var .i64 1006))]) }
def tmfirst2 : List (Nat × Cfg) := [(0, startF 5 cFirst2.pat (.lit true :: cFirst2.pre)), (1, tfirst21), (2, tfirst22), (3, tfirst23), (4, tfirst24), (5, tfirst25)]
def selfirst2 : Sel := [(21, 1, 1281001, 1), (21, 1, 1282001, 2), (22, 1, 1281001, 3), (22, 1, 1282001, 4), (5, 1, 1273000, 5)]
def wfirst20_0 : VW := (VW.done [(BE.le (IE.var .i64 1) (IE.var .i64 5)), (BE.fn 1 (AL.int .i64 (IE.var .i64 2) (AL.int .i64 (IE.var .i64 3) AL.nil))), (BE.le (IE.var .i64 1) (IE.lit 64)), (BE.le (IE.lit 0) (IE.var .i64 4)), (BE.lit true), (BE.le (IE.lit 2) (IE.var .i64 1)), (BE.not (BE.var 1)), (BE.eq (IE.var .i64 5) (IE.var .i64 4))] (some []))
def wfirst20_1 : VW := (VW.cut 1 [(BE.fn 2 (AL.int .i64 (IE.var .i64 6) AL.nil)), (BE.not (BE.le (IE.var .i64 1) (IE.var .i64 5))), (BE.fn 1 (AL.int .i64 (IE.var .i64 2) (AL.int .i64 (IE.var .i64 3) AL.nil))), (BE.le (IE.var .i64 1) (IE.lit 64)), (BE.le (IE.lit 0) (IE.var .i64 4)), (BE.lit true), (BE.le (IE.lit 2) (IE.var .i64 1)), (BE.not (BE.var 1)), (BE.eq (IE.var .i64 5) (IE.var .i64 4))] (Sx.Sub.mk [(.i64, (1000, (IE.lit 0)))] [] [] [] [] []))
def wfirst20_2 : VW := (VW.done [(BE.not (BE.fn 2 (AL.int .i64 (IE.var .i64 6) AL.nil))), (BE.not (BE.le (IE.var .i64 1) (IE.var .i64 5))), (BE.fn 1 (AL.int .i64 (IE.var .i64 2) (AL.int .i64 (IE.var .i64 3) AL.nil))), (BE.le (IE.var .i64 1) (IE.lit 64)), (BE.le (IE.lit 0) (IE.var .i64 4)), (BE.lit true), (BE.le (IE.lit 2) (IE.var .i64 1)), (BE.not (BE.var 1)), (BE.eq (IE.var .i64 5) (IE.var .i64 4))] (some []))
def wfirst20_3 : VW := (VW.done [(BE.not (BE.fn 1 (AL.int .i64 (IE.var .i64 2) (AL.int .i64 (IE.var .i64 3) AL.nil)))), (BE.le (IE.var .i64 1) (IE.lit 64)), (BE.le (IE.lit 0) (IE.var .i64 4)), (BE.lit true), (BE.le (IE.lit 2) (IE.var .i64 1)), (BE.not (BE.var 1)), (BE.eq (IE.var .i64 5) (IE.var .i64 4))] (some []))
def wfirst20_4 : VW := (VW.done [(BE.not (BE.le (IE.var .i64 1) (IE.lit 64))), (BE.le (IE.lit 0) (IE.var .i64 4)), (BE.lit true), (BE.le (IE.lit 2) (IE.var .i64 1)), (BE.not (BE.var 1)), (BE.eq (IE.var .i64 5) (IE.var .i64 4))] (some []))
def wfirst20_5 : VW := (VW.done [(BE.not (BE.le (IE.lit 0) (IE.var .i64 4))), (BE.lit true), (BE.le (IE.lit 2) (IE.var .i64 1)), (BE.not (BE.var 1)), (BE.eq (IE.var .i64 5) (IE.var .i64 4))] (some []))
def vwfirst20 : List VW := [wfirst20_0, wfirst20_1, wfirst20_2, wfirst20_3, wfirst20_4, wfirst20_5]
def wfirst21_0 : VW := (VW.cut 1 [(BE.eq (IE.var .i64 1000) (IE.var .i64 4)), (BE.lit true), (BE.eq (IE.var .i64 5) (IE.var .i64 4)), (BE.not (BE.var 1)), (BE.le (IE.lit 2) (IE.var .i64 1)), (BE.le (IE.lit 0) (IE.var .i64 4)), (BE.le (IE.var .i64 1) (IE.lit 64)), (BE.fn 1 (AL.int .i64 (IE.var .i64 2) (AL.int .i64 (IE.var .i64 3) AL.nil))), (BE.not (BE.le (IE.var .i64 1) (IE.var .i64 5))), (BE.fn 2 (AL.int .i64 (IE.var .i64 6) AL.nil)), (BE.le (IE.lit 0) (IE.var .i64 1000)), (BE.and (BE.lit true) (BE.lit true)), (BE.le (IE.var .i64 1000) (IE.lit 1))] (Sx.Sub.mk [(.i64, (1000, (IE.add (IE.var .i64 1000) (IE.lit 1))))] [] [] [] [] []))
def wfirst21_1 : VW := (VW.cut 2 [(BE.not (BE.eq (IE.var .i64 1000) (IE.var .i64 4))), (BE.lit true), (BE.eq (IE.var .i64 5) (IE.var .i64 4)), (BE.not (BE.var 1)), (BE.le (IE.lit 2) (IE.var .i64 1)), (BE.le (IE.lit 0) (IE.var .i64 4)), (BE.le (IE.var .i64 1) (IE.lit 64)), (BE.fn 1 (AL.int .i64 (IE.var .i64 2) (AL.int .i64 (IE.var .i64 3) AL.nil))), (BE.not (BE.le (IE.var .i64 1) (IE.var .i64 5))), (BE.fn 2 (AL.int .i64 (IE.var .i64 6) AL.nil)), (BE.le (IE.lit 0) (IE.var .i64 1000)), (BE.and (BE.lit true) (BE.lit true)), (BE.le (IE.var .i64 1000) (IE.lit 1))] (Sx.Sub.mk [(.i64, (1002, (IE.add (IE.var .i64 1000) (IE.lit 1)))), (.i64, (1001, (IE.lit 1)))] [] [(1004, (LE.one (AL.int .i64 (IE.var .i64 1000) AL.nil)))] [] [] []))
def vwfirst21 : List VW := [wfirst21_0, wfirst21_1]
def wfirst22_0 : VW := (VW.cut 3 [(BE.le (IE.var .i64 1) (IE.var .i64 1002)), (BE.lit true), (BE.fn 2 (AL.int .i64 (IE.var .i64 6) AL.nil)), (BE.not (BE.le (IE.var .i64 1) (IE.var .i64 5))), (BE.fn 1 (AL.int .i64 (IE.var .i64 2) (AL.int .i64 (IE.var .i64 3) AL.nil))), (BE.le (IE.var .i64 1) (IE.lit 64)), (BE.le (IE.lit 0) (IE.var .i64 4)), (BE.le (IE.lit 2) (IE.var .i64 1)), (BE.not (BE.var 1)), (BE.eq (IE.var .i64 5) (IE.var .i64 4)), (BE.le (IE.lit 0) (IE.var .i64 1001)), (BE.le (IE.var .i64 1001) (IE.var .i64 1002))] (Sx.Sub.mk [(.i64, (1001, (IE.var .i64 1001))), (.i64, (1005, (IE.lit 0)))] [] [(1004, (LE.var 1004))] [] [] []))
def wfirst22_1 : VW := (VW.cut 2 [(BE.eq (IE.var .i64 1002) (IE.var .i64 4)), (BE.not (BE.le (IE.var .i64 1) (IE.var .i64 1002))), (BE.lit true), (BE.fn 2 (AL.int .i64 (IE.var .i64 6) AL.nil)), (BE.not (BE.le (IE.var .i64 1) (IE.var .i64 5))), (BE.fn 1 (AL.int .i64 (IE.var .i64 2) (AL.int .i64 (IE.var .i64 3) AL.nil))), (BE.le (IE.var .i64 1) (IE.lit 64)), (BE.le (IE.lit 0) (IE.var .i64 4)), (BE.le (IE.lit 2) (IE.var .i64 1)), (BE.not (BE.var 1)), (BE.eq (IE.var .i64 5) (IE.var .i64 4)), (BE.le (IE.lit 0) (IE.var .i64 1001)), (BE.le (IE.var .i64 1001) (IE.var .i64 1002))] (Sx.Sub.mk [(.i64, (1002, (IE.add (IE.var .i64 1002) (IE.lit 1)))), (.i64, (1001, (IE.var .i64 1001)))] [] [(1004, (LE.var 1004))] [] [] []))
def wfirst22_2 : VW := (VW.cut 2 [(BE.not (BE.eq (IE.var .i64 1002) (IE.var .i64 4))), (BE.not (BE.le (IE.var .i64 1) (IE.var .i64 1002))), (BE.lit true), (BE.fn 2 (AL.int .i64 (IE.var .i64 6) AL.nil)), (BE.not (BE.le (IE.var .i64 1) (IE.var .i64 5))), (BE.fn 1 (AL.int .i64 (IE.var .i64 2) (AL.int .i64 (IE.var .i64 3) AL.nil))), (BE.le (IE.var .i64 1) (IE.lit 64)), (BE.le (IE.lit 0) (IE.var .i64 4)), (BE.le (IE.lit 2) (IE.var .i64 1)), (BE.not (BE.var 1)), (BE.eq (IE.var .i64 5) (IE.var .i64 4)), (BE.le (IE.lit 0) (IE.var .i64 1001)), (BE.le (IE.var .i64 1001) (IE.var .i64 1002))] (Sx.Sub.mk [(.i64, (1002, (IE.add (IE.var .i64 1002) (IE.lit 1)))), (.i64, (1001, (IE.add (IE.var .i64 1001) (IE.lit 1))))] [] [(1004, (LE.cat (LE.var 1004) (LE.one (AL.int .i64 (IE.var .i64 1002) AL.nil))))] [] [] []))
def vwfirst22 : List VW := [wfirst22_0, wfirst22_1, wfirst22_2]
def wfirst23_0 : VW := (VW.cut 3 [(BE.eq (IE.var .i64 1005) (IE.var .i64 4)), (BE.lit true), (BE.eq (IE.var .i64 5) (IE.var .i64 4)), (BE.not (BE.var 1)), (BE.le (IE.lit 2) (IE.var .i64 1)), (BE.le (IE.lit 0) (IE.var .i64 4)), (BE.le (IE.var .i64 1) (IE.lit 64)), (BE.fn 1 (AL.int .i64 (IE.var .i64 2) (AL.int .i64 (IE.var .i64 3) AL.nil))), (BE.not (BE.le (IE.var .i64 1) (IE.var .i64 5))), (BE.fn 2 (AL.int .i64 (IE.var .i64 6) AL.nil)), (BE.le (IE.lit 0) (IE.var .i64 1001)), (BE.le (IE.lit 0) (IE.var .i64 1005)), (BE.and (BE.lit true) (BE.lit true)), (BE.le (IE.var .i64 1005) (IE.lit 1)), (BE.le (IE.lit 1) (IE.var .i64 1001))] (Sx.Sub.mk [(.i64, (1001, (IE.var .i64 1001))), (.i64, (1005, (IE.add (IE.var .i64 1005) (IE.lit 1))))] [] [(1004, (LE.var 1004))] [] [] []))
def wfirst23_1 : VW := (VW.cut 4 [(BE.not (BE.eq (IE.var .i64 1005) (IE.var .i64 4))), (BE.lit true), (BE.eq (IE.var .i64 5) (IE.var .i64 4)), (BE.not (BE.var 1)), (BE.le (IE.lit 2) (IE.var .i64 1)), (BE.le (IE.lit 0) (IE.var .i64 4)), (BE.le (IE.var .i64 1) (IE.lit 64)), (BE.fn 1 (AL.int .i64 (IE.var .i64 2) (AL.int .i64 (IE.var .i64 3) AL.nil))), (BE.not (BE.le (IE.var .i64 1) (IE.var .i64 5))), (BE.fn 2 (AL.int .i64 (IE.var .i64 6) AL.nil)), (BE.le (IE.lit 0) (IE.var .i64 1001)), (BE.le (IE.lit 0) (IE.var .i64 1005)), (BE.and (BE.lit true) (BE.lit true)), (BE.le (IE.var .i64 1005) (IE.lit 1)), (BE.le (IE.lit 1) (IE.var .i64 1001))] (Sx.Sub.mk [(.i64, (1001, (IE.var .i64 1001))), (.i64, (1007, (IE.add (IE.var .i64 1005) (IE.lit 1)))), (.i64, (1006, (IE.lit 1)))] [] [(1004, (LE.var 1004)), (1008, (LE.one (AL.int .i64 (IE.var .i64 1005) AL.nil)))] [] [] []))
def vwfirst23 : List VW := [wfirst23_0, wfirst23_1]
def wfirst24_0 : VW := (VW.cut 5 [(BE.eq (IE.var .i64 1001) (IE.var .i64 1006)), (BE.le (IE.var .i64 1) (IE.var .i64 1007)), (BE.lit true), (BE.fn 2 (AL.int .i64 (IE.var .i64 6) AL.nil)), (BE.not (BE.le (IE.var .i64 1) (IE.var .i64 5))), (BE.fn 1 (AL.int .i64 (IE.var .i64 2) (AL.int .i64 (IE.var .i64 3) AL.nil))), (BE.le (IE.var .i64 1) (IE.lit 64)), (BE.le (IE.lit 0) (IE.var .i64 4)), (BE.le (IE.lit 2) (IE.var .i64 1)), (BE.not (BE.var 1)), (BE.eq (IE.var .i64 5) (IE.var .i64 4)), (BE.le (IE.lit 0) (IE.var .i64 1001)), (BE.le (IE.lit 1) (IE.var .i64 1001)), (BE.le (IE.lit 0) (IE.var .i64 1006)), (BE.le (IE.var .i64 1006) (IE.var .i64 1007))] (Sx.Sub.mk [(.i64, (1009, (IE.lit 0))), (.i64, (1006, (IE.var .i64 1006))), (.i64, (1001, (IE.var .i64 1001)))] [] [(1008, (LE.var 1008)), (1004, (LE.var 1004))] [] [] []))
def wfirst24_1 : VW := (VW.done [(BE.not (BE.eq (IE.var .i64 1001) (IE.var .i64 1006))), (BE.le (IE.var .i64 1) (IE.var .i64 1007)), (BE.lit true), (BE.fn 2 (AL.int .i64 (IE.var .i64 6) AL.nil)), (BE.not (BE.le (IE.var .i64 1) (IE.var .i64 5))), (BE.fn 1 (AL.int .i64 (IE.var .i64 2) (AL.int .i64 (IE.var .i64 3) AL.nil))), (BE.le (IE.var .i64 1) (IE.lit 64)), (BE.le (IE.lit 0) (IE.var .i64 4)), (BE.le (IE.lit 2) (IE.var .i64 1)), (BE.not (BE.var 1)), (BE.eq (IE.var .i64 5) (IE.var .i64 4)), (BE.le (IE.lit 0) (IE.var .i64 1001)), (BE.le (IE.lit 1) (IE.var .i64 1001)), (BE.le (IE.lit 0) (IE.var .i64 1006)), (BE.le (IE.var .i64 1006) (IE.var .i64 1007))] (some [(G.b (BE.lit true) (BE.lit false))]))
def wfirst24_2 : VW := (VW.cut 4 [(BE.eq (IE.var .i64 1007) (IE.var .i64 4)), (BE.not (BE.le (IE.var .i64 1) (IE.var .i64 1007))), (BE.lit true), (BE.fn 2 (AL.int .i64 (IE.var .i64 6) AL.nil)), (BE.not (BE.le (IE.var .i64 1) (IE.var .i64 5))), (BE.fn 1 (AL.int .i64 (IE.var .i64 2) (AL.int .i64 (IE.var .i64 3) AL.nil))), (BE.le (IE.var .i64 1) (IE.lit 64)), (BE.le (IE.lit 0) (IE.var .i64 4)), (BE.le (IE.lit 2) (IE.var .i64 1)), (BE.not (BE.var 1)), (BE.eq (IE.var .i64 5) (IE.var .i64 4)), (BE.le (IE.lit 0) (IE.var .i64 1001)), (BE.le (IE.lit 1) (IE.var .i64 1001)), (BE.le (IE.lit 0) (IE.var .i64 1006)), (BE.le (IE.var .i64 1006) (IE.var .i64 1007))] (Sx.Sub.mk [(.i64, (1001, (IE.var .i64 1001))), (.i64, (1007, (IE.add (IE.var .i64 1007) (IE.lit 1)))), (.i64, (1006, (IE.var .i64 1006)))] [] [(1004, (LE.var 1004)), (1008, (LE.var 1008))] [] [] []))
def wfirst24_3 : VW := (VW.cut 4 [(BE.not (BE.eq (IE.var .i64 1007) (IE.var .i64 4))), (BE.not (BE.le (IE.var .i64 1) (IE.var .i64 1007))), (BE.lit true), (BE.fn 2 (AL.int .i64 (IE.var .i64 6) AL.nil)), (BE.not (BE.le (IE.var .i64 1) (IE.var .i64 5))), (BE.fn 1 (AL.int .i64 (IE.var .i64 2) (AL.int .i64 (IE.var .i64 3) AL.nil))), (BE.le (IE.var .i64 1) (IE.lit 64)), (BE.le (IE.lit 0) (IE.var .i64 4)), (BE.le (IE.lit 2) (IE.var .i64 1)), (BE.not (BE.var 1)), (BE.eq (IE.var .i64 5) (IE.var .i64 4)), (BE.le (IE.lit 0) (IE.var .i64 1001)), (BE.le (IE.lit 1) (IE.var .i64 1001)), (BE.le (IE.lit 0) (IE.var .i64 1006)), (BE.le (IE.var .i64 1006) (IE.var .i64 1007))] (Sx.Sub.mk [(.i64, (1001, (IE.var .i64 1001))), (.i64, (1007, (IE.add (IE.var .i64 1007) (IE.lit 1)))), (.i64, (1006, (IE.add (IE.var .i64 1006) (IE.lit 1))))] [] [(1004, (LE.var 1004)), (1008, (LE.cat (LE.var 1008) (LE.one (AL.int .i64 (IE.var .i64 1007) AL.nil))))] [] [] []))
def vwfirst24 : List VW := [wfirst24_0, wfirst24_1, wfirst24_2, wfirst24_3]
def wfirst25_0 : VW := (VW.done [(BE.le (IE.var .i64 1001) (IE.var .i64 1009)), (BE.lit true), (BE.eq (IE.var .i64 5) (IE.var .i64 4)), (BE.not (BE.var 1)), (BE.le (IE.lit 2) (IE.var .i64 1)), (BE.le (IE.lit 0) (IE.var .i64 4)), (BE.le (IE.var .i64 1) (IE.lit 64)), (BE.fn 1 (AL.int .i64 (IE.var .i64 2) (AL.int .i64 (IE.var .i64 3) AL.nil))), (BE.not (BE.le (IE.var .i64 1) (IE.var .i64 5))), (BE.fn 2 (AL.int .i64 (IE.var .i64 6) AL.nil)), (BE.eq (IE.var .i64 1001) (IE.var .i64 1006)), (BE.le (IE.lit 1) (IE.var .i64 1001)), (BE.le (IE.var .i64 1001) (IE.var .i64 1006)), (BE.le (IE.var .i64 1006) (IE.var .i64 1001)), (BE.le (IE.lit 0) (IE.var .i64 1009)), (BE.le (IE.var .i64 1009) (IE.var .i64 1006))] (some []))
def wfirst25_1 : VW := (VW.cut 5 [(BE.eq (IE.cel .i64 (LE.var 1004) (IE.var .i64 1009) 0) (IE.cel .i64 (LE.var 1008) (IE.var .i64 1009) 0)), (BE.not (BE.le (IE.var .i64 1001) (IE.var .i64 1009))), (BE.lit true), (BE.eq (IE.var .i64 5) (IE.var .i64 4)), (BE.not (BE.var 1)), (BE.le (IE.lit 2) (IE.var .i64 1)), (BE.le (IE.lit 0) (IE.var .i64 4)), (BE.le (IE.var .i64 1) (IE.lit 64)), (BE.fn 1 (AL.int .i64 (IE.var .i64 2) (AL.int .i64 (IE.var .i64 3) AL.nil))), (BE.not (BE.le (IE.var .i64 1) (IE.var .i64 5))), (BE.fn 2 (AL.int .i64 (IE.var .i64 6) AL.nil)), (BE.eq (IE.var .i64 1001) (IE.var .i64 1006)), (BE.le (IE.lit 1) (IE.var .i64 1001)), (BE.le (IE.var .i64 1001) (IE.var .i64 1006)), (BE.le (IE.var .i64 1006) (IE.var .i64 1001)), (BE.le (IE.lit 0) (IE.var .i64 1009)), (BE.le (IE.var .i64 1009) (IE.var .i64 1006))] (Sx.Sub.mk [(.i64, (1009, (IE.add (IE.var .i64 1009) (IE.lit 1)))), (.i64, (1006, (IE.var .i64 1006))), (.i64, (1001, (IE.var .i64 1001)))] [] [(1008, (LE.var 1008)), (1004, (LE.var 1004))] [] [] []))
def wfirst25_2 : VW := (VW.done [(BE.not (BE.eq (IE.cel .i64 (LE.var 1004) (IE.var .i64 1009) 0) (IE.cel .i64 (LE.var 1008) (IE.var .i64 1009) 0))), (BE.not (BE.le (IE.var .i64 1001) (IE.var .i64 1009))), (BE.lit true), (BE.eq (IE.var .i64 5) (IE.var .i64 4)), (BE.not (BE.var 1)), (BE.le (IE.lit 2) (IE.var .i64 1)), (BE.le (IE.lit 0) (IE.var .i64 4)), (BE.le (IE.var .i64 1) (IE.lit 64)), (BE.fn 1 (AL.int .i64 (IE.var .i64 2) (AL.int .i64 (IE.var .i64 3) AL.nil))), (BE.not (BE.le (IE.var .i64 1) (IE.var .i64 5))), (BE.fn 2 (AL.int .i64 (IE.var .i64 6) AL.nil)), (BE.eq (IE.var .i64 1001) (IE.var .i64 1006)), (BE.le (IE.lit 1) (IE.var .i64 1001)), (BE.le (IE.var .i64 1001) (IE.var .i64 1006)), (BE.le (IE.var .i64 1006) (IE.var .i64 1001)), (BE.le (IE.lit 0) (IE.var .i64 1009)), (BE.le (IE.var .i64 1009) (IE.var .i64 1006))] (some [(G.b (BE.lit true) (BE.lit false))]))
def vwfirst25 : List VW := [wfirst25_0, wfirst25_1, wfirst25_2]
def vwfirst2 : Nat → List VW
  | 0 => vwfirst20
  | 1 => vwfirst21
  | 2 => vwfirst22
  | 3 => vwfirst23
  | 4 => vwfirst24
  | 5 => vwfirst25
  | _ => []
end
def invfirst2 : Nat → Lt → Prop
  | 1, l => butN (l.i .i64 4) (l.i .i64 1000).toNat = []
  | 2, l => (l.l 1004) = butN (l.i .i64 4) (l.i .i64 1002).toNat ∧ (l.i .i64 1002) ≤ (l.i .i64 1)
  | 3, l => (l.l 1004) = butN (l.i .i64 4) (l.i .i64 1).toNat ∧ butN (l.i .i64 4) (l.i .i64 1005).toNat = [] ∧ 2 ≤ (l.i .i64 1)
  | 4, l => (l.l 1004) = butN (l.i .i64 4) (l.i .i64 1).toNat ∧ (l.l 1008) = butN (l.i .i64 4) (l.i .i64 1007).toNat ∧ (l.i .i64 1007) ≤ (l.i .i64 1)
  | 5, l => (l.l 1004) = (l.l 1008)
  | _, _ => True
def msfirst2 : Nat → Lt → Nat
  | 0, l => 8 * ((l.i .i64 1).toNat + 2)
  | 1, l => 6 * ((l.i .i64 1).toNat + 2) + (((l.i .i64 1).toNat + 2) - (l.i .i64 1000).toNat)
  | 2, l => 5 * ((l.i .i64 1).toNat + 2) + (((l.i .i64 1).toNat + 2) - (l.i .i64 1002).toNat)
  | 3, l => (l.i .i64 1001).toNat + 2 * ((l.i .i64 1).toNat + 2) + (((l.i .i64 1).toNat + 2) - (l.i .i64 1005).toNat)
  | 4, l => (l.i .i64 1001).toNat + ((l.i .i64 1).toNat + 2) + (((l.i .i64 1).toNat + 2) - (l.i .i64 1007).toNat)
  | 5, l => (l.i .i64 1001).toNat - (l.i .i64 1009).toNat
  | _, _ => 0
theorem vcfirst20_0 : VC (T own.Φ cFirst2.roms [cWorks, cRight, cRRight, cSi, cHop, cRHop]) invfirst2 msfirst2 0 (startF 5 cFirst2.pat (.lit true :: cFirst2.pre)) wfirst20_0 := by
  intro ρ kn hi hp
  exact all_nil
theorem vcfirst20_1 : VC (T own.Φ cFirst2.roms [cWorks, cRight, cRRight, cSi, cHop, cRHop]) invfirst2 msfirst2 0 (startF 5 cFirst2.pat (.lit true :: cFirst2.pre)) wfirst20_1 := by
  intro ρ kn hi hp
  have hF : ρ.z.F = own.Φ := kn.F
  simp only [h_nil, h_cons, d_le, d_eq, d_not, d_var, d_lit, d_cel, d_leq, d_fn, d_and, d_iff, IE.den, LE.den, AL.den, lenV, true_and, and_true, hF, pb1, pb2, pb3, pi1, pi2, pl2] at hp
  obtain ⟨p1, p2, p3, p4, p5, p6, p7, p8⟩ := hp
  refine (show (butN (ρ.i .i64 4) (0 : Int).toNat = []) ∧ ((6 * ((ρ.i .i64 1).toNat + 2) + (((ρ.i .i64 1).toNat + 2) - (0 : Int).toNat) : Nat) < 8 * ((ρ.i .i64 1).toNat + 2)) from ?_)
  exact ⟨rfl, by omega⟩
theorem vcfirst20_2 : VC (T own.Φ cFirst2.roms [cWorks, cRight, cRRight, cSi, cHop, cRHop]) invfirst2 msfirst2 0 (startF 5 cFirst2.pat (.lit true :: cFirst2.pre)) wfirst20_2 := by
  intro ρ kn hi hp
  exact all_nil
theorem vcfirst20_3 : VC (T own.Φ cFirst2.roms [cWorks, cRight, cRRight, cSi, cHop, cRHop]) invfirst2 msfirst2 0 (startF 5 cFirst2.pat (.lit true :: cFirst2.pre)) wfirst20_3 := by
  intro ρ kn hi hp
  exact all_nil
theorem vcfirst20_4 : VC (T own.Φ cFirst2.roms [cWorks, cRight, cRRight, cSi, cHop, cRHop]) invfirst2 msfirst2 0 (startF 5 cFirst2.pat (.lit true :: cFirst2.pre)) wfirst20_4 := by
  intro ρ kn hi hp
  exact all_nil
theorem vcfirst20_5 : VC (T own.Φ cFirst2.roms [cWorks, cRight, cRRight, cSi, cHop, cRHop]) invfirst2 msfirst2 0 (startF 5 cFirst2.pat (.lit true :: cFirst2.pre)) wfirst20_5 := by
  intro ρ kn hi hp
  exact all_nil
theorem vcfirst21_0 : VC (T own.Φ cFirst2.roms [cWorks, cRight, cRRight, cSi, cHop, cRHop]) invfirst2 msfirst2 1 tfirst21 wfirst21_0 := by
  intro ρ kn hi hp
  have hi : butN (ρ.i .i64 4) (ρ.i .i64 1000).toNat = [] := hi
  have hF : ρ.z.F = own.Φ := kn.F
  simp only [h_nil, h_cons, d_le, d_eq, d_not, d_var, d_lit, d_cel, d_leq, d_fn, d_and, d_iff, IE.den, LE.den, AL.den, lenV, true_and, and_true, hF, pb1, pb2, pb3, pi1, pi2, pl2] at hp
  obtain ⟨p1, p2, p3, p4, p5, p6, p7, p8, p9, p10, p11⟩ := hp
  refine (show (butN (ρ.i .i64 4) ((ρ.i .i64 1000) + (1 : Int)).toNat = []) ∧ ((6 * ((ρ.i .i64 1).toNat + 2) + (((ρ.i .i64 1).toNat + 2) - ((ρ.i .i64 1000) + (1 : Int)).toNat) : Nat) < 6 * ((ρ.i .i64 1).toNat + 2) + (((ρ.i .i64 1).toNat + 2) - (ρ.i .i64 1000).toNat)) from ?_)
  exact ⟨by rw [but_e (by omega) (by assumption)]; exact hi, by omega⟩
theorem vcfirst21_1 : VC (T own.Φ cFirst2.roms [cWorks, cRight, cRRight, cSi, cHop, cRHop]) invfirst2 msfirst2 1 tfirst21 wfirst21_1 := by
  intro ρ kn hi hp
  have hi : butN (ρ.i .i64 4) (ρ.i .i64 1000).toNat = [] := hi
  have hF : ρ.z.F = own.Φ := kn.F
  simp only [h_nil, h_cons, d_le, d_eq, d_not, d_var, d_lit, d_cel, d_leq, d_fn, d_and, d_iff, IE.den, LE.den, AL.den, lenV, true_and, and_true, hF, pb1, pb2, pb3, pi1, pi2, pl2] at hp
  obtain ⟨p1, p2, p3, p4, p5, p6, p7, p8, p9, p10, p11⟩ := hp
  refine (show (([[Go.Value.int .i64 (ρ.i .i64 1000)]] : LV) = butN (ρ.i .i64 4) ((ρ.i .i64 1000) + (1 : Int)).toNat ∧ ((ρ.i .i64 1000) + (1 : Int)) ≤ (ρ.i .i64 1)) ∧ ((5 * ((ρ.i .i64 1).toNat + 2) + (((ρ.i .i64 1).toNat + 2) - ((ρ.i .i64 1000) + (1 : Int)).toNat) : Nat) < 6 * ((ρ.i .i64 1).toNat + 2) + (((ρ.i .i64 1).toNat + 2) - (ρ.i .i64 1000).toNat)) from ?_)
  exact ⟨⟨by rw [but_s (by omega) (by assumption), hi]; rfl, by omega⟩, by omega⟩
theorem vcfirst22_0 : VC (T own.Φ cFirst2.roms [cWorks, cRight, cRRight, cSi, cHop, cRHop]) invfirst2 msfirst2 2 tfirst22 wfirst22_0 := by
  intro ρ kn hi hp
  have hi : (ρ.l 1004) = butN (ρ.i .i64 4) (ρ.i .i64 1002).toNat ∧ (ρ.i .i64 1002) ≤ (ρ.i .i64 1) := hi
  have hr4 : Typed [(CK.int .i64)] (ρ.l 1004) ∧ (ρ.i .i64 1001) = (((ρ.l 1004)).length : Int) := kn.rows 4 _ _ _ _ _ _ rfl
  have hF : ρ.z.F = own.Φ := kn.F
  simp only [h_nil, h_cons, d_le, d_eq, d_not, d_var, d_lit, d_cel, d_leq, d_fn, d_and, d_iff, IE.den, LE.den, AL.den, lenV, true_and, and_true, hF, pb1, pb2, pb3, pi1, pi2, pl2] at hp
  obtain ⟨p1, p2, p3, p4, p5, p6, p7, p8, p9, p10, p11⟩ := hp
  refine (show ((ρ.l 1004) = butN (ρ.i .i64 4) (ρ.i .i64 1).toNat ∧ butN (ρ.i .i64 4) (0 : Int).toNat = [] ∧ 2 ≤ (ρ.i .i64 1)) ∧ (((ρ.i .i64 1001).toNat + 2 * ((ρ.i .i64 1).toNat + 2) + (((ρ.i .i64 1).toNat + 2) - (0 : Int).toNat) : Nat) < 5 * ((ρ.i .i64 1).toNat + 2) + (((ρ.i .i64 1).toNat + 2) - (ρ.i .i64 1002).toNat)) from ?_)
  exact ⟨⟨by rw [hi.1, show (ρ.i .i64 1002).toNat = (ρ.i .i64 1).toNat by omega], rfl, by omega⟩, by omega⟩
theorem vcfirst22_1 : VC (T own.Φ cFirst2.roms [cWorks, cRight, cRRight, cSi, cHop, cRHop]) invfirst2 msfirst2 2 tfirst22 wfirst22_1 := by
  intro ρ kn hi hp
  have hi : (ρ.l 1004) = butN (ρ.i .i64 4) (ρ.i .i64 1002).toNat ∧ (ρ.i .i64 1002) ≤ (ρ.i .i64 1) := hi
  have hr4 : Typed [(CK.int .i64)] (ρ.l 1004) ∧ (ρ.i .i64 1001) = (((ρ.l 1004)).length : Int) := kn.rows 4 _ _ _ _ _ _ rfl
  have hF : ρ.z.F = own.Φ := kn.F
  simp only [h_nil, h_cons, d_le, d_eq, d_not, d_var, d_lit, d_cel, d_leq, d_fn, d_and, d_iff, IE.den, LE.den, AL.den, lenV, true_and, and_true, hF, pb1, pb2, pb3, pi1, pi2, pl2] at hp
  obtain ⟨p1, p2, p3, p4, p5, p6, p7, p8, p9, p10, p11, p12⟩ := hp
  refine (show ((ρ.l 1004) = butN (ρ.i .i64 4) ((ρ.i .i64 1002) + (1 : Int)).toNat ∧ ((ρ.i .i64 1002) + (1 : Int)) ≤ (ρ.i .i64 1)) ∧ ((5 * ((ρ.i .i64 1).toNat + 2) + (((ρ.i .i64 1).toNat + 2) - ((ρ.i .i64 1002) + (1 : Int)).toNat) : Nat) < 5 * ((ρ.i .i64 1).toNat + 2) + (((ρ.i .i64 1).toNat + 2) - (ρ.i .i64 1002).toNat)) from ?_)
  exact ⟨⟨by rw [but_e (by omega) (by assumption)]; exact hi.1, by omega⟩, by omega⟩
theorem vcfirst22_2 : VC (T own.Φ cFirst2.roms [cWorks, cRight, cRRight, cSi, cHop, cRHop]) invfirst2 msfirst2 2 tfirst22 wfirst22_2 := by
  intro ρ kn hi hp
  have hi : (ρ.l 1004) = butN (ρ.i .i64 4) (ρ.i .i64 1002).toNat ∧ (ρ.i .i64 1002) ≤ (ρ.i .i64 1) := hi
  have hr4 : Typed [(CK.int .i64)] (ρ.l 1004) ∧ (ρ.i .i64 1001) = (((ρ.l 1004)).length : Int) := kn.rows 4 _ _ _ _ _ _ rfl
  have hF : ρ.z.F = own.Φ := kn.F
  simp only [h_nil, h_cons, d_le, d_eq, d_not, d_var, d_lit, d_cel, d_leq, d_fn, d_and, d_iff, IE.den, LE.den, AL.den, lenV, true_and, and_true, hF, pb1, pb2, pb3, pi1, pi2, pl2] at hp
  obtain ⟨p1, p2, p3, p4, p5, p6, p7, p8, p9, p10, p11, p12⟩ := hp
  refine (show (((ρ.l 1004) ++ ([[Go.Value.int .i64 (ρ.i .i64 1002)]] : LV)) = butN (ρ.i .i64 4) ((ρ.i .i64 1002) + (1 : Int)).toNat ∧ ((ρ.i .i64 1002) + (1 : Int)) ≤ (ρ.i .i64 1)) ∧ ((5 * ((ρ.i .i64 1).toNat + 2) + (((ρ.i .i64 1).toNat + 2) - ((ρ.i .i64 1002) + (1 : Int)).toNat) : Nat) < 5 * ((ρ.i .i64 1).toNat + 2) + (((ρ.i .i64 1).toNat + 2) - (ρ.i .i64 1002).toNat)) from ?_)
  exact ⟨⟨by rw [but_s (by omega) (by assumption), ← hi.1], by omega⟩, by omega⟩
theorem vcfirst23_0 : VC (T own.Φ cFirst2.roms [cWorks, cRight, cRRight, cSi, cHop, cRHop]) invfirst2 msfirst2 3 tfirst23 wfirst23_0 := by
  intro ρ kn hi hp
  have hi : (ρ.l 1004) = butN (ρ.i .i64 4) (ρ.i .i64 1).toNat ∧ butN (ρ.i .i64 4) (ρ.i .i64 1005).toNat = [] ∧ 2 ≤ (ρ.i .i64 1) := hi
  have hr4 : Typed [(CK.int .i64)] (ρ.l 1004) ∧ (ρ.i .i64 1001) = (((ρ.l 1004)).length : Int) := kn.rows 4 _ _ _ _ _ _ rfl
  have hF : ρ.z.F = own.Φ := kn.F
  simp only [h_nil, h_cons, d_le, d_eq, d_not, d_var, d_lit, d_cel, d_leq, d_fn, d_and, d_iff, IE.den, LE.den, AL.den, lenV, true_and, and_true, hF, pb1, pb2, pb3, pi1, pi2, pl2] at hp
  obtain ⟨p1, p2, p3, p4, p5, p6, p7, p8, p9, p10, p11, p12, p13⟩ := hp
  refine (show ((ρ.l 1004) = butN (ρ.i .i64 4) (ρ.i .i64 1).toNat ∧ butN (ρ.i .i64 4) ((ρ.i .i64 1005) + (1 : Int)).toNat = [] ∧ 2 ≤ (ρ.i .i64 1)) ∧ (((ρ.i .i64 1001).toNat + 2 * ((ρ.i .i64 1).toNat + 2) + (((ρ.i .i64 1).toNat + 2) - ((ρ.i .i64 1005) + (1 : Int)).toNat) : Nat) < (ρ.i .i64 1001).toNat + 2 * ((ρ.i .i64 1).toNat + 2) + (((ρ.i .i64 1).toNat + 2) - (ρ.i .i64 1005).toNat)) from ?_)
  exact ⟨⟨hi.1, by rw [but_e (by omega) (by assumption)]; exact hi.2.1, hi.2.2⟩, by omega⟩
theorem vcfirst23_1 : VC (T own.Φ cFirst2.roms [cWorks, cRight, cRRight, cSi, cHop, cRHop]) invfirst2 msfirst2 3 tfirst23 wfirst23_1 := by
  intro ρ kn hi hp
  have hi : (ρ.l 1004) = butN (ρ.i .i64 4) (ρ.i .i64 1).toNat ∧ butN (ρ.i .i64 4) (ρ.i .i64 1005).toNat = [] ∧ 2 ≤ (ρ.i .i64 1) := hi
  have hr4 : Typed [(CK.int .i64)] (ρ.l 1004) ∧ (ρ.i .i64 1001) = (((ρ.l 1004)).length : Int) := kn.rows 4 _ _ _ _ _ _ rfl
  have hF : ρ.z.F = own.Φ := kn.F
  simp only [h_nil, h_cons, d_le, d_eq, d_not, d_var, d_lit, d_cel, d_leq, d_fn, d_and, d_iff, IE.den, LE.den, AL.den, lenV, true_and, and_true, hF, pb1, pb2, pb3, pi1, pi2, pl2] at hp
  obtain ⟨p1, p2, p3, p4, p5, p6, p7, p8, p9, p10, p11, p12, p13⟩ := hp
  refine (show ((ρ.l 1004) = butN (ρ.i .i64 4) (ρ.i .i64 1).toNat ∧ ([[Go.Value.int .i64 (ρ.i .i64 1005)]] : LV) = butN (ρ.i .i64 4) ((ρ.i .i64 1005) + (1 : Int)).toNat ∧ ((ρ.i .i64 1005) + (1 : Int)) ≤ (ρ.i .i64 1)) ∧ (((ρ.i .i64 1001).toNat + ((ρ.i .i64 1).toNat + 2) + (((ρ.i .i64 1).toNat + 2) - ((ρ.i .i64 1005) + (1 : Int)).toNat) : Nat) < (ρ.i .i64 1001).toNat + 2 * ((ρ.i .i64 1).toNat + 2) + (((ρ.i .i64 1).toNat + 2) - (ρ.i .i64 1005).toNat)) from ?_)
  exact ⟨⟨hi.1, by rw [but_s (by omega) (by assumption), hi.2.1]; rfl, by omega⟩, by omega⟩
theorem vcfirst24_0 : VC (T own.Φ cFirst2.roms [cWorks, cRight, cRRight, cSi, cHop, cRHop]) invfirst2 msfirst2 4 tfirst24 wfirst24_0 := by
  intro ρ kn hi hp
  have hi : (ρ.l 1004) = butN (ρ.i .i64 4) (ρ.i .i64 1).toNat ∧ (ρ.l 1008) = butN (ρ.i .i64 4) (ρ.i .i64 1007).toNat ∧ (ρ.i .i64 1007) ≤ (ρ.i .i64 1) := hi
  have hr8 : Typed [(CK.int .i64)] (ρ.l 1008) ∧ (ρ.i .i64 1006) = (((ρ.l 1008)).length : Int) := kn.rows 8 _ _ _ _ _ _ rfl
  have hr4 : Typed [(CK.int .i64)] (ρ.l 1004) ∧ (ρ.i .i64 1001) = (((ρ.l 1004)).length : Int) := kn.rows 4 _ _ _ _ _ _ rfl
  have hF : ρ.z.F = own.Φ := kn.F
  simp only [h_nil, h_cons, d_le, d_eq, d_not, d_var, d_lit, d_cel, d_leq, d_fn, d_and, d_iff, IE.den, LE.den, AL.den, lenV, true_and, and_true, hF, pb1, pb2, pb3, pi1, pi2, pl2] at hp
  obtain ⟨p1, p2, p3, p4, p5, p6, p7, p8, p9, p10, p11, p12, p13, p14⟩ := hp
  refine (show ((ρ.l 1004) = (ρ.l 1008)) ∧ (((ρ.i .i64 1001).toNat - (0 : Int).toNat : Nat) < (ρ.i .i64 1001).toNat + ((ρ.i .i64 1).toNat + 2) + (((ρ.i .i64 1).toNat + 2) - (ρ.i .i64 1007).toNat)) from ?_)
  exact ⟨by rw [hi.1, hi.2.1, show (ρ.i .i64 1007).toNat = (ρ.i .i64 1).toNat by omega], by omega⟩
theorem vcfirst24_1 : VC (T own.Φ cFirst2.roms [cWorks, cRight, cRRight, cSi, cHop, cRHop]) invfirst2 msfirst2 4 tfirst24 wfirst24_1 := by
  intro ρ kn hi hp
  have hi : (ρ.l 1004) = butN (ρ.i .i64 4) (ρ.i .i64 1).toNat ∧ (ρ.l 1008) = butN (ρ.i .i64 4) (ρ.i .i64 1007).toNat ∧ (ρ.i .i64 1007) ≤ (ρ.i .i64 1) := hi
  have hr8 : Typed [(CK.int .i64)] (ρ.l 1008) ∧ (ρ.i .i64 1006) = (((ρ.l 1008)).length : Int) := kn.rows 8 _ _ _ _ _ _ rfl
  have hr4 : Typed [(CK.int .i64)] (ρ.l 1004) ∧ (ρ.i .i64 1001) = (((ρ.l 1004)).length : Int) := kn.rows 4 _ _ _ _ _ _ rfl
  have hF : ρ.z.F = own.Φ := kn.F
  simp only [h_nil, h_cons, d_le, d_eq, d_not, d_var, d_lit, d_cel, d_leq, d_fn, d_and, d_iff, IE.den, LE.den, AL.den, lenV, true_and, and_true, hF, pb1, pb2, pb3, pi1, pi2, pl2] at hp
  obtain ⟨p1, p2, p3, p4, p5, p6, p7, p8, p9, p10, p11, p12, p13, p14⟩ := hp
  exfalso
  have a := hr4.2
  have b := hr8.2
  rw [hi.1] at a
  rw [hi.2.1, show (ρ.i .i64 1007).toNat = (ρ.i .i64 1).toNat by omega] at b
  omega
theorem vcfirst24_2 : VC (T own.Φ cFirst2.roms [cWorks, cRight, cRRight, cSi, cHop, cRHop]) invfirst2 msfirst2 4 tfirst24 wfirst24_2 := by
  intro ρ kn hi hp
  have hi : (ρ.l 1004) = butN (ρ.i .i64 4) (ρ.i .i64 1).toNat ∧ (ρ.l 1008) = butN (ρ.i .i64 4) (ρ.i .i64 1007).toNat ∧ (ρ.i .i64 1007) ≤ (ρ.i .i64 1) := hi
  have hr8 : Typed [(CK.int .i64)] (ρ.l 1008) ∧ (ρ.i .i64 1006) = (((ρ.l 1008)).length : Int) := kn.rows 8 _ _ _ _ _ _ rfl
  have hr4 : Typed [(CK.int .i64)] (ρ.l 1004) ∧ (ρ.i .i64 1001) = (((ρ.l 1004)).length : Int) := kn.rows 4 _ _ _ _ _ _ rfl
  have hF : ρ.z.F = own.Φ := kn.F
  simp only [h_nil, h_cons, d_le, d_eq, d_not, d_var, d_lit, d_cel, d_leq, d_fn, d_and, d_iff, IE.den, LE.den, AL.den, lenV, true_and, and_true, hF, pb1, pb2, pb3, pi1, pi2, pl2] at hp
  obtain ⟨p1, p2, p3, p4, p5, p6, p7, p8, p9, p10, p11, p12, p13, p14⟩ := hp
  refine (show ((ρ.l 1004) = butN (ρ.i .i64 4) (ρ.i .i64 1).toNat ∧ (ρ.l 1008) = butN (ρ.i .i64 4) ((ρ.i .i64 1007) + (1 : Int)).toNat ∧ ((ρ.i .i64 1007) + (1 : Int)) ≤ (ρ.i .i64 1)) ∧ (((ρ.i .i64 1001).toNat + ((ρ.i .i64 1).toNat + 2) + (((ρ.i .i64 1).toNat + 2) - ((ρ.i .i64 1007) + (1 : Int)).toNat) : Nat) < (ρ.i .i64 1001).toNat + ((ρ.i .i64 1).toNat + 2) + (((ρ.i .i64 1).toNat + 2) - (ρ.i .i64 1007).toNat)) from ?_)
  exact ⟨⟨hi.1, by rw [but_e (by omega) (by assumption)]; exact hi.2.1, by omega⟩, by omega⟩
theorem vcfirst24_3 : VC (T own.Φ cFirst2.roms [cWorks, cRight, cRRight, cSi, cHop, cRHop]) invfirst2 msfirst2 4 tfirst24 wfirst24_3 := by
  intro ρ kn hi hp
  have hi : (ρ.l 1004) = butN (ρ.i .i64 4) (ρ.i .i64 1).toNat ∧ (ρ.l 1008) = butN (ρ.i .i64 4) (ρ.i .i64 1007).toNat ∧ (ρ.i .i64 1007) ≤ (ρ.i .i64 1) := hi
  have hr8 : Typed [(CK.int .i64)] (ρ.l 1008) ∧ (ρ.i .i64 1006) = (((ρ.l 1008)).length : Int) := kn.rows 8 _ _ _ _ _ _ rfl
  have hr4 : Typed [(CK.int .i64)] (ρ.l 1004) ∧ (ρ.i .i64 1001) = (((ρ.l 1004)).length : Int) := kn.rows 4 _ _ _ _ _ _ rfl
  have hF : ρ.z.F = own.Φ := kn.F
  simp only [h_nil, h_cons, d_le, d_eq, d_not, d_var, d_lit, d_cel, d_leq, d_fn, d_and, d_iff, IE.den, LE.den, AL.den, lenV, true_and, and_true, hF, pb1, pb2, pb3, pi1, pi2, pl2] at hp
  obtain ⟨p1, p2, p3, p4, p5, p6, p7, p8, p9, p10, p11, p12, p13, p14⟩ := hp
  refine (show ((ρ.l 1004) = butN (ρ.i .i64 4) (ρ.i .i64 1).toNat ∧ ((ρ.l 1008) ++ ([[Go.Value.int .i64 (ρ.i .i64 1007)]] : LV)) = butN (ρ.i .i64 4) ((ρ.i .i64 1007) + (1 : Int)).toNat ∧ ((ρ.i .i64 1007) + (1 : Int)) ≤ (ρ.i .i64 1)) ∧ (((ρ.i .i64 1001).toNat + ((ρ.i .i64 1).toNat + 2) + (((ρ.i .i64 1).toNat + 2) - ((ρ.i .i64 1007) + (1 : Int)).toNat) : Nat) < (ρ.i .i64 1001).toNat + ((ρ.i .i64 1).toNat + 2) + (((ρ.i .i64 1).toNat + 2) - (ρ.i .i64 1007).toNat)) from ?_)
  exact ⟨⟨hi.1, by rw [but_s (by omega) (by assumption), ← hi.2.1], by omega⟩, by omega⟩
theorem vcfirst25_0 : VC (T own.Φ cFirst2.roms [cWorks, cRight, cRRight, cSi, cHop, cRHop]) invfirst2 msfirst2 5 tfirst25 wfirst25_0 := by
  intro ρ kn hi hp
  exact all_nil
theorem vcfirst25_1 : VC (T own.Φ cFirst2.roms [cWorks, cRight, cRRight, cSi, cHop, cRHop]) invfirst2 msfirst2 5 tfirst25 wfirst25_1 := by
  intro ρ kn hi hp
  have hi : (ρ.l 1004) = (ρ.l 1008) := hi
  have hr4 : Typed [(CK.int .i64)] (ρ.l 1004) ∧ (ρ.i .i64 1001) = (((ρ.l 1004)).length : Int) := kn.rows 4 _ _ _ _ _ _ rfl
  have hr8 : Typed [(CK.int .i64)] (ρ.l 1008) ∧ (ρ.i .i64 1006) = (((ρ.l 1008)).length : Int) := kn.rows 8 _ _ _ _ _ _ rfl
  have hF : ρ.z.F = own.Φ := kn.F
  simp only [h_nil, h_cons, d_le, d_eq, d_not, d_var, d_lit, d_cel, d_leq, d_fn, d_and, d_iff, IE.den, LE.den, AL.den, lenV, true_and, and_true, hF, pb1, pb2, pb3, pi1, pi2, pl2] at hp
  obtain ⟨p1, p2, p3, p4, p5, p6, p7, p8, p9, p10, p11, p12, p13, p14, p15, p16⟩ := hp
  refine (show ((ρ.l 1004) = (ρ.l 1008)) ∧ (((ρ.i .i64 1001).toNat - ((ρ.i .i64 1009) + (1 : Int)).toNat : Nat) < (ρ.i .i64 1001).toNat - (ρ.i .i64 1009).toNat) from ?_)
  exact ⟨hi, by omega⟩
theorem vcfirst25_2 : VC (T own.Φ cFirst2.roms [cWorks, cRight, cRRight, cSi, cHop, cRHop]) invfirst2 msfirst2 5 tfirst25 wfirst25_2 := by
  intro ρ kn hi hp
  have hi : (ρ.l 1004) = (ρ.l 1008) := hi
  have hr4 : Typed [(CK.int .i64)] (ρ.l 1004) ∧ (ρ.i .i64 1001) = (((ρ.l 1004)).length : Int) := kn.rows 4 _ _ _ _ _ _ rfl
  have hr8 : Typed [(CK.int .i64)] (ρ.l 1008) ∧ (ρ.i .i64 1006) = (((ρ.l 1008)).length : Int) := kn.rows 8 _ _ _ _ _ _ rfl
  have hF : ρ.z.F = own.Φ := kn.F
  simp only [h_nil, h_cons, d_le, d_eq, d_not, d_var, d_lit, d_cel, d_leq, d_fn, d_and, d_iff, IE.den, LE.den, AL.den, lenV, true_and, and_true, hF, pb1, pb2, pb3, pi1, pi2, pl2] at hp
  obtain ⟨p1, p2, p3, p4, p5, p6, p7, p8, p9, p10, p11, p12, p13, p14, p15, p16⟩ := hp
  exfalso
  exact p1 (by rw [hi])
theorem vcsfirst20 : ∀ v ∈ vwfirst2 0, VC (T own.Φ cFirst2.roms [cWorks, cRight, cRRight, cSi, cHop, cRHop]) invfirst2 msfirst2 0 (startF 5 cFirst2.pat (.lit true :: cFirst2.pre)) v := all_cons vcfirst20_0 (all_cons vcfirst20_1 (all_cons vcfirst20_2 (all_cons vcfirst20_3 (all_cons vcfirst20_4 (all_cons vcfirst20_5 (all_nil))))))
theorem okfirst20 : cfgOk (startF 5 cFirst2.pat (.lit true :: cFirst2.pre)) = true := by kernel_rfl
theorem sgfirst20 : segL cFirst2.roms cFirst2 (seg (T own.Φ cFirst2.roms [cWorks, cRight, cRRight, cSi, cHop, cRHop]) selfirst2 3000 tmfirst2 (startF 5 cFirst2.pat (.lit true :: cFirst2.pre))) = (true, codesR tmfirst2 (views (seg (T own.Φ cFirst2.roms [cWorks, cRight, cRRight, cSi, cHop, cRHop]) selfirst2 3000 tmfirst2 (startF 5 cFirst2.pat (.lit true :: cFirst2.pre)))), vwfirst2 0) := by kernel_rfl
theorem vcsfirst21 : ∀ v ∈ vwfirst2 1, VC (T own.Φ cFirst2.roms [cWorks, cRight, cRRight, cSi, cHop, cRHop]) invfirst2 msfirst2 1 tfirst21 v := all_cons vcfirst21_0 (all_cons vcfirst21_1 (all_nil))
theorem okfirst21 : cfgOk tfirst21 = true := by kernel_rfl
theorem sgfirst21 : segL cFirst2.roms cFirst2 (seg (T own.Φ cFirst2.roms [cWorks, cRight, cRRight, cSi, cHop, cRHop]) selfirst2 3000 tmfirst2 tfirst21) = (true, codesR tmfirst2 (views (seg (T own.Φ cFirst2.roms [cWorks, cRight, cRRight, cSi, cHop, cRHop]) selfirst2 3000 tmfirst2 tfirst21)), vwfirst2 1) := by kernel_rfl
theorem vcsfirst22 : ∀ v ∈ vwfirst2 2, VC (T own.Φ cFirst2.roms [cWorks, cRight, cRRight, cSi, cHop, cRHop]) invfirst2 msfirst2 2 tfirst22 v := all_cons vcfirst22_0 (all_cons vcfirst22_1 (all_cons vcfirst22_2 (all_nil)))
theorem okfirst22 : cfgOk tfirst22 = true := by kernel_rfl
theorem sgfirst22 : segL cFirst2.roms cFirst2 (seg (T own.Φ cFirst2.roms [cWorks, cRight, cRRight, cSi, cHop, cRHop]) selfirst2 3000 tmfirst2 tfirst22) = (true, codesR tmfirst2 (views (seg (T own.Φ cFirst2.roms [cWorks, cRight, cRRight, cSi, cHop, cRHop]) selfirst2 3000 tmfirst2 tfirst22)), vwfirst2 2) := by kernel_rfl
theorem vcsfirst23 : ∀ v ∈ vwfirst2 3, VC (T own.Φ cFirst2.roms [cWorks, cRight, cRRight, cSi, cHop, cRHop]) invfirst2 msfirst2 3 tfirst23 v := all_cons vcfirst23_0 (all_cons vcfirst23_1 (all_nil))
theorem okfirst23 : cfgOk tfirst23 = true := by kernel_rfl
theorem sgfirst23 : segL cFirst2.roms cFirst2 (seg (T own.Φ cFirst2.roms [cWorks, cRight, cRRight, cSi, cHop, cRHop]) selfirst2 3000 tmfirst2 tfirst23) = (true, codesR tmfirst2 (views (seg (T own.Φ cFirst2.roms [cWorks, cRight, cRRight, cSi, cHop, cRHop]) selfirst2 3000 tmfirst2 tfirst23)), vwfirst2 3) := by kernel_rfl
theorem vcsfirst24 : ∀ v ∈ vwfirst2 4, VC (T own.Φ cFirst2.roms [cWorks, cRight, cRRight, cSi, cHop, cRHop]) invfirst2 msfirst2 4 tfirst24 v := all_cons vcfirst24_0 (all_cons vcfirst24_1 (all_cons vcfirst24_2 (all_cons vcfirst24_3 (all_nil))))
theorem okfirst24 : cfgOk tfirst24 = true := by kernel_rfl
theorem sgfirst24 : segL cFirst2.roms cFirst2 (seg (T own.Φ cFirst2.roms [cWorks, cRight, cRRight, cSi, cHop, cRHop]) selfirst2 3000 tmfirst2 tfirst24) = (true, codesR tmfirst2 (views (seg (T own.Φ cFirst2.roms [cWorks, cRight, cRRight, cSi, cHop, cRHop]) selfirst2 3000 tmfirst2 tfirst24)), vwfirst2 4) := by kernel_rfl
theorem vcsfirst25 : ∀ v ∈ vwfirst2 5, VC (T own.Φ cFirst2.roms [cWorks, cRight, cRRight, cSi, cHop, cRHop]) invfirst2 msfirst2 5 tfirst25 v := all_cons vcfirst25_0 (all_cons vcfirst25_1 (all_cons vcfirst25_2 (all_nil)))
theorem okfirst25 : cfgOk tfirst25 = true := by kernel_rfl
theorem sgfirst25 : segL cFirst2.roms cFirst2 (seg (T own.Φ cFirst2.roms [cWorks, cRight, cRRight, cSi, cHop, cRHop]) selfirst2 3000 tmfirst2 tfirst25) = (true, codesR tmfirst2 (views (seg (T own.Φ cFirst2.roms [cWorks, cRight, cRRight, cSi, cHop, cRHop]) selfirst2 3000 tmfirst2 tfirst25)), vwfirst2 5) := by kernel_rfl
theorem lnfirst20 : ∀ ρ, Known (T own.Φ cFirst2.roms [cWorks, cRight, cRRight, cSi, cHop, cRHop]) (startF 5 cFirst2.pat (.lit true :: cFirst2.pre)) ρ → invfirst2 0 ρ.lt → Holds ρ (leanOf (Cfg.pc (startF 5 cFirst2.pat (.lit true :: cFirst2.pre)))) := by
  intro ρ _ _
  exact (show Holds ρ [] from fun p hp => by cases hp)
theorem lnfirst21 : ∀ ρ, Known (T own.Φ cFirst2.roms [cWorks, cRight, cRRight, cSi, cHop, cRHop]) tfirst21 ρ → invfirst2 1 ρ.lt → Holds ρ (leanOf (Cfg.pc tfirst21)) := by
  intro ρ kn hi
  refine (show Holds ρ [.le (.var .i64 1000) (.lit 1)] from ?_)
  have hi : butN (ρ.i .i64 4) (ρ.i .i64 1000).toNat = [] := hi
  have hF : ρ.z.F = own.Φ := kn.F
  simp only [h_nil, h_cons, d_le, d_eq, d_not, d_var, d_lit, d_cel, d_leq, d_fn, d_and, d_iff, IE.den, LE.den, AL.den, lenV, true_and, and_true, hF, pb1, pb2, pb3, pi1, pi2, pl2]
  refine Int.not_lt.1 fun h => ?_
  have := but_two (m := ρ.i .i64 4) (show 2 ≤ ρ.i .i64 1000 by omega)
  rw [hi] at this
  simp at this
theorem lnfirst22 : ∀ ρ, Known (T own.Φ cFirst2.roms [cWorks, cRight, cRRight, cSi, cHop, cRHop]) tfirst22 ρ → invfirst2 2 ρ.lt → Holds ρ (leanOf (Cfg.pc tfirst22)) := by
  intro ρ _ _
  exact (show Holds ρ [] from fun p hp => by cases hp)
theorem lnfirst23 : ∀ ρ, Known (T own.Φ cFirst2.roms [cWorks, cRight, cRRight, cSi, cHop, cRHop]) tfirst23 ρ → invfirst2 3 ρ.lt → Holds ρ (leanOf (Cfg.pc tfirst23)) := by
  intro ρ kn hi
  refine (show Holds ρ [.le (.var .i64 1005) (.lit 1), .le (.lit 1) (.var .i64 1001)] from ?_)
  have hi : (ρ.l 1004) = butN (ρ.i .i64 4) (ρ.i .i64 1).toNat ∧ butN (ρ.i .i64 4) (ρ.i .i64 1005).toNat = [] ∧ 2 ≤ (ρ.i .i64 1) := hi
  have hF : ρ.z.F = own.Φ := kn.F
  simp only [h_nil, h_cons, d_le, d_eq, d_not, d_var, d_lit, d_cel, d_leq, d_fn, d_and, d_iff, IE.den, LE.den, AL.den, lenV, true_and, and_true, hF, pb1, pb2, pb3, pi1, pi2, pl2]
  have hr4 : Typed [CK.int .i64] (ρ.l 1004) ∧ (ρ.i .i64 1001) = ((ρ.l 1004).length : Int) := kn.rows 4 _ _ _ _ _ _ rfl
  refine ⟨Int.not_lt.1 fun h => ?_, ?_⟩
  · have := but_two (m := ρ.i .i64 4) (show 2 ≤ ρ.i .i64 1005 by omega)
    rw [hi.2.1] at this
    simp at this
  · have := but_two (m := ρ.i .i64 4) (show 2 ≤ ρ.i .i64 1 from hi.2.2)
    rw [hr4.2, hi.1]
    exact this
theorem lnfirst24 : ∀ ρ, Known (T own.Φ cFirst2.roms [cWorks, cRight, cRRight, cSi, cHop, cRHop]) tfirst24 ρ → invfirst2 4 ρ.lt → Holds ρ (leanOf (Cfg.pc tfirst24)) := by
  intro ρ _ _
  exact (show Holds ρ [] from fun p hp => by cases hp)
theorem lnfirst25 : ∀ ρ, Known (T own.Φ cFirst2.roms [cWorks, cRight, cRRight, cSi, cHop, cRHop]) tfirst25 ρ → invfirst2 5 ρ.lt → Holds ρ (leanOf (Cfg.pc tfirst25)) := by
  intro ρ _ _
  exact (show Holds ρ [] from fun p hp => by cases hp)
theorem told_first2 : Sx.Told own.Φ cFirst2 := by
  refine told_of (cs := [cWorks, cRight, cRRight, cSi, cHop, cRHop]) (all_cons told_works (all_cons told_right (all_cons told_rright (all_cons told_si (all_cons told_hop (all_cons told_rhop (all_nil))))))) (sel := selfirst2) 3000 tmfirst2 invfirst2 msfirst2 vwfirst2 0 (pc0 := (.lit true :: cFirst2.pre)) (by kernel_rfl) (by kernel_rfl) (by kernel_rfl) (post_nil rfl) ?_ ?_ ?_ rfl (fun ρ _ h => h.cons (p := .lit true) (by simp only [BE.den])) (fun _ _ _ _ => trivial) ?_
  · intro k C h
    have := lk_mem h
    simp only [tmfirst2, List.mem_cons, Prod.mk.injEq, List.not_mem_nil, or_false] at this
    rcases this with ⟨rfl, rfl⟩ | ⟨rfl, rfl⟩ | ⟨rfl, rfl⟩ | ⟨rfl, rfl⟩ | ⟨rfl, rfl⟩ | ⟨rfl, rfl⟩
    · exact okfirst20
    · exact okfirst21
    · exact okfirst22
    · exact okfirst23
    · exact okfirst24
    · exact okfirst25
  · intro k C h
    have := lk_mem h
    simp only [tmfirst2, List.mem_cons, Prod.mk.injEq, List.not_mem_nil, or_false] at this
    rcases this with ⟨rfl, rfl⟩ | ⟨rfl, rfl⟩ | ⟨rfl, rfl⟩ | ⟨rfl, rfl⟩ | ⟨rfl, rfl⟩ | ⟨rfl, rfl⟩
    · exact sgfirst20
    · exact sgfirst21
    · exact sgfirst22
    · exact sgfirst23
    · exact sgfirst24
    · exact sgfirst25
  · intro k C h
    have := lk_mem h
    simp only [tmfirst2, List.mem_cons, Prod.mk.injEq, List.not_mem_nil, or_false] at this
    rcases this with ⟨rfl, rfl⟩ | ⟨rfl, rfl⟩ | ⟨rfl, rfl⟩ | ⟨rfl, rfl⟩ | ⟨rfl, rfl⟩ | ⟨rfl, rfl⟩
    · exact vcsfirst20
    · exact vcsfirst21
    · exact vcsfirst22
    · exact vcsfirst23
    · exact vcsfirst24
    · exact vcsfirst25
  · intro k C h
    have := lk_mem h
    simp only [tmfirst2, List.mem_cons, Prod.mk.injEq, List.not_mem_nil, or_false] at this
    rcases this with ⟨rfl, rfl⟩ | ⟨rfl, rfl⟩ | ⟨rfl, rfl⟩ | ⟨rfl, rfl⟩ | ⟨rfl, rfl⟩ | ⟨rfl, rfl⟩
    · exact lnfirst20
    · exact lnfirst21
    · exact lnfirst22
    · exact lnfirst23
    · exact lnfirst24
    · exact lnfirst25
theorem told_first3 : Sx.Told own.Φ cFirst3 := told_auto (cs := [cWorks, cRight, cRRight, cSi, cHop, cRHop]) (all_cons told_works (all_cons told_right (all_cons told_rright (all_cons told_si (all_cons told_hop (all_cons told_rhop (all_nil))))))) 20000 (by kernel_rfl) (by kernel_rfl) (by kernel_rfl) (post_nil rfl) (by kernel_rfl) (by kernel_rfl)
end Go.Proofs.Ytepodgakaajcmaa.own
