/- Layer escrow: the law EscrowEach. No condition. -/
import Derived.Test.YtdfgidogiacmnaaEw
set_option linter.unusedVariables false
set_option linter.unusedSimpArgs false
set_option linter.deprecated false
namespace Go.Proofs.Ytdfgidogiacmnaa.esc
open Go Go.Proofs.Ytdfgidogiacmnaa.Sx
theorem told_eachz : Sx.Told esc.Φ cEach0 := told_auto (cs := [cWorks, cRunS, cRunN, cRunZ]) (all_cons told_works (all_cons told_runS (all_cons told_runN (all_cons told_runZ (all_nil))))) 20000 (by kernel_rfl) (by kernel_rfl) (by kernel_rfl) (post_nil rfl) (by kernel_rfl) (by kernel_rfl)
noncomputable section
abbrev TTeach : Tab := T esc.Φ cEach.roms [cWorks, cRunS, cRunN, cRunZ]
def teach1 : Cfg := { top := ⟨24, over (opqS 10000 27) [(0, (SV.func (Go.Fn.yield 21) [] [])), (2, (SV.ptr 18 0)), (7, (SV.sll 8 9 1 (IE.lit 0) (IE.len (LE.rom 0)) none)), (8, (SV.int .i64 (IE.len (LE.rom 0)))), (9, (SV.int .i64 (IE.var .i64 1000)))], ogt (loopTodo (bodyOf (T esc.Φ [] []) 24) 0), [], false, none⟩, rest := [⟨14, over (opqS 30000 29) [], ogt (rangeTodo (bodyOf (T esc.Φ [] []) 14) 0 21), [20], false, none⟩, ⟨3, over (opqS 50000 86) [(5, (SV.ptr 1 0)), (6, (SV.ptr 2 0)), (7, (SV.ptr 3 0)), (8, (SV.func (Go.Fn.func 14) [] [(SV.ptr 7 0), (SV.ptr 10 0)])), (9, (SV.ptr 11 0)), (10, (SV.ptr 12 0))], ogt (rangeTodo (bodyOf (T esc.Φ [] []) 3) 0 14), [13], false, none⟩], heap := [(21, .loop .ready none 14 (over (opqS 200000 29) [(3, (SV.ptr 15 0)), (4, (SV.ptr 17 0))]) [14, 15] ((rangeCode (bodyOf (T esc.Φ [] []) 14) 0).getD (.skip, .skip)).1 ((rangeCode (bodyOf (T esc.Φ [] []) 14) 0).getD (.skip, .skip)).2 20), (18, .cells [(SV.ptr 16 0)] 46), (8, .rowl (LE.rom 0) (IE.len (LE.rom 0)) [(CK.int .i64)] 2 9 1), (20, .defd true), (13, .defd true), (14, .loop .ready none 3 (over (opqS 300000 86) [(5, (SV.ptr 1 0)), (6, (SV.ptr 2 0)), (7, (SV.ptr 3 0)), (9, (SV.ptr 11 0)), (10, (SV.ptr 12 0))]) [35, 36] ((rangeCode (bodyOf (T esc.Φ [] []) 3) 0).getD (.skip, .skip)).1 ((rangeCode (bodyOf (T esc.Φ [] []) 3) 0).getD (.skip, .skip)).2 13), (1, .cells [(SV.int .i64 (IE.var .i64 4))] 3), (2, .cells [(SV.bool (BE.lit false))] 4), (3, .cells [(SV.sll 5 6 3 (IE.lit 0) (IE.len (LE.fn 2 (AL.lst (LE.rom 0) (AL.int .i64 (IE.var .i64 1) (AL.int .i64 (IE.var .i64 2) (AL.int .u64 (IE.var .u64 3) AL.nil)))))) none)] 27), (7, .cells [(SV.int .i64 (IE.var .i64 1)), (SV.int .i64 (IE.var .i64 2)), (SV.int .u64 (IE.var .u64 3))] 24), (10, .cells [(SV.sll 8 9 1 (IE.lit 0) (IE.len (LE.rom 0)) none)] 25), (11, .cells [(SV.int .i64 (IE.lit 0))] 3), (12, .cells [(SV.int .i64 (IE.var .i64 1000))] 3), (15, .cells [(SV.func (Go.Fn.yield 14) [] [])] 45), (17, .cells [(SV.ptr 16 0)] 46), (16, .cells [(SV.int .i64 (IE.var .i64 1001)), (SV.int .i64 (IE.var .i64 2)), (SV.int .u64 (IE.var .u64 1002)), (SV.int .i64 (IE.var .i64 1000))] 50), (5, .rowl (LE.fn 2 (AL.lst (LE.rom 0) (AL.int .i64 (IE.var .i64 1) (AL.int .i64 (IE.var .i64 2) (AL.int .u64 (IE.var .u64 3) AL.nil))))) (IE.len (LE.fn 2 (AL.lst (LE.rom 0) (AL.int .i64 (IE.var .i64 1) (AL.int .i64 (IE.var .i64 2) (AL.int .u64 (IE.var .u64 3) AL.nil)))))) [(CK.int .i64), (CK.int .i64), (CK.int .u64)] 24 6 3)], next := 22, pc := .lit true :: ([] ++ [(BE.le (IE.lit 1) (IE.len (LE.rom 0))), (BE.le (IE.len (LE.rom 0)) (IE.lit 50)), (BE.le (IE.var .i64 2) (IE.var .i64 1)), (BE.le (IE.var .u64 3) (IE.lit 4611686018427387904)), (BE.eq (IE.fn .i64 1 (AL.int .i64 (IE.var .i64 1) (AL.int .i64 (IE.var .i64 2) (AL.int .u64 (IE.var .u64 3) (AL.int .i64 (IE.cel .i64 (LE.rom 0) (IE.lit 0) 0) AL.nil))))) (IE.lit 0)), (BE.le (IE.lit 1) (IE.fn .i64 2 (AL.lst (LE.rom 0) (AL.int .i64 (IE.var .i64 1) (AL.int .i64 (IE.var .i64 2) (AL.int .u64 (IE.var .u64 3) AL.nil)))))), (BE.le (IE.fn .i64 2 (AL.lst (LE.rom 0) (AL.int .i64 (IE.var .i64 1) (AL.int .i64 (IE.var .i64 2) (AL.int .u64 (IE.var .u64 3) AL.nil))))) (IE.len (LE.rom 0))), (BE.eq (IE.len (LE.fn 2 (AL.lst (LE.rom 0) (AL.int .i64 (IE.var .i64 1) (AL.int .i64 (IE.var .i64 2) (AL.int .u64 (IE.var .u64 3) AL.nil)))))) (IE.fn .i64 2 (AL.lst (LE.rom 0) (AL.int .i64 (IE.var .i64 1) (AL.int .i64 (IE.var .i64 2) (AL.int .u64 (IE.var .u64 3) AL.nil)))))), (BE.le (IE.lit 0) (IE.var .i64 1000)), (BE.le (IE.var .i64 1000) (IE.len (LE.rom 0)))]) }
def teach2 : Cfg := { top := ⟨3, over (opqS 10000 86) [(5, (SV.ptr 1 0)), (6, (SV.ptr 2 0)), (7, (SV.ptr 3 0)), (8, (SV.func (Go.Fn.func 14) [] [(SV.ptr 7 0), (SV.ptr 10 0)])), (9, (SV.ptr 11 0)), (10, (SV.ptr 12 0))], ogt (atTodo (bodyOf (T esc.Φ [] []) 3) 20), [13], false, none⟩, rest := [], heap := [(13, .defd true), (1, .cells [(SV.int .i64 (IE.var .i64 4))] 3), (2, .cells [(SV.bool (BE.lit false))] 4), (3, .cells [(SV.sll 5 6 3 (IE.lit 0) (IE.len (LE.fn 2 (AL.lst (LE.rom 0) (AL.int .i64 (IE.var .i64 1) (AL.int .i64 (IE.var .i64 2) (AL.int .u64 (IE.var .u64 3) AL.nil)))))) none)] 27), (7, .cells [(SV.int .i64 (IE.var .i64 1)), (SV.int .i64 (IE.var .i64 2)), (SV.int .u64 (IE.var .u64 3))] 24), (10, .cells [(SV.sll 8 9 1 (IE.lit 0) (IE.len (LE.rom 0)) none)] 25), (11, .cells [(SV.int .i64 (IE.lit 0))] 3), (12, .cells [(SV.int .i64 (IE.var .i64 1000))] 3), (5, .rowl (LE.fn 2 (AL.lst (LE.rom 0) (AL.int .i64 (IE.var .i64 1) (AL.int .i64 (IE.var .i64 2) (AL.int .u64 (IE.var .u64 3) AL.nil))))) (IE.len (LE.fn 2 (AL.lst (LE.rom 0) (AL.int .i64 (IE.var .i64 1) (AL.int .i64 (IE.var .i64 2) (AL.int .u64 (IE.var .u64 3) AL.nil)))))) [(CK.int .i64), (CK.int .i64), (CK.int .u64)] 24 6 3), (8, .rowl (LE.rom 0) (IE.len (LE.rom 0)) [(CK.int .i64)] 2 9 1)], next := 14, pc := .lit true :: ([] ++ [(BE.eq (IE.len (LE.fn 2 (AL.lst (LE.rom 0) (AL.int .i64 (IE.var .i64 1) (AL.int .i64 (IE.var .i64 2) (AL.int .u64 (IE.var .u64 3) AL.nil)))))) (IE.fn .i64 2 (AL.lst (LE.rom 0) (AL.int .i64 (IE.var .i64 1) (AL.int .i64 (IE.var .i64 2) (AL.int .u64 (IE.var .u64 3) AL.nil)))))), (BE.le (IE.fn .i64 2 (AL.lst (LE.rom 0) (AL.int .i64 (IE.var .i64 1) (AL.int .i64 (IE.var .i64 2) (AL.int .u64 (IE.var .u64 3) AL.nil))))) (IE.len (LE.rom 0))), (BE.le (IE.lit 1) (IE.fn .i64 2 (AL.lst (LE.rom 0) (AL.int .i64 (IE.var .i64 1) (AL.int .i64 (IE.var .i64 2) (AL.int .u64 (IE.var .u64 3) AL.nil)))))), (BE.eq (IE.fn .i64 1 (AL.int .i64 (IE.var .i64 1) (AL.int .i64 (IE.var .i64 2) (AL.int .u64 (IE.var .u64 3) (AL.int .i64 (IE.cel .i64 (LE.rom 0) (IE.lit 0) 0) AL.nil))))) (IE.lit 0)), (BE.le (IE.var .u64 3) (IE.lit 4611686018427387904)), (BE.le (IE.var .i64 2) (IE.var .i64 1)), (BE.le (IE.len (LE.rom 0)) (IE.lit 50)), (BE.le (IE.lit 1) (IE.len (LE.rom 0))), (BE.le (IE.lit 0) (IE.var .i64 1000)), (BE.le (IE.var .i64 1000) (IE.len (LE.rom 0)))]) }
def teach3 : Cfg := { top := ⟨24, over (opqS 10000 27) [(0, (SV.func (Go.Fn.yield 24) [] [])), (2, (SV.ptr 21 0)), (7, (SV.sll 8 9 1 (IE.lit 0) (IE.len (LE.rom 0)) none)), (8, (SV.int .i64 (IE.len (LE.rom 0)))), (9, (SV.int .i64 (IE.var .i64 11361)))], ogt (loopTodo (bodyOf (T esc.Φ [] []) 24) 0), [], false, none⟩, rest := [⟨14, over (opqS 30000 29) [], ogt (rangeTodo (bodyOf (T esc.Φ [] []) 14) 0 24), [23], false, none⟩, ⟨3, over (opqS 50000 86) [(5, (SV.ptr 1 0)), (6, (SV.ptr 2 0)), (7, (SV.ptr 3 0)), (8, (SV.func (Go.Fn.func 14) [] [(SV.ptr 7 0), (SV.ptr 10 0)])), (9, (SV.ptr 14 0)), (10, (SV.ptr 15 0))], ogt (rangeTodo (bodyOf (T esc.Φ [] []) 3) 0 17), [16, 13], false, none⟩], heap := [(24, .loop .ready none 14 (over (opqS 200000 29) [(3, (SV.ptr 18 0)), (4, (SV.ptr 20 0))]) [14, 15] ((rangeCode (bodyOf (T esc.Φ [] []) 14) 0).getD (.skip, .skip)).1 ((rangeCode (bodyOf (T esc.Φ [] []) 14) 0).getD (.skip, .skip)).2 23), (21, .cells [(SV.ptr 19 0)] 46), (8, .rowl (LE.rom 0) (IE.len (LE.rom 0)) [(CK.int .i64)] 2 9 1), (23, .defd true), (16, .defd true), (13, .defd true), (17, .loop .ready none 3 (over (opqS 320000 86) [(5, (SV.ptr 1 0)), (6, (SV.ptr 2 0)), (7, (SV.ptr 3 0)), (9, (SV.ptr 14 0)), (10, (SV.ptr 15 0))]) [35, 36] ((rangeCode (bodyOf (T esc.Φ [] []) 3) 0).getD (.skip, .skip)).1 ((rangeCode (bodyOf (T esc.Φ [] []) 3) 0).getD (.skip, .skip)).2 16), (1, .cells [(SV.int .i64 (IE.var .i64 4))] 3), (2, .cells [(SV.bool (BE.lit false))] 4), (3, .cells [(SV.sll 5 6 3 (IE.lit 0) (IE.len (LE.fn 2 (AL.lst (LE.rom 0) (AL.int .i64 (IE.var .i64 1) (AL.int .i64 (IE.var .i64 2) (AL.int .u64 (IE.var .u64 3) AL.nil)))))) none)] 27), (7, .cells [(SV.int .i64 (IE.var .i64 1)), (SV.int .i64 (IE.var .i64 2)), (SV.int .u64 (IE.var .u64 3))] 24), (10, .cells [(SV.sll 8 9 1 (IE.lit 0) (IE.len (LE.rom 0)) none)] 25), (14, .cells [(SV.int .i64 (IE.lit 1))] 3), (15, .cells [(SV.int .i64 (IE.var .i64 11361))] 3), (18, .cells [(SV.func (Go.Fn.yield 17) [] [])] 45), (20, .cells [(SV.ptr 19 0)] 46), (19, .cells [(SV.int .i64 (IE.var .i64 11362)), (SV.int .i64 (IE.var .i64 2)), (SV.int .u64 (IE.var .u64 11363)), (SV.int .i64 (IE.var .i64 11361))] 50), (5, .rowl (LE.fn 2 (AL.lst (LE.rom 0) (AL.int .i64 (IE.var .i64 1) (AL.int .i64 (IE.var .i64 2) (AL.int .u64 (IE.var .u64 3) AL.nil))))) (IE.len (LE.fn 2 (AL.lst (LE.rom 0) (AL.int .i64 (IE.var .i64 1) (AL.int .i64 (IE.var .i64 2) (AL.int .u64 (IE.var .u64 3) AL.nil)))))) [(CK.int .i64), (CK.int .i64), (CK.int .u64)] 24 6 3)], next := 25, pc := .lit true :: ([] ++ [(BE.le (IE.lit 1) (IE.len (LE.rom 0))), (BE.le (IE.len (LE.rom 0)) (IE.lit 50)), (BE.le (IE.var .i64 2) (IE.var .i64 1)), (BE.le (IE.var .u64 3) (IE.lit 4611686018427387904)), (BE.eq (IE.fn .i64 1 (AL.int .i64 (IE.var .i64 1) (AL.int .i64 (IE.var .i64 2) (AL.int .u64 (IE.var .u64 3) (AL.int .i64 (IE.cel .i64 (LE.rom 0) (IE.lit 0) 0) AL.nil))))) (IE.lit 0)), (BE.le (IE.lit 1) (IE.fn .i64 2 (AL.lst (LE.rom 0) (AL.int .i64 (IE.var .i64 1) (AL.int .i64 (IE.var .i64 2) (AL.int .u64 (IE.var .u64 3) AL.nil)))))), (BE.le (IE.fn .i64 2 (AL.lst (LE.rom 0) (AL.int .i64 (IE.var .i64 1) (AL.int .i64 (IE.var .i64 2) (AL.int .u64 (IE.var .u64 3) AL.nil))))) (IE.len (LE.rom 0))), (BE.eq (IE.len (LE.fn 2 (AL.lst (LE.rom 0) (AL.int .i64 (IE.var .i64 1) (AL.int .i64 (IE.var .i64 2) (AL.int .u64 (IE.var .u64 3) AL.nil)))))) (IE.fn .i64 2 (AL.lst (LE.rom 0) (AL.int .i64 (IE.var .i64 1) (AL.int .i64 (IE.var .i64 2) (AL.int .u64 (IE.var .u64 3) AL.nil)))))), (BE.le (IE.lit 0) (IE.var .i64 11361)), (BE.le (IE.var .i64 11361) (IE.len (LE.rom 0)))]) }
def tmeach : List (Nat × Cfg) := [(0, startF 3 cEach.pat (.lit true :: cEach.pre)), (1, teach1), (2, teach2), (3, teach3)]
def seleach : Sel := [(24, 1, 2020066436002, 1), (3, 1020, 20000900000, 2), (24, 1, 2030066436002, 3)]
def pceach0_0 : List BE := [(BE.lit true), (BE.le (IE.lit 1) (IE.len (LE.rom 0)))]
def pceach0_1 : List BE := ((BE.le (IE.len (LE.rom 0)) (IE.lit 50)) :: pceach0_0)
def pceach0_2 : List BE := ((BE.le (IE.var .i64 2) (IE.var .i64 1)) :: pceach0_1)
def pceach0_3 : List BE := ((BE.not (BE.le (IE.var .i64 2) (IE.var .i64 1))) :: pceach0_1)
def pceach0_4 : List BE := ((BE.le (IE.var .u64 3) (IE.lit 4611686018427387904)) :: pceach0_2)
def pceach0_5 : List BE := ((BE.not (BE.le (IE.var .u64 3) (IE.lit 4611686018427387904))) :: pceach0_2)
def pceach0_6 : List BE := ((BE.le (IE.lit 0) (IE.cel .i64 (LE.rom 0) (IE.lit 0) 0)) :: pceach0_3)
def pceach0_7 : List BE := ((BE.not (BE.le (IE.lit 0) (IE.cel .i64 (LE.rom 0) (IE.lit 0) 0))) :: pceach0_3)
def pceach0_8 : List BE := ((BE.le (IE.lit 0) (IE.cel .i64 (LE.rom 0) (IE.lit 0) 0)) :: pceach0_5)
def pceach0_9 : List BE := ((BE.not (BE.le (IE.lit 0) (IE.cel .i64 (LE.rom 0) (IE.lit 0) 0))) :: pceach0_5)
def pceach0_10 : List BE := ((BE.eq (IE.fn .i64 2 (AL.lst (LE.rom 0) (AL.int .i64 (IE.var .i64 1) (AL.int .i64 (IE.var .i64 2) (AL.int .u64 (IE.var .u64 3) AL.nil))))) (IE.lit 0)) :: (BE.not (BE.eq (IE.fn .i64 1 (AL.int .i64 (IE.var .i64 1) (AL.int .i64 (IE.var .i64 2) (AL.int .u64 (IE.var .u64 3) (AL.int .i64 (IE.cel .i64 (LE.rom 0) (IE.lit 0) 0) AL.nil))))) (IE.lit 0))) :: pceach0_4)
def pceach0_11 : List BE := ((BE.le (IE.lit 0) (IE.cel .i64 (LE.rom 0) (IE.lit 0) 0)) :: pceach0_10)
def pceach0_12 : List BE := ((BE.not (BE.le (IE.lit 0) (IE.cel .i64 (LE.rom 0) (IE.lit 0) 0))) :: pceach0_10)
def pceach0_13 : List BE := ((BE.eq (IE.cel .i64 (LE.rom 0) (IE.lit 0) 0) (IE.lit 0)) :: pceach0_11)
def pceach0_14 : List BE := ((BE.not (BE.eq (IE.cel .i64 (LE.rom 0) (IE.lit 0) 0) (IE.lit 0))) :: pceach0_11)
def pceach0_15 : List BE := ((BE.eq (IE.wrap .u64 (IE.sub (IE.lit 0) (IE.wrap .u64 (IE.cel .i64 (LE.rom 0) (IE.lit 0) 0)))) (IE.lit 0)) :: pceach0_12)
def pceach0_16 : List BE := ((BE.not (BE.eq (IE.wrap .u64 (IE.sub (IE.lit 0) (IE.wrap .u64 (IE.cel .i64 (LE.rom 0) (IE.lit 0) 0)))) (IE.lit 0))) :: pceach0_12)
def pceach0_17 : List BE := ((BE.le (IE.cel .i64 (LE.rom 0) (IE.lit 0) 0) (IE.wrap .u64 (IE.sub (IE.lit 9223372036854775807) (IE.wrap .u64 (IE.var .i64 1))))) :: pceach0_14)
def pceach0_18 : List BE := ((BE.not (BE.le (IE.cel .i64 (LE.rom 0) (IE.lit 0) 0) (IE.wrap .u64 (IE.sub (IE.lit 9223372036854775807) (IE.wrap .u64 (IE.var .i64 1)))))) :: pceach0_14)
def pceach0_19 : List BE := ((BE.le (IE.wrap .u64 (IE.sub (IE.lit 0) (IE.wrap .u64 (IE.cel .i64 (LE.rom 0) (IE.lit 0) 0)))) (IE.wrap .u64 (IE.sub (IE.wrap .u64 (IE.var .i64 1)) (IE.wrap .u64 (IE.var .i64 2))))) :: pceach0_16)
def pceach0_20 : List BE := ((BE.not (BE.le (IE.wrap .u64 (IE.sub (IE.lit 0) (IE.wrap .u64 (IE.cel .i64 (LE.rom 0) (IE.lit 0) 0)))) (IE.wrap .u64 (IE.sub (IE.wrap .u64 (IE.var .i64 1)) (IE.wrap .u64 (IE.var .i64 2)))))) :: pceach0_16)
def pceach0_21 : List BE := ((BE.eq (IE.var .u64 3) (IE.lit 4611686018427387904)) :: pceach0_17)
def pceach0_22 : List BE := ((BE.eq (IE.var .u64 3) (IE.lit 4611686018427387904)) :: pceach0_19)
def weach0_0 : VW := (VW.cut 1 ((BE.eq (IE.len (LE.fn 2 (AL.lst (LE.rom 0) (AL.int .i64 (IE.var .i64 1) (AL.int .i64 (IE.var .i64 2) (AL.int .u64 (IE.var .u64 3) AL.nil)))))) (IE.fn .i64 2 (AL.lst (LE.rom 0) (AL.int .i64 (IE.var .i64 1) (AL.int .i64 (IE.var .i64 2) (AL.int .u64 (IE.var .u64 3) AL.nil)))))) :: (BE.le (IE.fn .i64 2 (AL.lst (LE.rom 0) (AL.int .i64 (IE.var .i64 1) (AL.int .i64 (IE.var .i64 2) (AL.int .u64 (IE.var .u64 3) AL.nil))))) (IE.len (LE.rom 0))) :: (BE.le (IE.lit 1) (IE.fn .i64 2 (AL.lst (LE.rom 0) (AL.int .i64 (IE.var .i64 1) (AL.int .i64 (IE.var .i64 2) (AL.int .u64 (IE.var .u64 3) AL.nil)))))) :: (BE.eq (IE.fn .i64 1 (AL.int .i64 (IE.var .i64 1) (AL.int .i64 (IE.var .i64 2) (AL.int .u64 (IE.var .u64 3) (AL.int .i64 (IE.cel .i64 (LE.rom 0) (IE.lit 0) 0) AL.nil))))) (IE.lit 0)) :: pceach0_4) (Sx.Sub.mk [(.u64, (1002, (IE.var .u64 3))), (.i64, (1001, (IE.var .i64 1))), (.i64, (1000, (IE.lit 0)))] [] [] [] [] []))
def weach0_1 : VW := (VW.done ((BE.le (IE.lit 1) (IE.var .i64 4)) :: pceach0_13) (some []))
def weach0_2 : VW := (VW.done ((BE.not (BE.le (IE.lit 1) (IE.var .i64 4))) :: pceach0_13) (some []))
def weach0_3 : VW := (VW.done ((BE.le (IE.lit 1) (IE.var .i64 4)) :: pceach0_21) (some []))
def weach0_4 : VW := (VW.done ((BE.not (BE.le (IE.lit 1) (IE.var .i64 4))) :: pceach0_21) (some []))
def weach0_5 : VW := (VW.done ((BE.not (BE.eq (IE.var .u64 3) (IE.lit 4611686018427387904))) :: pceach0_17) (some [(G.b (BE.lit true) (BE.lit false))]))
def weach0_6 : VW := (VW.done ((BE.le (IE.lit 1) (IE.var .i64 4)) :: pceach0_18) (some []))
def weach0_7 : VW := (VW.done ((BE.not (BE.le (IE.lit 1) (IE.var .i64 4))) :: pceach0_18) (some []))
def weach0_8 : VW := (VW.done ((BE.le (IE.lit 1) (IE.var .i64 4)) :: pceach0_15) (some []))
def weach0_9 : VW := (VW.done ((BE.not (BE.le (IE.lit 1) (IE.var .i64 4))) :: pceach0_15) (some []))
def weach0_10 : VW := (VW.done ((BE.le (IE.lit 1) (IE.var .i64 4)) :: pceach0_22) (some []))
def weach0_11 : VW := (VW.done ((BE.not (BE.le (IE.lit 1) (IE.var .i64 4))) :: pceach0_22) (some []))
def weach0_12 : VW := (VW.done ((BE.not (BE.eq (IE.var .u64 3) (IE.lit 4611686018427387904))) :: pceach0_19) (some [(G.b (BE.lit true) (BE.lit false))]))
def weach0_13 : VW := (VW.done ((BE.le (IE.lit 1) (IE.var .i64 4)) :: pceach0_20) (some []))
def weach0_14 : VW := (VW.done ((BE.not (BE.le (IE.lit 1) (IE.var .i64 4))) :: pceach0_20) (some []))
def weach0_15 : VW := (VW.done ((BE.le (IE.lit 1) (IE.var .i64 4)) :: pceach0_8) (some []))
def weach0_16 : VW := (VW.done ((BE.not (BE.le (IE.lit 1) (IE.var .i64 4))) :: pceach0_8) (some []))
def weach0_17 : VW := (VW.done ((BE.le (IE.lit 1) (IE.var .i64 4)) :: pceach0_9) (some []))
def weach0_18 : VW := (VW.done ((BE.not (BE.le (IE.lit 1) (IE.var .i64 4))) :: pceach0_9) (some []))
def weach0_19 : VW := (VW.done ((BE.le (IE.lit 1) (IE.var .i64 4)) :: pceach0_6) (some []))
def weach0_20 : VW := (VW.done ((BE.not (BE.le (IE.lit 1) (IE.var .i64 4))) :: pceach0_6) (some []))
def weach0_21 : VW := (VW.done ((BE.le (IE.lit 1) (IE.var .i64 4)) :: pceach0_7) (some []))
def weach0_22 : VW := (VW.done ((BE.not (BE.le (IE.lit 1) (IE.var .i64 4))) :: pceach0_7) (some []))
def weach0_23 : VW := (VW.done ((BE.not (BE.le (IE.len (LE.rom 0)) (IE.lit 50))) :: pceach0_0) (some []))
def vweach0 : List VW := [weach0_0, weach0_1, weach0_2, weach0_3, weach0_4, weach0_5, weach0_6, weach0_7, weach0_8, weach0_9, weach0_10, weach0_11, weach0_12, weach0_13, weach0_14, weach0_15, weach0_16, weach0_17, weach0_18, weach0_19, weach0_20, weach0_21, weach0_22, weach0_23]
def pceach1_0 : List BE := [(BE.lit true), (BE.le (IE.lit 1) (IE.len (LE.rom 0))), (BE.le (IE.len (LE.rom 0)) (IE.lit 50)), (BE.le (IE.var .i64 2) (IE.var .i64 1)), (BE.le (IE.var .u64 3) (IE.lit 4611686018427387904)), (BE.eq (IE.fn .i64 1 (AL.int .i64 (IE.var .i64 1) (AL.int .i64 (IE.var .i64 2) (AL.int .u64 (IE.var .u64 3) (AL.int .i64 (IE.cel .i64 (LE.rom 0) (IE.lit 0) 0) AL.nil))))) (IE.lit 0)), (BE.le (IE.lit 1) (IE.fn .i64 2 (AL.lst (LE.rom 0) (AL.int .i64 (IE.var .i64 1) (AL.int .i64 (IE.var .i64 2) (AL.int .u64 (IE.var .u64 3) AL.nil)))))), (BE.le (IE.fn .i64 2 (AL.lst (LE.rom 0) (AL.int .i64 (IE.var .i64 1) (AL.int .i64 (IE.var .i64 2) (AL.int .u64 (IE.var .u64 3) AL.nil))))) (IE.len (LE.rom 0))), (BE.eq (IE.len (LE.fn 2 (AL.lst (LE.rom 0) (AL.int .i64 (IE.var .i64 1) (AL.int .i64 (IE.var .i64 2) (AL.int .u64 (IE.var .u64 3) AL.nil)))))) (IE.fn .i64 2 (AL.lst (LE.rom 0) (AL.int .i64 (IE.var .i64 1) (AL.int .i64 (IE.var .i64 2) (AL.int .u64 (IE.var .u64 3) AL.nil)))))), (BE.le (IE.lit 0) (IE.var .i64 1000)), (BE.le (IE.var .i64 1000) (IE.len (LE.rom 0)))]
def pceach1_1 : List BE := ((BE.not (BE.le (IE.len (LE.rom 0)) (IE.var .i64 1000))) :: pceach1_0)
def pceach1_2 : List BE := ((BE.le (IE.lit 0) (IE.cel .i64 (LE.rom 0) (IE.var .i64 1000) 0)) :: pceach1_1)
def pceach1_3 : List BE := ((BE.not (BE.le (IE.lit 0) (IE.cel .i64 (LE.rom 0) (IE.var .i64 1000) 0))) :: pceach1_1)
def pceach1_4 : List BE := ((BE.le (IE.var .i64 2) (IE.var .i64 1001)) :: pceach1_2)
def pceach1_5 : List BE := ((BE.le (IE.var .i64 2) (IE.var .i64 1001)) :: pceach1_3)
def pceach1_6 : List BE := ((BE.le (IE.var .u64 1002) (IE.lit 4611686018427387904)) :: pceach1_4)
def pceach1_7 : List BE := ((BE.le (IE.var .u64 1002) (IE.lit 4611686018427387904)) :: pceach1_5)
def pceach1_8 : List BE := ((BE.not (BE.eq (IE.cel .i64 (LE.rom 0) (IE.var .i64 1000) 0) (IE.lit 0))) :: pceach1_6)
def pceach1_9 : List BE := ((BE.not (BE.eq (IE.wrap .u64 (IE.sub (IE.lit 0) (IE.wrap .u64 (IE.cel .i64 (LE.rom 0) (IE.var .i64 1000) 0)))) (IE.lit 0))) :: pceach1_7)
def pceach1_10 : List BE := ((BE.le (IE.cel .i64 (LE.rom 0) (IE.var .i64 1000) 0) (IE.wrap .u64 (IE.sub (IE.lit 9223372036854775807) (IE.wrap .u64 (IE.var .i64 1001))))) :: pceach1_8)
def pceach1_11 : List BE := ((BE.le (IE.wrap .u64 (IE.sub (IE.lit 0) (IE.wrap .u64 (IE.cel .i64 (LE.rom 0) (IE.var .i64 1000) 0)))) (IE.wrap .u64 (IE.sub (IE.wrap .u64 (IE.var .i64 1001)) (IE.wrap .u64 (IE.var .i64 2))))) :: pceach1_9)
def pceach1_12 : List BE := ((BE.not (BE.eq (IE.var .u64 1002) (IE.lit 4611686018427387904))) :: pceach1_10)
def pceach1_13 : List BE := ((BE.not (BE.eq (IE.var .u64 1002) (IE.lit 4611686018427387904))) :: pceach1_11)
def pceach1_14 : List BE := ((BE.not (BE.le (IE.len (LE.fn 2 (AL.lst (LE.rom 0) (AL.int .i64 (IE.var .i64 1) (AL.int .i64 (IE.var .i64 2) (AL.int .u64 (IE.var .u64 3) AL.nil)))))) (IE.var .i64 1000))) :: pceach1_12)
def pceach1_15 : List BE := ((BE.not (BE.le (IE.len (LE.fn 2 (AL.lst (LE.rom 0) (AL.int .i64 (IE.var .i64 1) (AL.int .i64 (IE.var .i64 2) (AL.int .u64 (IE.var .u64 3) AL.nil)))))) (IE.var .i64 1000))) :: pceach1_13)
def pceach1_16 : List BE := ((BE.eq (IE.wrap .i64 (IE.wrap .u64 (IE.add (IE.wrap .u64 (IE.var .i64 1001)) (IE.cel .i64 (LE.rom 0) (IE.var .i64 1000) 0)))) (IE.cel .i64 (LE.fn 2 (AL.lst (LE.rom 0) (AL.int .i64 (IE.var .i64 1) (AL.int .i64 (IE.var .i64 2) (AL.int .u64 (IE.var .u64 3) AL.nil))))) (IE.var .i64 1000) 0)) :: pceach1_14)
def pceach1_17 : List BE := ((BE.eq (IE.wrap .i64 (IE.wrap .u64 (IE.sub (IE.wrap .u64 (IE.var .i64 1001)) (IE.wrap .u64 (IE.sub (IE.lit 0) (IE.wrap .u64 (IE.cel .i64 (LE.rom 0) (IE.var .i64 1000) 0))))))) (IE.cel .i64 (LE.fn 2 (AL.lst (LE.rom 0) (AL.int .i64 (IE.var .i64 1) (AL.int .i64 (IE.var .i64 2) (AL.int .u64 (IE.var .u64 3) AL.nil))))) (IE.var .i64 1000) 0)) :: pceach1_15)
def pceach1_18 : List BE := ((BE.eq (IE.var .i64 2) (IE.cel .i64 (LE.fn 2 (AL.lst (LE.rom 0) (AL.int .i64 (IE.var .i64 1) (AL.int .i64 (IE.var .i64 2) (AL.int .u64 (IE.var .u64 3) AL.nil))))) (IE.var .i64 1000) 1)) :: pceach1_16)
def pceach1_19 : List BE := ((BE.eq (IE.var .i64 2) (IE.cel .i64 (LE.fn 2 (AL.lst (LE.rom 0) (AL.int .i64 (IE.var .i64 1) (AL.int .i64 (IE.var .i64 2) (AL.int .u64 (IE.var .u64 3) AL.nil))))) (IE.var .i64 1000) 1)) :: pceach1_17)
def pceach1_20 : List BE := ((BE.eq (IE.add (IE.var .u64 1002) (IE.lit 1)) (IE.cel .u64 (LE.fn 2 (AL.lst (LE.rom 0) (AL.int .i64 (IE.var .i64 1) (AL.int .i64 (IE.var .i64 2) (AL.int .u64 (IE.var .u64 3) AL.nil))))) (IE.var .i64 1000) 2)) :: pceach1_18)
def pceach1_21 : List BE := ((BE.eq (IE.add (IE.var .u64 1002) (IE.lit 1)) (IE.cel .u64 (LE.fn 2 (AL.lst (LE.rom 0) (AL.int .i64 (IE.var .i64 1) (AL.int .i64 (IE.var .i64 2) (AL.int .u64 (IE.var .u64 3) AL.nil))))) (IE.var .i64 1000) 2)) :: pceach1_19)
def weach1_0 : VW := (VW.cut 2 ((BE.le (IE.len (LE.rom 0)) (IE.var .i64 1000)) :: pceach1_0) (Sx.Sub.mk [(.i64, (1000, (IE.var .i64 1000)))] [] [] [] [] []))
def weach1_1 : VW := (VW.cut 2 ((BE.eq (IE.cel .i64 (LE.rom 0) (IE.var .i64 1000) 0) (IE.lit 0)) :: pceach1_6) (Sx.Sub.mk [(.i64, (1000, (IE.var .i64 1000)))] [] [] [] [] []))
def weach1_2 : VW := (VW.cut 2 ((BE.eq (IE.var .u64 1002) (IE.lit 4611686018427387904)) :: pceach1_10) (Sx.Sub.mk [(.i64, (1000, (IE.var .i64 1000)))] [] [] [] [] []))
def weach1_3 : VW := (VW.done ((BE.le (IE.len (LE.fn 2 (AL.lst (LE.rom 0) (AL.int .i64 (IE.var .i64 1) (AL.int .i64 (IE.var .i64 2) (AL.int .u64 (IE.var .u64 3) AL.nil)))))) (IE.var .i64 1000)) :: pceach1_12) (some [(G.b (BE.lit true) (BE.lit false))]))
def weach1_4 : VW := (VW.cut 2 ((BE.le (IE.var .i64 4) (IE.add (IE.var .i64 1000) (IE.lit 1))) :: pceach1_20) (Sx.Sub.mk [(.i64, (1000, (IE.add (IE.var .i64 1000) (IE.lit 1))))] [] [] [] [] []))
def weach1_5 : VW := (VW.cut 1 ((BE.not (BE.le (IE.var .i64 4) (IE.add (IE.var .i64 1000) (IE.lit 1)))) :: pceach1_20) (Sx.Sub.mk [(.u64, (1002, (IE.add (IE.var .u64 1002) (IE.lit 1)))), (.i64, (1001, (IE.wrap .i64 (IE.wrap .u64 (IE.add (IE.wrap .u64 (IE.var .i64 1001)) (IE.cel .i64 (LE.rom 0) (IE.var .i64 1000) 0)))))), (.i64, (1000, (IE.add (IE.var .i64 1000) (IE.lit 1))))] [] [] [] [] []))
def weach1_6 : VW := (VW.done ((BE.not (BE.eq (IE.add (IE.var .u64 1002) (IE.lit 1)) (IE.cel .u64 (LE.fn 2 (AL.lst (LE.rom 0) (AL.int .i64 (IE.var .i64 1) (AL.int .i64 (IE.var .i64 2) (AL.int .u64 (IE.var .u64 3) AL.nil))))) (IE.var .i64 1000) 2))) :: pceach1_18) (some [(G.b (BE.lit true) (BE.lit false))]))
def weach1_7 : VW := (VW.done ((BE.not (BE.eq (IE.var .i64 2) (IE.cel .i64 (LE.fn 2 (AL.lst (LE.rom 0) (AL.int .i64 (IE.var .i64 1) (AL.int .i64 (IE.var .i64 2) (AL.int .u64 (IE.var .u64 3) AL.nil))))) (IE.var .i64 1000) 1))) :: pceach1_16) (some [(G.b (BE.lit true) (BE.lit false))]))
def weach1_8 : VW := (VW.done ((BE.not (BE.eq (IE.wrap .i64 (IE.wrap .u64 (IE.add (IE.wrap .u64 (IE.var .i64 1001)) (IE.cel .i64 (LE.rom 0) (IE.var .i64 1000) 0)))) (IE.cel .i64 (LE.fn 2 (AL.lst (LE.rom 0) (AL.int .i64 (IE.var .i64 1) (AL.int .i64 (IE.var .i64 2) (AL.int .u64 (IE.var .u64 3) AL.nil))))) (IE.var .i64 1000) 0))) :: pceach1_14) (some [(G.b (BE.lit true) (BE.lit false))]))
def weach1_9 : VW := (VW.cut 2 ((BE.not (BE.le (IE.cel .i64 (LE.rom 0) (IE.var .i64 1000) 0) (IE.wrap .u64 (IE.sub (IE.lit 9223372036854775807) (IE.wrap .u64 (IE.var .i64 1001)))))) :: pceach1_8) (Sx.Sub.mk [(.i64, (1000, (IE.var .i64 1000)))] [] [] [] [] []))
def weach1_10 : VW := (VW.cut 2 ((BE.not (BE.le (IE.var .u64 1002) (IE.lit 4611686018427387904))) :: pceach1_4) (Sx.Sub.mk [(.i64, (1000, (IE.var .i64 1000)))] [] [] [] [] []))
def weach1_11 : VW := (VW.cut 2 ((BE.not (BE.le (IE.var .i64 2) (IE.var .i64 1001))) :: pceach1_2) (Sx.Sub.mk [(.i64, (1000, (IE.var .i64 1000)))] [] [] [] [] []))
def weach1_12 : VW := (VW.cut 2 ((BE.eq (IE.wrap .u64 (IE.sub (IE.lit 0) (IE.wrap .u64 (IE.cel .i64 (LE.rom 0) (IE.var .i64 1000) 0)))) (IE.lit 0)) :: pceach1_7) (Sx.Sub.mk [(.i64, (1000, (IE.var .i64 1000)))] [] [] [] [] []))
def weach1_13 : VW := (VW.cut 2 ((BE.eq (IE.var .u64 1002) (IE.lit 4611686018427387904)) :: pceach1_11) (Sx.Sub.mk [(.i64, (1000, (IE.var .i64 1000)))] [] [] [] [] []))
def weach1_14 : VW := (VW.done ((BE.le (IE.len (LE.fn 2 (AL.lst (LE.rom 0) (AL.int .i64 (IE.var .i64 1) (AL.int .i64 (IE.var .i64 2) (AL.int .u64 (IE.var .u64 3) AL.nil)))))) (IE.var .i64 1000)) :: pceach1_13) (some [(G.b (BE.lit true) (BE.lit false))]))
def weach1_15 : VW := (VW.cut 2 ((BE.le (IE.var .i64 4) (IE.add (IE.var .i64 1000) (IE.lit 1))) :: pceach1_21) (Sx.Sub.mk [(.i64, (1000, (IE.add (IE.var .i64 1000) (IE.lit 1))))] [] [] [] [] []))
def weach1_16 : VW := (VW.cut 1 ((BE.not (BE.le (IE.var .i64 4) (IE.add (IE.var .i64 1000) (IE.lit 1)))) :: pceach1_21) (Sx.Sub.mk [(.u64, (1002, (IE.add (IE.var .u64 1002) (IE.lit 1)))), (.i64, (1001, (IE.wrap .i64 (IE.wrap .u64 (IE.sub (IE.wrap .u64 (IE.var .i64 1001)) (IE.wrap .u64 (IE.sub (IE.lit 0) (IE.wrap .u64 (IE.cel .i64 (LE.rom 0) (IE.var .i64 1000) 0))))))))), (.i64, (1000, (IE.add (IE.var .i64 1000) (IE.lit 1))))] [] [] [] [] []))
def weach1_17 : VW := (VW.done ((BE.not (BE.eq (IE.add (IE.var .u64 1002) (IE.lit 1)) (IE.cel .u64 (LE.fn 2 (AL.lst (LE.rom 0) (AL.int .i64 (IE.var .i64 1) (AL.int .i64 (IE.var .i64 2) (AL.int .u64 (IE.var .u64 3) AL.nil))))) (IE.var .i64 1000) 2))) :: pceach1_19) (some [(G.b (BE.lit true) (BE.lit false))]))
def weach1_18 : VW := (VW.done ((BE.not (BE.eq (IE.var .i64 2) (IE.cel .i64 (LE.fn 2 (AL.lst (LE.rom 0) (AL.int .i64 (IE.var .i64 1) (AL.int .i64 (IE.var .i64 2) (AL.int .u64 (IE.var .u64 3) AL.nil))))) (IE.var .i64 1000) 1))) :: pceach1_17) (some [(G.b (BE.lit true) (BE.lit false))]))
def weach1_19 : VW := (VW.done ((BE.not (BE.eq (IE.wrap .i64 (IE.wrap .u64 (IE.sub (IE.wrap .u64 (IE.var .i64 1001)) (IE.wrap .u64 (IE.sub (IE.lit 0) (IE.wrap .u64 (IE.cel .i64 (LE.rom 0) (IE.var .i64 1000) 0))))))) (IE.cel .i64 (LE.fn 2 (AL.lst (LE.rom 0) (AL.int .i64 (IE.var .i64 1) (AL.int .i64 (IE.var .i64 2) (AL.int .u64 (IE.var .u64 3) AL.nil))))) (IE.var .i64 1000) 0))) :: pceach1_15) (some [(G.b (BE.lit true) (BE.lit false))]))
def weach1_20 : VW := (VW.cut 2 ((BE.not (BE.le (IE.wrap .u64 (IE.sub (IE.lit 0) (IE.wrap .u64 (IE.cel .i64 (LE.rom 0) (IE.var .i64 1000) 0)))) (IE.wrap .u64 (IE.sub (IE.wrap .u64 (IE.var .i64 1001)) (IE.wrap .u64 (IE.var .i64 2)))))) :: pceach1_9) (Sx.Sub.mk [(.i64, (1000, (IE.var .i64 1000)))] [] [] [] [] []))
def weach1_21 : VW := (VW.cut 2 ((BE.not (BE.le (IE.var .u64 1002) (IE.lit 4611686018427387904))) :: pceach1_5) (Sx.Sub.mk [(.i64, (1000, (IE.var .i64 1000)))] [] [] [] [] []))
def weach1_22 : VW := (VW.cut 2 ((BE.not (BE.le (IE.var .i64 2) (IE.var .i64 1001))) :: pceach1_3) (Sx.Sub.mk [(.i64, (1000, (IE.var .i64 1000)))] [] [] [] [] []))
def vweach1 : List VW := [weach1_0, weach1_1, weach1_2, weach1_3, weach1_4, weach1_5, weach1_6, weach1_7, weach1_8, weach1_9, weach1_10, weach1_11, weach1_12, weach1_13, weach1_14, weach1_15, weach1_16, weach1_17, weach1_18, weach1_19, weach1_20, weach1_21, weach1_22]
def pceach2_0 : List BE := [(BE.lit true), (BE.eq (IE.len (LE.fn 2 (AL.lst (LE.rom 0) (AL.int .i64 (IE.var .i64 1) (AL.int .i64 (IE.var .i64 2) (AL.int .u64 (IE.var .u64 3) AL.nil)))))) (IE.fn .i64 2 (AL.lst (LE.rom 0) (AL.int .i64 (IE.var .i64 1) (AL.int .i64 (IE.var .i64 2) (AL.int .u64 (IE.var .u64 3) AL.nil)))))), (BE.le (IE.fn .i64 2 (AL.lst (LE.rom 0) (AL.int .i64 (IE.var .i64 1) (AL.int .i64 (IE.var .i64 2) (AL.int .u64 (IE.var .u64 3) AL.nil))))) (IE.len (LE.rom 0))), (BE.le (IE.lit 1) (IE.fn .i64 2 (AL.lst (LE.rom 0) (AL.int .i64 (IE.var .i64 1) (AL.int .i64 (IE.var .i64 2) (AL.int .u64 (IE.var .u64 3) AL.nil)))))), (BE.eq (IE.fn .i64 1 (AL.int .i64 (IE.var .i64 1) (AL.int .i64 (IE.var .i64 2) (AL.int .u64 (IE.var .u64 3) (AL.int .i64 (IE.cel .i64 (LE.rom 0) (IE.lit 0) 0) AL.nil))))) (IE.lit 0)), (BE.le (IE.var .u64 3) (IE.lit 4611686018427387904)), (BE.le (IE.var .i64 2) (IE.var .i64 1)), (BE.le (IE.len (LE.rom 0)) (IE.lit 50)), (BE.le (IE.lit 1) (IE.len (LE.rom 0))), (BE.le (IE.lit 0) (IE.var .i64 1000)), (BE.le (IE.var .i64 1000) (IE.len (LE.rom 0)))]
def pceach2_1 : List BE := ((BE.le (IE.lit 1) (IE.var .i64 4)) :: pceach2_0)
def pceach2_2 : List BE := ((BE.not (BE.le (IE.lit 1) (IE.var .i64 4))) :: pceach2_0)
def pceach2_3 : List BE := ((BE.le (IE.len (LE.fn 2 (AL.lst (LE.rom 0) (AL.int .i64 (IE.var .i64 1) (AL.int .i64 (IE.var .i64 2) (AL.int .u64 (IE.var .u64 3) AL.nil)))))) (IE.var .i64 4)) :: pceach2_1)
def pceach2_4 : List BE := ((BE.not (BE.le (IE.len (LE.fn 2 (AL.lst (LE.rom 0) (AL.int .i64 (IE.var .i64 1) (AL.int .i64 (IE.var .i64 2) (AL.int .u64 (IE.var .u64 3) AL.nil)))))) (IE.var .i64 4))) :: pceach2_1)
def pceach2_5 : List BE := ((BE.le (IE.len (LE.fn 2 (AL.lst (LE.rom 0) (AL.int .i64 (IE.var .i64 1) (AL.int .i64 (IE.var .i64 2) (AL.int .u64 (IE.var .u64 3) AL.nil)))))) (IE.lit 1)) :: pceach2_2)
def pceach2_6 : List BE := ((BE.not (BE.le (IE.len (LE.fn 2 (AL.lst (LE.rom 0) (AL.int .i64 (IE.var .i64 1) (AL.int .i64 (IE.var .i64 2) (AL.int .u64 (IE.var .u64 3) AL.nil)))))) (IE.lit 1))) :: pceach2_2)
def weach2_0 : VW := (VW.cut 3 ((BE.eq (IE.var .i64 1000) (IE.len (LE.fn 2 (AL.lst (LE.rom 0) (AL.int .i64 (IE.var .i64 1) (AL.int .i64 (IE.var .i64 2) (AL.int .u64 (IE.var .u64 3) AL.nil))))))) :: pceach2_3) (Sx.Sub.mk [(.u64, (11363, (IE.var .u64 3))), (.i64, (11362, (IE.var .i64 1))), (.i64, (11361, (IE.lit 0)))] [] [] [] [] []))
def weach2_1 : VW := (VW.done ((BE.not (BE.eq (IE.var .i64 1000) (IE.len (LE.fn 2 (AL.lst (LE.rom 0) (AL.int .i64 (IE.var .i64 1) (AL.int .i64 (IE.var .i64 2) (AL.int .u64 (IE.var .u64 3) AL.nil)))))))) :: pceach2_3) (some [(G.b (BE.lit true) (BE.lit false))]))
def weach2_2 : VW := (VW.cut 3 ((BE.eq (IE.var .i64 1000) (IE.var .i64 4)) :: pceach2_4) (Sx.Sub.mk [(.u64, (11363, (IE.var .u64 3))), (.i64, (11362, (IE.var .i64 1))), (.i64, (11361, (IE.lit 0)))] [] [] [] [] []))
def weach2_3 : VW := (VW.done ((BE.not (BE.eq (IE.var .i64 1000) (IE.var .i64 4))) :: pceach2_4) (some [(G.b (BE.lit true) (BE.lit false))]))
def weach2_4 : VW := (VW.cut 3 ((BE.eq (IE.var .i64 1000) (IE.len (LE.fn 2 (AL.lst (LE.rom 0) (AL.int .i64 (IE.var .i64 1) (AL.int .i64 (IE.var .i64 2) (AL.int .u64 (IE.var .u64 3) AL.nil))))))) :: pceach2_5) (Sx.Sub.mk [(.u64, (11363, (IE.var .u64 3))), (.i64, (11362, (IE.var .i64 1))), (.i64, (11361, (IE.lit 0)))] [] [] [] [] []))
def weach2_5 : VW := (VW.done ((BE.not (BE.eq (IE.var .i64 1000) (IE.len (LE.fn 2 (AL.lst (LE.rom 0) (AL.int .i64 (IE.var .i64 1) (AL.int .i64 (IE.var .i64 2) (AL.int .u64 (IE.var .u64 3) AL.nil)))))))) :: pceach2_5) (some [(G.b (BE.lit true) (BE.lit false))]))
def weach2_6 : VW := (VW.cut 3 ((BE.eq (IE.var .i64 1000) (IE.lit 1)) :: pceach2_6) (Sx.Sub.mk [(.u64, (11363, (IE.var .u64 3))), (.i64, (11362, (IE.var .i64 1))), (.i64, (11361, (IE.lit 0)))] [] [] [] [] []))
def weach2_7 : VW := (VW.done ((BE.not (BE.eq (IE.var .i64 1000) (IE.lit 1))) :: pceach2_6) (some [(G.b (BE.lit true) (BE.lit false))]))
def vweach2 : List VW := [weach2_0, weach2_1, weach2_2, weach2_3, weach2_4, weach2_5, weach2_6, weach2_7]
def pceach3_0 : List BE := [(BE.lit true), (BE.le (IE.lit 1) (IE.len (LE.rom 0))), (BE.le (IE.len (LE.rom 0)) (IE.lit 50)), (BE.le (IE.var .i64 2) (IE.var .i64 1)), (BE.le (IE.var .u64 3) (IE.lit 4611686018427387904)), (BE.eq (IE.fn .i64 1 (AL.int .i64 (IE.var .i64 1) (AL.int .i64 (IE.var .i64 2) (AL.int .u64 (IE.var .u64 3) (AL.int .i64 (IE.cel .i64 (LE.rom 0) (IE.lit 0) 0) AL.nil))))) (IE.lit 0)), (BE.le (IE.lit 1) (IE.fn .i64 2 (AL.lst (LE.rom 0) (AL.int .i64 (IE.var .i64 1) (AL.int .i64 (IE.var .i64 2) (AL.int .u64 (IE.var .u64 3) AL.nil)))))), (BE.le (IE.fn .i64 2 (AL.lst (LE.rom 0) (AL.int .i64 (IE.var .i64 1) (AL.int .i64 (IE.var .i64 2) (AL.int .u64 (IE.var .u64 3) AL.nil))))) (IE.len (LE.rom 0))), (BE.eq (IE.len (LE.fn 2 (AL.lst (LE.rom 0) (AL.int .i64 (IE.var .i64 1) (AL.int .i64 (IE.var .i64 2) (AL.int .u64 (IE.var .u64 3) AL.nil)))))) (IE.fn .i64 2 (AL.lst (LE.rom 0) (AL.int .i64 (IE.var .i64 1) (AL.int .i64 (IE.var .i64 2) (AL.int .u64 (IE.var .u64 3) AL.nil)))))), (BE.le (IE.lit 0) (IE.var .i64 11361)), (BE.le (IE.var .i64 11361) (IE.len (LE.rom 0)))]
def pceach3_1 : List BE := ((BE.le (IE.len (LE.rom 0)) (IE.var .i64 11361)) :: pceach3_0)
def pceach3_2 : List BE := ((BE.not (BE.le (IE.len (LE.rom 0)) (IE.var .i64 11361))) :: pceach3_0)
def pceach3_3 : List BE := ((BE.le (IE.lit 0) (IE.cel .i64 (LE.rom 0) (IE.var .i64 11361) 0)) :: pceach3_2)
def pceach3_4 : List BE := ((BE.not (BE.le (IE.lit 0) (IE.cel .i64 (LE.rom 0) (IE.var .i64 11361) 0))) :: pceach3_2)
def pceach3_5 : List BE := ((BE.le (IE.var .i64 2) (IE.var .i64 11362)) :: pceach3_3)
def pceach3_6 : List BE := ((BE.not (BE.le (IE.var .i64 2) (IE.var .i64 11362))) :: pceach3_3)
def pceach3_7 : List BE := ((BE.le (IE.var .i64 2) (IE.var .i64 11362)) :: pceach3_4)
def pceach3_8 : List BE := ((BE.not (BE.le (IE.var .i64 2) (IE.var .i64 11362))) :: pceach3_4)
def pceach3_9 : List BE := ((BE.le (IE.var .u64 11363) (IE.lit 4611686018427387904)) :: pceach3_5)
def pceach3_10 : List BE := ((BE.not (BE.le (IE.var .u64 11363) (IE.lit 4611686018427387904))) :: pceach3_5)
def pceach3_11 : List BE := ((BE.le (IE.var .u64 11363) (IE.lit 4611686018427387904)) :: pceach3_7)
def pceach3_12 : List BE := ((BE.not (BE.le (IE.var .u64 11363) (IE.lit 4611686018427387904))) :: pceach3_7)
def pceach3_13 : List BE := ((BE.eq (IE.cel .i64 (LE.rom 0) (IE.var .i64 11361) 0) (IE.lit 0)) :: pceach3_9)
def pceach3_14 : List BE := ((BE.not (BE.eq (IE.cel .i64 (LE.rom 0) (IE.var .i64 11361) 0) (IE.lit 0))) :: pceach3_9)
def pceach3_15 : List BE := ((BE.eq (IE.wrap .u64 (IE.sub (IE.lit 0) (IE.wrap .u64 (IE.cel .i64 (LE.rom 0) (IE.var .i64 11361) 0)))) (IE.lit 0)) :: pceach3_11)
def pceach3_16 : List BE := ((BE.not (BE.eq (IE.wrap .u64 (IE.sub (IE.lit 0) (IE.wrap .u64 (IE.cel .i64 (LE.rom 0) (IE.var .i64 11361) 0)))) (IE.lit 0))) :: pceach3_11)
def pceach3_17 : List BE := ((BE.le (IE.cel .i64 (LE.rom 0) (IE.var .i64 11361) 0) (IE.wrap .u64 (IE.sub (IE.lit 9223372036854775807) (IE.wrap .u64 (IE.var .i64 11362))))) :: pceach3_14)
def pceach3_18 : List BE := ((BE.not (BE.le (IE.cel .i64 (LE.rom 0) (IE.var .i64 11361) 0) (IE.wrap .u64 (IE.sub (IE.lit 9223372036854775807) (IE.wrap .u64 (IE.var .i64 11362)))))) :: pceach3_14)
def pceach3_19 : List BE := ((BE.le (IE.wrap .u64 (IE.sub (IE.lit 0) (IE.wrap .u64 (IE.cel .i64 (LE.rom 0) (IE.var .i64 11361) 0)))) (IE.wrap .u64 (IE.sub (IE.wrap .u64 (IE.var .i64 11362)) (IE.wrap .u64 (IE.var .i64 2))))) :: pceach3_16)
def pceach3_20 : List BE := ((BE.not (BE.le (IE.wrap .u64 (IE.sub (IE.lit 0) (IE.wrap .u64 (IE.cel .i64 (LE.rom 0) (IE.var .i64 11361) 0)))) (IE.wrap .u64 (IE.sub (IE.wrap .u64 (IE.var .i64 11362)) (IE.wrap .u64 (IE.var .i64 2)))))) :: pceach3_16)
def pceach3_21 : List BE := ((BE.eq (IE.var .u64 11363) (IE.lit 4611686018427387904)) :: pceach3_17)
def pceach3_22 : List BE := ((BE.not (BE.eq (IE.var .u64 11363) (IE.lit 4611686018427387904))) :: pceach3_17)
def pceach3_23 : List BE := ((BE.eq (IE.var .u64 11363) (IE.lit 4611686018427387904)) :: pceach3_19)
def pceach3_24 : List BE := ((BE.not (BE.eq (IE.var .u64 11363) (IE.lit 4611686018427387904))) :: pceach3_19)
def pceach3_25 : List BE := ((BE.not (BE.le (IE.len (LE.fn 2 (AL.lst (LE.rom 0) (AL.int .i64 (IE.var .i64 1) (AL.int .i64 (IE.var .i64 2) (AL.int .u64 (IE.var .u64 3) AL.nil)))))) (IE.var .i64 11361))) :: pceach3_22)
def pceach3_26 : List BE := ((BE.not (BE.le (IE.len (LE.fn 2 (AL.lst (LE.rom 0) (AL.int .i64 (IE.var .i64 1) (AL.int .i64 (IE.var .i64 2) (AL.int .u64 (IE.var .u64 3) AL.nil)))))) (IE.var .i64 11361))) :: pceach3_24)
def pceach3_27 : List BE := ((BE.eq (IE.wrap .i64 (IE.wrap .u64 (IE.add (IE.wrap .u64 (IE.var .i64 11362)) (IE.cel .i64 (LE.rom 0) (IE.var .i64 11361) 0)))) (IE.cel .i64 (LE.fn 2 (AL.lst (LE.rom 0) (AL.int .i64 (IE.var .i64 1) (AL.int .i64 (IE.var .i64 2) (AL.int .u64 (IE.var .u64 3) AL.nil))))) (IE.var .i64 11361) 0)) :: pceach3_25)
def pceach3_28 : List BE := ((BE.eq (IE.wrap .i64 (IE.wrap .u64 (IE.sub (IE.wrap .u64 (IE.var .i64 11362)) (IE.wrap .u64 (IE.sub (IE.lit 0) (IE.wrap .u64 (IE.cel .i64 (LE.rom 0) (IE.var .i64 11361) 0))))))) (IE.cel .i64 (LE.fn 2 (AL.lst (LE.rom 0) (AL.int .i64 (IE.var .i64 1) (AL.int .i64 (IE.var .i64 2) (AL.int .u64 (IE.var .u64 3) AL.nil))))) (IE.var .i64 11361) 0)) :: pceach3_26)
def pceach3_29 : List BE := ((BE.eq (IE.var .i64 2) (IE.cel .i64 (LE.fn 2 (AL.lst (LE.rom 0) (AL.int .i64 (IE.var .i64 1) (AL.int .i64 (IE.var .i64 2) (AL.int .u64 (IE.var .u64 3) AL.nil))))) (IE.var .i64 11361) 1)) :: pceach3_27)
def pceach3_30 : List BE := ((BE.eq (IE.var .i64 2) (IE.cel .i64 (LE.fn 2 (AL.lst (LE.rom 0) (AL.int .i64 (IE.var .i64 1) (AL.int .i64 (IE.var .i64 2) (AL.int .u64 (IE.var .u64 3) AL.nil))))) (IE.var .i64 11361) 1)) :: pceach3_28)
def weach3_0 : VW := (VW.done ((BE.eq (IE.var .i64 11361) (IE.len (LE.fn 2 (AL.lst (LE.rom 0) (AL.int .i64 (IE.var .i64 1) (AL.int .i64 (IE.var .i64 2) (AL.int .u64 (IE.var .u64 3) AL.nil))))))) :: pceach3_1) (some []))
def weach3_1 : VW := (VW.done ((BE.not (BE.eq (IE.var .i64 11361) (IE.len (LE.fn 2 (AL.lst (LE.rom 0) (AL.int .i64 (IE.var .i64 1) (AL.int .i64 (IE.var .i64 2) (AL.int .u64 (IE.var .u64 3) AL.nil)))))))) :: pceach3_1) (some [(G.b (BE.lit true) (BE.lit false))]))
def weach3_2 : VW := (VW.done ((BE.eq (IE.var .i64 11361) (IE.len (LE.fn 2 (AL.lst (LE.rom 0) (AL.int .i64 (IE.var .i64 1) (AL.int .i64 (IE.var .i64 2) (AL.int .u64 (IE.var .u64 3) AL.nil))))))) :: pceach3_13) (some []))
def weach3_3 : VW := (VW.done ((BE.not (BE.eq (IE.var .i64 11361) (IE.len (LE.fn 2 (AL.lst (LE.rom 0) (AL.int .i64 (IE.var .i64 1) (AL.int .i64 (IE.var .i64 2) (AL.int .u64 (IE.var .u64 3) AL.nil)))))))) :: pceach3_13) (some [(G.b (BE.lit true) (BE.lit false))]))
def weach3_4 : VW := (VW.done ((BE.eq (IE.var .i64 11361) (IE.len (LE.fn 2 (AL.lst (LE.rom 0) (AL.int .i64 (IE.var .i64 1) (AL.int .i64 (IE.var .i64 2) (AL.int .u64 (IE.var .u64 3) AL.nil))))))) :: pceach3_21) (some []))
def weach3_5 : VW := (VW.done ((BE.not (BE.eq (IE.var .i64 11361) (IE.len (LE.fn 2 (AL.lst (LE.rom 0) (AL.int .i64 (IE.var .i64 1) (AL.int .i64 (IE.var .i64 2) (AL.int .u64 (IE.var .u64 3) AL.nil)))))))) :: pceach3_21) (some [(G.b (BE.lit true) (BE.lit false))]))
def weach3_6 : VW := (VW.done ((BE.le (IE.len (LE.fn 2 (AL.lst (LE.rom 0) (AL.int .i64 (IE.var .i64 1) (AL.int .i64 (IE.var .i64 2) (AL.int .u64 (IE.var .u64 3) AL.nil)))))) (IE.var .i64 11361)) :: pceach3_22) (some [(G.b (BE.lit true) (BE.lit false))]))
def weach3_7 : VW := (VW.cut 3 ((BE.eq (IE.add (IE.var .u64 11363) (IE.lit 1)) (IE.cel .u64 (LE.fn 2 (AL.lst (LE.rom 0) (AL.int .i64 (IE.var .i64 1) (AL.int .i64 (IE.var .i64 2) (AL.int .u64 (IE.var .u64 3) AL.nil))))) (IE.var .i64 11361) 2)) :: pceach3_29) (Sx.Sub.mk [(.u64, (11363, (IE.add (IE.var .u64 11363) (IE.lit 1)))), (.i64, (11362, (IE.wrap .i64 (IE.wrap .u64 (IE.add (IE.wrap .u64 (IE.var .i64 11362)) (IE.cel .i64 (LE.rom 0) (IE.var .i64 11361) 0)))))), (.i64, (11361, (IE.add (IE.var .i64 11361) (IE.lit 1))))] [] [] [] [] []))
def weach3_8 : VW := (VW.done ((BE.not (BE.eq (IE.add (IE.var .u64 11363) (IE.lit 1)) (IE.cel .u64 (LE.fn 2 (AL.lst (LE.rom 0) (AL.int .i64 (IE.var .i64 1) (AL.int .i64 (IE.var .i64 2) (AL.int .u64 (IE.var .u64 3) AL.nil))))) (IE.var .i64 11361) 2))) :: pceach3_29) (some [(G.b (BE.lit true) (BE.lit false))]))
def weach3_9 : VW := (VW.done ((BE.not (BE.eq (IE.var .i64 2) (IE.cel .i64 (LE.fn 2 (AL.lst (LE.rom 0) (AL.int .i64 (IE.var .i64 1) (AL.int .i64 (IE.var .i64 2) (AL.int .u64 (IE.var .u64 3) AL.nil))))) (IE.var .i64 11361) 1))) :: pceach3_27) (some [(G.b (BE.lit true) (BE.lit false))]))
def weach3_10 : VW := (VW.done ((BE.not (BE.eq (IE.wrap .i64 (IE.wrap .u64 (IE.add (IE.wrap .u64 (IE.var .i64 11362)) (IE.cel .i64 (LE.rom 0) (IE.var .i64 11361) 0)))) (IE.cel .i64 (LE.fn 2 (AL.lst (LE.rom 0) (AL.int .i64 (IE.var .i64 1) (AL.int .i64 (IE.var .i64 2) (AL.int .u64 (IE.var .u64 3) AL.nil))))) (IE.var .i64 11361) 0))) :: pceach3_25) (some [(G.b (BE.lit true) (BE.lit false))]))
def weach3_11 : VW := (VW.done ((BE.eq (IE.var .i64 11361) (IE.len (LE.fn 2 (AL.lst (LE.rom 0) (AL.int .i64 (IE.var .i64 1) (AL.int .i64 (IE.var .i64 2) (AL.int .u64 (IE.var .u64 3) AL.nil))))))) :: pceach3_18) (some []))
def weach3_12 : VW := (VW.done ((BE.not (BE.eq (IE.var .i64 11361) (IE.len (LE.fn 2 (AL.lst (LE.rom 0) (AL.int .i64 (IE.var .i64 1) (AL.int .i64 (IE.var .i64 2) (AL.int .u64 (IE.var .u64 3) AL.nil)))))))) :: pceach3_18) (some [(G.b (BE.lit true) (BE.lit false))]))
def weach3_13 : VW := (VW.done ((BE.eq (IE.var .i64 11361) (IE.len (LE.fn 2 (AL.lst (LE.rom 0) (AL.int .i64 (IE.var .i64 1) (AL.int .i64 (IE.var .i64 2) (AL.int .u64 (IE.var .u64 3) AL.nil))))))) :: pceach3_10) (some []))
def weach3_14 : VW := (VW.done ((BE.not (BE.eq (IE.var .i64 11361) (IE.len (LE.fn 2 (AL.lst (LE.rom 0) (AL.int .i64 (IE.var .i64 1) (AL.int .i64 (IE.var .i64 2) (AL.int .u64 (IE.var .u64 3) AL.nil)))))))) :: pceach3_10) (some [(G.b (BE.lit true) (BE.lit false))]))
def weach3_15 : VW := (VW.done ((BE.eq (IE.var .i64 11361) (IE.len (LE.fn 2 (AL.lst (LE.rom 0) (AL.int .i64 (IE.var .i64 1) (AL.int .i64 (IE.var .i64 2) (AL.int .u64 (IE.var .u64 3) AL.nil))))))) :: pceach3_6) (some []))
def weach3_16 : VW := (VW.done ((BE.not (BE.eq (IE.var .i64 11361) (IE.len (LE.fn 2 (AL.lst (LE.rom 0) (AL.int .i64 (IE.var .i64 1) (AL.int .i64 (IE.var .i64 2) (AL.int .u64 (IE.var .u64 3) AL.nil)))))))) :: pceach3_6) (some [(G.b (BE.lit true) (BE.lit false))]))
def weach3_17 : VW := (VW.done ((BE.eq (IE.var .i64 11361) (IE.len (LE.fn 2 (AL.lst (LE.rom 0) (AL.int .i64 (IE.var .i64 1) (AL.int .i64 (IE.var .i64 2) (AL.int .u64 (IE.var .u64 3) AL.nil))))))) :: pceach3_15) (some []))
def weach3_18 : VW := (VW.done ((BE.not (BE.eq (IE.var .i64 11361) (IE.len (LE.fn 2 (AL.lst (LE.rom 0) (AL.int .i64 (IE.var .i64 1) (AL.int .i64 (IE.var .i64 2) (AL.int .u64 (IE.var .u64 3) AL.nil)))))))) :: pceach3_15) (some [(G.b (BE.lit true) (BE.lit false))]))
def weach3_19 : VW := (VW.done ((BE.eq (IE.var .i64 11361) (IE.len (LE.fn 2 (AL.lst (LE.rom 0) (AL.int .i64 (IE.var .i64 1) (AL.int .i64 (IE.var .i64 2) (AL.int .u64 (IE.var .u64 3) AL.nil))))))) :: pceach3_23) (some []))
def weach3_20 : VW := (VW.done ((BE.not (BE.eq (IE.var .i64 11361) (IE.len (LE.fn 2 (AL.lst (LE.rom 0) (AL.int .i64 (IE.var .i64 1) (AL.int .i64 (IE.var .i64 2) (AL.int .u64 (IE.var .u64 3) AL.nil)))))))) :: pceach3_23) (some [(G.b (BE.lit true) (BE.lit false))]))
def weach3_21 : VW := (VW.done ((BE.le (IE.len (LE.fn 2 (AL.lst (LE.rom 0) (AL.int .i64 (IE.var .i64 1) (AL.int .i64 (IE.var .i64 2) (AL.int .u64 (IE.var .u64 3) AL.nil)))))) (IE.var .i64 11361)) :: pceach3_24) (some [(G.b (BE.lit true) (BE.lit false))]))
def weach3_22 : VW := (VW.cut 3 ((BE.eq (IE.add (IE.var .u64 11363) (IE.lit 1)) (IE.cel .u64 (LE.fn 2 (AL.lst (LE.rom 0) (AL.int .i64 (IE.var .i64 1) (AL.int .i64 (IE.var .i64 2) (AL.int .u64 (IE.var .u64 3) AL.nil))))) (IE.var .i64 11361) 2)) :: pceach3_30) (Sx.Sub.mk [(.u64, (11363, (IE.add (IE.var .u64 11363) (IE.lit 1)))), (.i64, (11362, (IE.wrap .i64 (IE.wrap .u64 (IE.sub (IE.wrap .u64 (IE.var .i64 11362)) (IE.wrap .u64 (IE.sub (IE.lit 0) (IE.wrap .u64 (IE.cel .i64 (LE.rom 0) (IE.var .i64 11361) 0))))))))), (.i64, (11361, (IE.add (IE.var .i64 11361) (IE.lit 1))))] [] [] [] [] []))
def weach3_23 : VW := (VW.done ((BE.not (BE.eq (IE.add (IE.var .u64 11363) (IE.lit 1)) (IE.cel .u64 (LE.fn 2 (AL.lst (LE.rom 0) (AL.int .i64 (IE.var .i64 1) (AL.int .i64 (IE.var .i64 2) (AL.int .u64 (IE.var .u64 3) AL.nil))))) (IE.var .i64 11361) 2))) :: pceach3_30) (some [(G.b (BE.lit true) (BE.lit false))]))
def weach3_24 : VW := (VW.done ((BE.not (BE.eq (IE.var .i64 2) (IE.cel .i64 (LE.fn 2 (AL.lst (LE.rom 0) (AL.int .i64 (IE.var .i64 1) (AL.int .i64 (IE.var .i64 2) (AL.int .u64 (IE.var .u64 3) AL.nil))))) (IE.var .i64 11361) 1))) :: pceach3_28) (some [(G.b (BE.lit true) (BE.lit false))]))
def weach3_25 : VW := (VW.done ((BE.not (BE.eq (IE.wrap .i64 (IE.wrap .u64 (IE.sub (IE.wrap .u64 (IE.var .i64 11362)) (IE.wrap .u64 (IE.sub (IE.lit 0) (IE.wrap .u64 (IE.cel .i64 (LE.rom 0) (IE.var .i64 11361) 0))))))) (IE.cel .i64 (LE.fn 2 (AL.lst (LE.rom 0) (AL.int .i64 (IE.var .i64 1) (AL.int .i64 (IE.var .i64 2) (AL.int .u64 (IE.var .u64 3) AL.nil))))) (IE.var .i64 11361) 0))) :: pceach3_26) (some [(G.b (BE.lit true) (BE.lit false))]))
def weach3_26 : VW := (VW.done ((BE.eq (IE.var .i64 11361) (IE.len (LE.fn 2 (AL.lst (LE.rom 0) (AL.int .i64 (IE.var .i64 1) (AL.int .i64 (IE.var .i64 2) (AL.int .u64 (IE.var .u64 3) AL.nil))))))) :: pceach3_20) (some []))
def weach3_27 : VW := (VW.done ((BE.not (BE.eq (IE.var .i64 11361) (IE.len (LE.fn 2 (AL.lst (LE.rom 0) (AL.int .i64 (IE.var .i64 1) (AL.int .i64 (IE.var .i64 2) (AL.int .u64 (IE.var .u64 3) AL.nil)))))))) :: pceach3_20) (some [(G.b (BE.lit true) (BE.lit false))]))
def weach3_28 : VW := (VW.done ((BE.eq (IE.var .i64 11361) (IE.len (LE.fn 2 (AL.lst (LE.rom 0) (AL.int .i64 (IE.var .i64 1) (AL.int .i64 (IE.var .i64 2) (AL.int .u64 (IE.var .u64 3) AL.nil))))))) :: pceach3_12) (some []))
def weach3_29 : VW := (VW.done ((BE.not (BE.eq (IE.var .i64 11361) (IE.len (LE.fn 2 (AL.lst (LE.rom 0) (AL.int .i64 (IE.var .i64 1) (AL.int .i64 (IE.var .i64 2) (AL.int .u64 (IE.var .u64 3) AL.nil)))))))) :: pceach3_12) (some [(G.b (BE.lit true) (BE.lit false))]))
def weach3_30 : VW := (VW.done ((BE.eq (IE.var .i64 11361) (IE.len (LE.fn 2 (AL.lst (LE.rom 0) (AL.int .i64 (IE.var .i64 1) (AL.int .i64 (IE.var .i64 2) (AL.int .u64 (IE.var .u64 3) AL.nil))))))) :: pceach3_8) (some []))
def weach3_31 : VW := (VW.done ((BE.not (BE.eq (IE.var .i64 11361) (IE.len (LE.fn 2 (AL.lst (LE.rom 0) (AL.int .i64 (IE.var .i64 1) (AL.int .i64 (IE.var .i64 2) (AL.int .u64 (IE.var .u64 3) AL.nil)))))))) :: pceach3_8) (some [(G.b (BE.lit true) (BE.lit false))]))
def vweach3 : List VW := [weach3_0, weach3_1, weach3_2, weach3_3, weach3_4, weach3_5, weach3_6, weach3_7, weach3_8, weach3_9, weach3_10, weach3_11, weach3_12, weach3_13, weach3_14, weach3_15, weach3_16, weach3_17, weach3_18, weach3_19, weach3_20, weach3_21, weach3_22, weach3_23, weach3_24, weach3_25, weach3_26, weach3_27, weach3_28, weach3_29, weach3_30, weach3_31]
def vweach : Nat → List VW
  | 0 => vweach0
  | 1 => vweach1
  | 2 => vweach2
  | 3 => vweach3
  | _ => []
end
def inveach : Nat → Lt → Prop
  | 1, l => At (l.z.rl 0) (l.i .i64 1) (l.i .i64 2) (l.i .u64 3) (l.i .i64 1001) (l.i .u64 1002) (l.i .i64 1000) ∧ ((l.i .i64 1000) = 0 ∨ (l.i .i64 1000) < (l.i .i64 4))
  | 2, l => (((l.i .i64 1000) = (stopE (l.z.rl 0) (l.i .i64 1) (l.i .i64 2) (l.i .u64 3) : Int) ∧ ((l.i .i64 1000) = 0 ∨ (l.i .i64 1000) < (l.i .i64 4))) ∨ ((l.i .i64 1000) ≤ (stopE (l.z.rl 0) (l.i .i64 1) (l.i .i64 2) (l.i .u64 3) : Int) ∧ 1 ≤ (l.i .i64 1000) ∧ (l.i .i64 4) ≤ (l.i .i64 1000) ∧ ((l.i .i64 1000) = 1 ∨ (l.i .i64 1000) - 1 < (l.i .i64 4))))
  | 3, l => At (l.z.rl 0) (l.i .i64 1) (l.i .i64 2) (l.i .u64 3) (l.i .i64 11362) (l.i .u64 11363) (l.i .i64 11361)
  | _, _ => True
def mseach : Nat → Lt → Nat
  | 0, l => 2 * (l.z.rl 0).length + 5
  | 1, l => (l.z.rl 0).length + 3 + ((l.z.rl 0).length - (l.i .i64 1000).toNat)
  | 2, l => (l.z.rl 0).length + 2
  | 3, l => (l.z.rl 0).length - (l.i .i64 11361).toNat
  | _, _ => 0
theorem vceach0_0 : VC TTeach inveach mseach 0 (startF 3 cEach.pat (.lit true :: cEach.pre)) weach0_0 := by
  intro ρ kn hi hp
  have hF : ρ.z.F = esc.Φ := kn.F
  simp only [h_nil, h_cons, d_le, d_eq, d_not, d_var, d_lit, d_cel, d_leq, d_fn, d_and, d_iff, IE.den, LE.den, AL.den, lenV, true_and, and_true, pceach0_4, pceach0_2, pceach0_1, pceach0_0, hF, pi1, pi2, pi3, pl2] at hp
  obtain ⟨p1, p2, p3, p4, p5, p6, p7, p8⟩ := hp
  refine (show (At (ρ.z.rl 0) (ρ.i .i64 1) (ρ.i .i64 2) (ρ.i .u64 3) (ρ.i .i64 1) (ρ.i .u64 3) (0 : Int) ∧ ((0 : Int) = 0 ∨ (0 : Int) < (ρ.i .i64 4))) ∧ (((ρ.z.rl 0).length + 3 + ((ρ.z.rl 0).length - (0 : Int).toNat) : Nat) < 2 * (ρ.z.rl 0).length + 5) from ?_)
  exact ⟨⟨at_eq (at_0 (ρ.z.rl 0) (ρ.i .i64 1) (ρ.i .i64 2) (ρ.i .u64 3)) (by first | rfl | omega) (by first | rfl | omega) (by first | rfl | omega), by omega⟩, by omega⟩
theorem vceach0_5 : VC TTeach inveach mseach 0 (startF 3 cEach.pat (.lit true :: cEach.pre)) weach0_5 := by
  intro ρ kn hi hp
  have hF : ρ.z.F = esc.Φ := kn.F
  simp only [h_nil, h_cons, d_le, d_eq, d_not, d_var, d_lit, d_cel, d_leq, d_fn, d_and, d_iff, IE.den, LE.den, AL.den, lenV, true_and, and_true, pceach0_17, pceach0_14, pceach0_11, pceach0_10, pceach0_4, pceach0_2, pceach0_1, pceach0_0, hF, pi1, pi2, pi3, pl2] at hp
  obtain ⟨p1, p2, p3, p4, p5, p6, p7, p8, p9, p10⟩ := hp
  exfalso
  have f1 : (-9223372036854775808 : Int) ≤ ρ.i .i64 2 := kn.ok.lo .i64 2
  have f2 : ρ.i .i64 2 ≤ (9223372036854775807 : Int) := kn.ok.hi .i64 2
  have x1 : (-9223372036854775808 : Int) ≤ ρ.i .i64 1 := kn.ok.lo .i64 1
  have x2 : ρ.i .i64 1 ≤ (9223372036854775807 : Int) := kn.ok.hi .i64 1
  have w1 : (0 : Int) ≤ ρ.i .u64 3 := kn.ok.lo .u64 3
  have bz := clamp_rng (intV (celV (ρ.z.rl 0) 0 0))
  have k := err_cases (ρ.i .i64 1) (ρ.i .i64 2) (ρ.i .u64 3) (clampK .i64 (intV (celV (ρ.z.rl 0) 0 0)))
  simp only [err_in] at *
  try simp only [u64w, i64w] at *
  all_goals omega
theorem vceach0_12 : VC TTeach inveach mseach 0 (startF 3 cEach.pat (.lit true :: cEach.pre)) weach0_12 := by
  intro ρ kn hi hp
  have hF : ρ.z.F = esc.Φ := kn.F
  simp only [h_nil, h_cons, d_le, d_eq, d_not, d_var, d_lit, d_cel, d_leq, d_fn, d_and, d_iff, IE.den, LE.den, AL.den, lenV, true_and, and_true, pceach0_19, pceach0_16, pceach0_12, pceach0_10, pceach0_4, pceach0_2, pceach0_1, pceach0_0, hF, pi1, pi2, pi3, pl2] at hp
  obtain ⟨p1, p2, p3, p4, p5, p6, p7, p8, p9, p10⟩ := hp
  exfalso
  have f1 : (-9223372036854775808 : Int) ≤ ρ.i .i64 2 := kn.ok.lo .i64 2
  have f2 : ρ.i .i64 2 ≤ (9223372036854775807 : Int) := kn.ok.hi .i64 2
  have x1 : (-9223372036854775808 : Int) ≤ ρ.i .i64 1 := kn.ok.lo .i64 1
  have x2 : ρ.i .i64 1 ≤ (9223372036854775807 : Int) := kn.ok.hi .i64 1
  have w1 : (0 : Int) ≤ ρ.i .u64 3 := kn.ok.lo .u64 3
  have bz := clamp_rng (intV (celV (ρ.z.rl 0) 0 0))
  have k := err_cases (ρ.i .i64 1) (ρ.i .i64 2) (ρ.i .u64 3) (clampK .i64 (intV (celV (ρ.z.rl 0) 0 0)))
  simp only [err_in] at *
  try simp only [u64w, i64w] at *
  all_goals omega
def iveach1 (ρ : Rho) : Prop := At (ρ.z.rl 0) (ρ.i .i64 1) (ρ.i .i64 2) (ρ.i .u64 3) (ρ.i .i64 1001) (ρ.i .u64 1002) (ρ.i .i64 1000) ∧ ((ρ.i .i64 1000) = 0 ∨ (ρ.i .i64 1000) < (ρ.i .i64 4))
theorem vcgeach1_0 : VC TTeach inveach mseach 1 teach1 weach1_3 ∧ VC TTeach inveach mseach 1 teach1 weach1_6 ∧ VC TTeach inveach mseach 1 teach1 weach1_7 ∧ VC TTeach inveach mseach 1 teach1 weach1_8 ∧ VC TTeach inveach mseach 1 teach1 weach1_14 ∧ VC TTeach inveach mseach 1 teach1 weach1_17 ∧ VC TTeach inveach mseach 1 teach1 weach1_18 ∧ VC TTeach inveach mseach 1 teach1 weach1_19 := by
  refine ⟨?_, ?_, ?_, ?_, ?_, ?_, ?_, ?_⟩
  all_goals
    intro ρ kn hi hp
    have hi : iveach1 ρ := hi
    unfold iveach1 at hi
    have hF : ρ.z.F = esc.Φ := kn.F
    simp only [h_nil, h_cons, d_le, d_eq, d_not, d_var, d_lit, d_cel, d_leq, d_fn, d_and, d_iff, IE.den, LE.den, AL.den, lenV, true_and, and_true, pceach1_12, pceach1_10, pceach1_8, pceach1_6, pceach1_4, pceach1_2, pceach1_1, pceach1_0, pceach1_18, pceach1_16, pceach1_14, pceach1_13, pceach1_11, pceach1_9, pceach1_7, pceach1_5, pceach1_3, pceach1_19, pceach1_17, pceach1_15, hF, pi1, pi2, pi3, pl2] at hp
    have p1 := And.left hp
    replace hp := And.right hp
    repeat (have _ := And.left hp; replace hp := And.right hp)
    exfalso
    obtain ⟨a, hm⟩ := hi
    have f1 : (-9223372036854775808 : Int) ≤ ρ.i .i64 2 := kn.ok.lo .i64 2
    have f2 : ρ.i .i64 2 ≤ (9223372036854775807 : Int) := kn.ok.hi .i64 2
    have x2 : ρ.i .i64 1001 ≤ (9223372036854775807 : Int) := kn.ok.hi .i64 1001
    have w1 : (0 : Int) ≤ ρ.i .u64 1002 := kn.ok.lo .u64 1002
    have x1 : (-9223372036854775808 : Int) ≤ ρ.i .i64 1001 := kn.ok.lo .i64 1001
    have bz := clamp_rng (intV (celV (ρ.z.rl 0) (ρ.i .i64 1000) 0))
    have st := stop_in kn.ok (ρ.i .i64 1) (ρ.i .i64 2) (ρ.i .u64 3)
    have ol := out_len (ρ.z.rl 0) (ρ.i .i64 1) (ρ.i .i64 2) (ρ.i .u64 3) (stopE (ρ.z.rl 0) (ρ.i .i64 1) (ρ.i .i64 2) (ρ.i .u64 3))
    have k := err_cases (ρ.i .i64 1001) (ρ.i .i64 2) (ρ.i .u64 1002) (clampK .i64 (intV (celV (ρ.z.rl 0) (ρ.i .i64 1000) 0)))
    try simp only [u64w, i64w] at *
    all_goals
      by_cases hL : ρ.i .i64 1000 < ((ρ.z.rl 0).length : Int)
      · by_cases hE : errN (ρ.i .i64 1001) (ρ.i .i64 2) (ρ.i .u64 1002) (clampK .i64 (intV (celV (ρ.z.rl 0) (ρ.i .i64 1000) 0))) = 0
        · have r := at_row (by omega) hL a ⟨f1, f2⟩ x2 w1 hE
          have q1 := r.lt
          have q2 := r.c0
          have q3 := r.c1
          have q4 := r.c2
          first
            | omega
            | skip
        · have q1 := at_stop (by omega) hL a hE
          first
            | omega
            | skip
      · have q1 := at_end (by omega) (by omega) a
        first
          | omega
          | skip
theorem vceach1_0 : VC TTeach inveach mseach 1 teach1 weach1_0 := by
  intro ρ kn hi hp
  have hi : iveach1 ρ := hi
  unfold iveach1 at hi
  have hF : ρ.z.F = esc.Φ := kn.F
  simp only [h_nil, h_cons, d_le, d_eq, d_not, d_var, d_lit, d_cel, d_leq, d_fn, d_and, d_iff, IE.den, LE.den, AL.den, lenV, true_and, and_true, pceach1_0, hF, pi1, pi2, pi3, pl2] at hp
  obtain ⟨p1, p2, p3, p4, p5, p6, p7, p8, p9, p10, p11⟩ := hp
  refine (show ((((ρ.i .i64 1000) = (stopE (ρ.z.rl 0) (ρ.i .i64 1) (ρ.i .i64 2) (ρ.i .u64 3) : Int) ∧ ((ρ.i .i64 1000) = 0 ∨ (ρ.i .i64 1000) < (ρ.i .i64 4))) ∨ ((ρ.i .i64 1000) ≤ (stopE (ρ.z.rl 0) (ρ.i .i64 1) (ρ.i .i64 2) (ρ.i .u64 3) : Int) ∧ 1 ≤ (ρ.i .i64 1000) ∧ (ρ.i .i64 4) ≤ (ρ.i .i64 1000) ∧ ((ρ.i .i64 1000) = 1 ∨ (ρ.i .i64 1000) - 1 < (ρ.i .i64 4))))) ∧ (((ρ.z.rl 0).length + 2 : Nat) < (ρ.z.rl 0).length + 3 + ((ρ.z.rl 0).length - (ρ.i .i64 1000).toNat)) from ?_)
  obtain ⟨a, hm⟩ := hi
  have f1 : (-9223372036854775808 : Int) ≤ ρ.i .i64 2 := kn.ok.lo .i64 2
  have f2 : ρ.i .i64 2 ≤ (9223372036854775807 : Int) := kn.ok.hi .i64 2
  have x2 : ρ.i .i64 1001 ≤ (9223372036854775807 : Int) := kn.ok.hi .i64 1001
  have w1 : (0 : Int) ≤ ρ.i .u64 1002 := kn.ok.lo .u64 1002
  have x1 : (-9223372036854775808 : Int) ≤ ρ.i .i64 1001 := kn.ok.lo .i64 1001
  have bz := clamp_rng (intV (celV (ρ.z.rl 0) (ρ.i .i64 1000) 0))
  have st := stop_in kn.ok (ρ.i .i64 1) (ρ.i .i64 2) (ρ.i .u64 3)
  have ol := out_len (ρ.z.rl 0) (ρ.i .i64 1) (ρ.i .i64 2) (ρ.i .u64 3) (stopE (ρ.z.rl 0) (ρ.i .i64 1) (ρ.i .i64 2) (ρ.i .u64 3))
  have k := err_cases (ρ.i .i64 1001) (ρ.i .i64 2) (ρ.i .u64 1002) (clampK .i64 (intV (celV (ρ.z.rl 0) (ρ.i .i64 1000) 0)))
  try simp only [u64w, i64w] at *
  all_goals
    by_cases hL : ρ.i .i64 1000 < ((ρ.z.rl 0).length : Int)
    · by_cases hE : errN (ρ.i .i64 1001) (ρ.i .i64 2) (ρ.i .u64 1002) (clampK .i64 (intV (celV (ρ.z.rl 0) (ρ.i .i64 1000) 0))) = 0
      · have r := at_row (by omega) hL a ⟨f1, f2⟩ x2 w1 hE
        have q1 := r.lt
        have q2 := r.c0
        have q3 := r.c1
        have q4 := r.c2
        first
          | omega
          | skip
      · have q1 := at_stop (by omega) hL a hE
        first
          | omega
          | skip
    · have q1 := at_end (by omega) (by omega) a
      first
        | omega
        | skip
theorem vceach1_1 : VC TTeach inveach mseach 1 teach1 weach1_1 := by
  intro ρ kn hi hp
  have hi : iveach1 ρ := hi
  unfold iveach1 at hi
  have hF : ρ.z.F = esc.Φ := kn.F
  simp only [h_nil, h_cons, d_le, d_eq, d_not, d_var, d_lit, d_cel, d_leq, d_fn, d_and, d_iff, IE.den, LE.den, AL.den, lenV, true_and, and_true, pceach1_6, pceach1_4, pceach1_2, pceach1_1, pceach1_0, hF, pi1, pi2, pi3, pl2] at hp
  obtain ⟨p1, p2, p3, p4, p5, p6, p7, p8, p9, p10, p11, p12, p13, p14, p15⟩ := hp
  refine (show ((((ρ.i .i64 1000) = (stopE (ρ.z.rl 0) (ρ.i .i64 1) (ρ.i .i64 2) (ρ.i .u64 3) : Int) ∧ ((ρ.i .i64 1000) = 0 ∨ (ρ.i .i64 1000) < (ρ.i .i64 4))) ∨ ((ρ.i .i64 1000) ≤ (stopE (ρ.z.rl 0) (ρ.i .i64 1) (ρ.i .i64 2) (ρ.i .u64 3) : Int) ∧ 1 ≤ (ρ.i .i64 1000) ∧ (ρ.i .i64 4) ≤ (ρ.i .i64 1000) ∧ ((ρ.i .i64 1000) = 1 ∨ (ρ.i .i64 1000) - 1 < (ρ.i .i64 4))))) ∧ (((ρ.z.rl 0).length + 2 : Nat) < (ρ.z.rl 0).length + 3 + ((ρ.z.rl 0).length - (ρ.i .i64 1000).toNat)) from ?_)
  obtain ⟨a, hm⟩ := hi
  have f1 : (-9223372036854775808 : Int) ≤ ρ.i .i64 2 := kn.ok.lo .i64 2
  have f2 : ρ.i .i64 2 ≤ (9223372036854775807 : Int) := kn.ok.hi .i64 2
  have x2 : ρ.i .i64 1001 ≤ (9223372036854775807 : Int) := kn.ok.hi .i64 1001
  have w1 : (0 : Int) ≤ ρ.i .u64 1002 := kn.ok.lo .u64 1002
  have x1 : (-9223372036854775808 : Int) ≤ ρ.i .i64 1001 := kn.ok.lo .i64 1001
  have bz := clamp_rng (intV (celV (ρ.z.rl 0) (ρ.i .i64 1000) 0))
  have st := stop_in kn.ok (ρ.i .i64 1) (ρ.i .i64 2) (ρ.i .u64 3)
  have ol := out_len (ρ.z.rl 0) (ρ.i .i64 1) (ρ.i .i64 2) (ρ.i .u64 3) (stopE (ρ.z.rl 0) (ρ.i .i64 1) (ρ.i .i64 2) (ρ.i .u64 3))
  have k := err_cases (ρ.i .i64 1001) (ρ.i .i64 2) (ρ.i .u64 1002) (clampK .i64 (intV (celV (ρ.z.rl 0) (ρ.i .i64 1000) 0)))
  try simp only [u64w, i64w] at *
  all_goals
    by_cases hL : ρ.i .i64 1000 < ((ρ.z.rl 0).length : Int)
    · by_cases hE : errN (ρ.i .i64 1001) (ρ.i .i64 2) (ρ.i .u64 1002) (clampK .i64 (intV (celV (ρ.z.rl 0) (ρ.i .i64 1000) 0))) = 0
      · have r := at_row (by omega) hL a ⟨f1, f2⟩ x2 w1 hE
        have q1 := r.lt
        have q2 := r.c0
        have q3 := r.c1
        have q4 := r.c2
        first
          | omega
          | skip
      · have q1 := at_stop (by omega) hL a hE
        first
          | omega
          | skip
    · have q1 := at_end (by omega) (by omega) a
      first
        | omega
        | skip
theorem vceach1_2 : VC TTeach inveach mseach 1 teach1 weach1_2 := by
  intro ρ kn hi hp
  have hi : iveach1 ρ := hi
  unfold iveach1 at hi
  have hF : ρ.z.F = esc.Φ := kn.F
  simp only [h_nil, h_cons, d_le, d_eq, d_not, d_var, d_lit, d_cel, d_leq, d_fn, d_and, d_iff, IE.den, LE.den, AL.den, lenV, true_and, and_true, pceach1_10, pceach1_8, pceach1_6, pceach1_4, pceach1_2, pceach1_1, pceach1_0, hF, pi1, pi2, pi3, pl2] at hp
  obtain ⟨p1, p2, p3, p4, p5, p6, p7, p8, p9, p10, p11, p12, p13, p14, p15, p16, p17⟩ := hp
  refine (show ((((ρ.i .i64 1000) = (stopE (ρ.z.rl 0) (ρ.i .i64 1) (ρ.i .i64 2) (ρ.i .u64 3) : Int) ∧ ((ρ.i .i64 1000) = 0 ∨ (ρ.i .i64 1000) < (ρ.i .i64 4))) ∨ ((ρ.i .i64 1000) ≤ (stopE (ρ.z.rl 0) (ρ.i .i64 1) (ρ.i .i64 2) (ρ.i .u64 3) : Int) ∧ 1 ≤ (ρ.i .i64 1000) ∧ (ρ.i .i64 4) ≤ (ρ.i .i64 1000) ∧ ((ρ.i .i64 1000) = 1 ∨ (ρ.i .i64 1000) - 1 < (ρ.i .i64 4))))) ∧ (((ρ.z.rl 0).length + 2 : Nat) < (ρ.z.rl 0).length + 3 + ((ρ.z.rl 0).length - (ρ.i .i64 1000).toNat)) from ?_)
  obtain ⟨a, hm⟩ := hi
  have f1 : (-9223372036854775808 : Int) ≤ ρ.i .i64 2 := kn.ok.lo .i64 2
  have f2 : ρ.i .i64 2 ≤ (9223372036854775807 : Int) := kn.ok.hi .i64 2
  have x2 : ρ.i .i64 1001 ≤ (9223372036854775807 : Int) := kn.ok.hi .i64 1001
  have w1 : (0 : Int) ≤ ρ.i .u64 1002 := kn.ok.lo .u64 1002
  have x1 : (-9223372036854775808 : Int) ≤ ρ.i .i64 1001 := kn.ok.lo .i64 1001
  have bz := clamp_rng (intV (celV (ρ.z.rl 0) (ρ.i .i64 1000) 0))
  have st := stop_in kn.ok (ρ.i .i64 1) (ρ.i .i64 2) (ρ.i .u64 3)
  have ol := out_len (ρ.z.rl 0) (ρ.i .i64 1) (ρ.i .i64 2) (ρ.i .u64 3) (stopE (ρ.z.rl 0) (ρ.i .i64 1) (ρ.i .i64 2) (ρ.i .u64 3))
  have k := err_cases (ρ.i .i64 1001) (ρ.i .i64 2) (ρ.i .u64 1002) (clampK .i64 (intV (celV (ρ.z.rl 0) (ρ.i .i64 1000) 0)))
  try simp only [u64w, i64w] at *
  all_goals
    by_cases hL : ρ.i .i64 1000 < ((ρ.z.rl 0).length : Int)
    · by_cases hE : errN (ρ.i .i64 1001) (ρ.i .i64 2) (ρ.i .u64 1002) (clampK .i64 (intV (celV (ρ.z.rl 0) (ρ.i .i64 1000) 0))) = 0
      · have r := at_row (by omega) hL a ⟨f1, f2⟩ x2 w1 hE
        have q1 := r.lt
        have q2 := r.c0
        have q3 := r.c1
        have q4 := r.c2
        first
          | omega
          | skip
      · have q1 := at_stop (by omega) hL a hE
        first
          | omega
          | skip
    · have q1 := at_end (by omega) (by omega) a
      first
        | omega
        | skip
theorem vceach1_4 : VC TTeach inveach mseach 1 teach1 weach1_4 := by
  intro ρ kn hi hp
  have hi : iveach1 ρ := hi
  unfold iveach1 at hi
  have hF : ρ.z.F = esc.Φ := kn.F
  simp only [h_nil, h_cons, d_le, d_eq, d_not, d_var, d_lit, d_cel, d_leq, d_fn, d_and, d_iff, IE.den, LE.den, AL.den, lenV, true_and, and_true, pceach1_20, pceach1_18, pceach1_16, pceach1_14, pceach1_12, pceach1_10, pceach1_8, pceach1_6, pceach1_4, pceach1_2, pceach1_1, pceach1_0, hF, pi1, pi2, pi3, pl2] at hp
  obtain ⟨p1, p2, p3, p4, p5, p6, p7, p8, p9, p10, p11, p12, p13, p14, p15, p16, p17, p18, p19, p20, p21, p22⟩ := hp
  refine (show (((((ρ.i .i64 1000) + (1 : Int)) = (stopE (ρ.z.rl 0) (ρ.i .i64 1) (ρ.i .i64 2) (ρ.i .u64 3) : Int) ∧ (((ρ.i .i64 1000) + (1 : Int)) = 0 ∨ ((ρ.i .i64 1000) + (1 : Int)) < (ρ.i .i64 4))) ∨ (((ρ.i .i64 1000) + (1 : Int)) ≤ (stopE (ρ.z.rl 0) (ρ.i .i64 1) (ρ.i .i64 2) (ρ.i .u64 3) : Int) ∧ 1 ≤ ((ρ.i .i64 1000) + (1 : Int)) ∧ (ρ.i .i64 4) ≤ ((ρ.i .i64 1000) + (1 : Int)) ∧ (((ρ.i .i64 1000) + (1 : Int)) = 1 ∨ ((ρ.i .i64 1000) + (1 : Int)) - 1 < (ρ.i .i64 4))))) ∧ (((ρ.z.rl 0).length + 2 : Nat) < (ρ.z.rl 0).length + 3 + ((ρ.z.rl 0).length - (ρ.i .i64 1000).toNat)) from ?_)
  obtain ⟨a, hm⟩ := hi
  have f1 : (-9223372036854775808 : Int) ≤ ρ.i .i64 2 := kn.ok.lo .i64 2
  have f2 : ρ.i .i64 2 ≤ (9223372036854775807 : Int) := kn.ok.hi .i64 2
  have x2 : ρ.i .i64 1001 ≤ (9223372036854775807 : Int) := kn.ok.hi .i64 1001
  have w1 : (0 : Int) ≤ ρ.i .u64 1002 := kn.ok.lo .u64 1002
  have x1 : (-9223372036854775808 : Int) ≤ ρ.i .i64 1001 := kn.ok.lo .i64 1001
  have bz := clamp_rng (intV (celV (ρ.z.rl 0) (ρ.i .i64 1000) 0))
  have st := stop_in kn.ok (ρ.i .i64 1) (ρ.i .i64 2) (ρ.i .u64 3)
  have ol := out_len (ρ.z.rl 0) (ρ.i .i64 1) (ρ.i .i64 2) (ρ.i .u64 3) (stopE (ρ.z.rl 0) (ρ.i .i64 1) (ρ.i .i64 2) (ρ.i .u64 3))
  have k := err_cases (ρ.i .i64 1001) (ρ.i .i64 2) (ρ.i .u64 1002) (clampK .i64 (intV (celV (ρ.z.rl 0) (ρ.i .i64 1000) 0)))
  try simp only [u64w, i64w] at *
  all_goals
    by_cases hL : ρ.i .i64 1000 < ((ρ.z.rl 0).length : Int)
    · by_cases hE : errN (ρ.i .i64 1001) (ρ.i .i64 2) (ρ.i .u64 1002) (clampK .i64 (intV (celV (ρ.z.rl 0) (ρ.i .i64 1000) 0))) = 0
      · have r := at_row (by omega) hL a ⟨f1, f2⟩ x2 w1 hE
        have q1 := r.lt
        have q2 := r.c0
        have q3 := r.c1
        have q4 := r.c2
        first
          | omega
          | skip
      · have q1 := at_stop (by omega) hL a hE
        first
          | omega
          | skip
    · have q1 := at_end (by omega) (by omega) a
      first
        | omega
        | skip
theorem vceach1_5 : VC TTeach inveach mseach 1 teach1 weach1_5 := by
  intro ρ kn hi hp
  have hi : iveach1 ρ := hi
  unfold iveach1 at hi
  have hF : ρ.z.F = esc.Φ := kn.F
  simp only [h_nil, h_cons, d_le, d_eq, d_not, d_var, d_lit, d_cel, d_leq, d_fn, d_and, d_iff, IE.den, LE.den, AL.den, lenV, true_and, and_true, pceach1_20, pceach1_18, pceach1_16, pceach1_14, pceach1_12, pceach1_10, pceach1_8, pceach1_6, pceach1_4, pceach1_2, pceach1_1, pceach1_0, hF, pi1, pi2, pi3, pl2] at hp
  obtain ⟨p1, p2, p3, p4, p5, p6, p7, p8, p9, p10, p11, p12, p13, p14, p15, p16, p17, p18, p19, p20, p21, p22⟩ := hp
  refine (show (At (ρ.z.rl 0) (ρ.i .i64 1) (ρ.i .i64 2) (ρ.i .u64 3) (IntKind.wrap .i64 (IntKind.wrap .u64 ((IntKind.wrap .u64 (ρ.i .i64 1001)) + (clampK .i64 (intV (celV (ρ.z.rl 0) (ρ.i .i64 1000) 0)))))) ((ρ.i .u64 1002) + (1 : Int)) ((ρ.i .i64 1000) + (1 : Int)) ∧ (((ρ.i .i64 1000) + (1 : Int)) = 0 ∨ ((ρ.i .i64 1000) + (1 : Int)) < (ρ.i .i64 4))) ∧ (((ρ.z.rl 0).length + 3 + ((ρ.z.rl 0).length - ((ρ.i .i64 1000) + (1 : Int)).toNat) : Nat) < (ρ.z.rl 0).length + 3 + ((ρ.z.rl 0).length - (ρ.i .i64 1000).toNat)) from ?_)
  obtain ⟨a, hm⟩ := hi
  have f1 : (-9223372036854775808 : Int) ≤ ρ.i .i64 2 := kn.ok.lo .i64 2
  have f2 : ρ.i .i64 2 ≤ (9223372036854775807 : Int) := kn.ok.hi .i64 2
  have x2 : ρ.i .i64 1001 ≤ (9223372036854775807 : Int) := kn.ok.hi .i64 1001
  have w1 : (0 : Int) ≤ ρ.i .u64 1002 := kn.ok.lo .u64 1002
  have x1 : (-9223372036854775808 : Int) ≤ ρ.i .i64 1001 := kn.ok.lo .i64 1001
  have bz := clamp_rng (intV (celV (ρ.z.rl 0) (ρ.i .i64 1000) 0))
  have st := stop_in kn.ok (ρ.i .i64 1) (ρ.i .i64 2) (ρ.i .u64 3)
  have ol := out_len (ρ.z.rl 0) (ρ.i .i64 1) (ρ.i .i64 2) (ρ.i .u64 3) (stopE (ρ.z.rl 0) (ρ.i .i64 1) (ρ.i .i64 2) (ρ.i .u64 3))
  have k := err_cases (ρ.i .i64 1001) (ρ.i .i64 2) (ρ.i .u64 1002) (clampK .i64 (intV (celV (ρ.z.rl 0) (ρ.i .i64 1000) 0)))
  try simp only [u64w, i64w] at *
  all_goals
    by_cases hL : ρ.i .i64 1000 < ((ρ.z.rl 0).length : Int)
    · by_cases hE : errN (ρ.i .i64 1001) (ρ.i .i64 2) (ρ.i .u64 1002) (clampK .i64 (intV (celV (ρ.z.rl 0) (ρ.i .i64 1000) 0))) = 0
      · have r := at_row (by omega) hL a ⟨f1, f2⟩ x2 w1 hE
        have q1 := r.lt
        have q2 := r.c0
        have q3 := r.c1
        have q4 := r.c2
        first
          | omega
          | exact ⟨⟨at_eq r.nxt (by omega) (by omega) (by omega), by omega⟩, by omega⟩
      · have q1 := at_stop (by omega) hL a hE
        first
          | omega
          | skip
    · have q1 := at_end (by omega) (by omega) a
      first
        | omega
        | skip
theorem vceach1_9 : VC TTeach inveach mseach 1 teach1 weach1_9 := by
  intro ρ kn hi hp
  have hi : iveach1 ρ := hi
  unfold iveach1 at hi
  have hF : ρ.z.F = esc.Φ := kn.F
  simp only [h_nil, h_cons, d_le, d_eq, d_not, d_var, d_lit, d_cel, d_leq, d_fn, d_and, d_iff, IE.den, LE.den, AL.den, lenV, true_and, and_true, pceach1_8, pceach1_6, pceach1_4, pceach1_2, pceach1_1, pceach1_0, hF, pi1, pi2, pi3, pl2] at hp
  obtain ⟨p1, p2, p3, p4, p5, p6, p7, p8, p9, p10, p11, p12, p13, p14, p15, p16⟩ := hp
  refine (show ((((ρ.i .i64 1000) = (stopE (ρ.z.rl 0) (ρ.i .i64 1) (ρ.i .i64 2) (ρ.i .u64 3) : Int) ∧ ((ρ.i .i64 1000) = 0 ∨ (ρ.i .i64 1000) < (ρ.i .i64 4))) ∨ ((ρ.i .i64 1000) ≤ (stopE (ρ.z.rl 0) (ρ.i .i64 1) (ρ.i .i64 2) (ρ.i .u64 3) : Int) ∧ 1 ≤ (ρ.i .i64 1000) ∧ (ρ.i .i64 4) ≤ (ρ.i .i64 1000) ∧ ((ρ.i .i64 1000) = 1 ∨ (ρ.i .i64 1000) - 1 < (ρ.i .i64 4))))) ∧ (((ρ.z.rl 0).length + 2 : Nat) < (ρ.z.rl 0).length + 3 + ((ρ.z.rl 0).length - (ρ.i .i64 1000).toNat)) from ?_)
  obtain ⟨a, hm⟩ := hi
  have f1 : (-9223372036854775808 : Int) ≤ ρ.i .i64 2 := kn.ok.lo .i64 2
  have f2 : ρ.i .i64 2 ≤ (9223372036854775807 : Int) := kn.ok.hi .i64 2
  have x2 : ρ.i .i64 1001 ≤ (9223372036854775807 : Int) := kn.ok.hi .i64 1001
  have w1 : (0 : Int) ≤ ρ.i .u64 1002 := kn.ok.lo .u64 1002
  have x1 : (-9223372036854775808 : Int) ≤ ρ.i .i64 1001 := kn.ok.lo .i64 1001
  have bz := clamp_rng (intV (celV (ρ.z.rl 0) (ρ.i .i64 1000) 0))
  have st := stop_in kn.ok (ρ.i .i64 1) (ρ.i .i64 2) (ρ.i .u64 3)
  have ol := out_len (ρ.z.rl 0) (ρ.i .i64 1) (ρ.i .i64 2) (ρ.i .u64 3) (stopE (ρ.z.rl 0) (ρ.i .i64 1) (ρ.i .i64 2) (ρ.i .u64 3))
  have k := err_cases (ρ.i .i64 1001) (ρ.i .i64 2) (ρ.i .u64 1002) (clampK .i64 (intV (celV (ρ.z.rl 0) (ρ.i .i64 1000) 0)))
  try simp only [u64w, i64w] at *
  all_goals
    by_cases hL : ρ.i .i64 1000 < ((ρ.z.rl 0).length : Int)
    · by_cases hE : errN (ρ.i .i64 1001) (ρ.i .i64 2) (ρ.i .u64 1002) (clampK .i64 (intV (celV (ρ.z.rl 0) (ρ.i .i64 1000) 0))) = 0
      · have r := at_row (by omega) hL a ⟨f1, f2⟩ x2 w1 hE
        have q1 := r.lt
        have q2 := r.c0
        have q3 := r.c1
        have q4 := r.c2
        first
          | omega
          | skip
      · have q1 := at_stop (by omega) hL a hE
        first
          | omega
          | skip
    · have q1 := at_end (by omega) (by omega) a
      first
        | omega
        | skip
theorem vceach1_10 : VC TTeach inveach mseach 1 teach1 weach1_10 := by
  intro ρ kn hi hp
  have hi : iveach1 ρ := hi
  unfold iveach1 at hi
  have hF : ρ.z.F = esc.Φ := kn.F
  simp only [h_nil, h_cons, d_le, d_eq, d_not, d_var, d_lit, d_cel, d_leq, d_fn, d_and, d_iff, IE.den, LE.den, AL.den, lenV, true_and, and_true, pceach1_4, pceach1_2, pceach1_1, pceach1_0, hF, pi1, pi2, pi3, pl2] at hp
  obtain ⟨p1, p2, p3, p4, p5, p6, p7, p8, p9, p10, p11, p12, p13, p14⟩ := hp
  refine (show ((((ρ.i .i64 1000) = (stopE (ρ.z.rl 0) (ρ.i .i64 1) (ρ.i .i64 2) (ρ.i .u64 3) : Int) ∧ ((ρ.i .i64 1000) = 0 ∨ (ρ.i .i64 1000) < (ρ.i .i64 4))) ∨ ((ρ.i .i64 1000) ≤ (stopE (ρ.z.rl 0) (ρ.i .i64 1) (ρ.i .i64 2) (ρ.i .u64 3) : Int) ∧ 1 ≤ (ρ.i .i64 1000) ∧ (ρ.i .i64 4) ≤ (ρ.i .i64 1000) ∧ ((ρ.i .i64 1000) = 1 ∨ (ρ.i .i64 1000) - 1 < (ρ.i .i64 4))))) ∧ (((ρ.z.rl 0).length + 2 : Nat) < (ρ.z.rl 0).length + 3 + ((ρ.z.rl 0).length - (ρ.i .i64 1000).toNat)) from ?_)
  obtain ⟨a, hm⟩ := hi
  have f1 : (-9223372036854775808 : Int) ≤ ρ.i .i64 2 := kn.ok.lo .i64 2
  have f2 : ρ.i .i64 2 ≤ (9223372036854775807 : Int) := kn.ok.hi .i64 2
  have x2 : ρ.i .i64 1001 ≤ (9223372036854775807 : Int) := kn.ok.hi .i64 1001
  have w1 : (0 : Int) ≤ ρ.i .u64 1002 := kn.ok.lo .u64 1002
  have x1 : (-9223372036854775808 : Int) ≤ ρ.i .i64 1001 := kn.ok.lo .i64 1001
  have bz := clamp_rng (intV (celV (ρ.z.rl 0) (ρ.i .i64 1000) 0))
  have st := stop_in kn.ok (ρ.i .i64 1) (ρ.i .i64 2) (ρ.i .u64 3)
  have ol := out_len (ρ.z.rl 0) (ρ.i .i64 1) (ρ.i .i64 2) (ρ.i .u64 3) (stopE (ρ.z.rl 0) (ρ.i .i64 1) (ρ.i .i64 2) (ρ.i .u64 3))
  have k := err_cases (ρ.i .i64 1001) (ρ.i .i64 2) (ρ.i .u64 1002) (clampK .i64 (intV (celV (ρ.z.rl 0) (ρ.i .i64 1000) 0)))
  try simp only [u64w, i64w] at *
  all_goals
    by_cases hL : ρ.i .i64 1000 < ((ρ.z.rl 0).length : Int)
    · by_cases hE : errN (ρ.i .i64 1001) (ρ.i .i64 2) (ρ.i .u64 1002) (clampK .i64 (intV (celV (ρ.z.rl 0) (ρ.i .i64 1000) 0))) = 0
      · have r := at_row (by omega) hL a ⟨f1, f2⟩ x2 w1 hE
        have q1 := r.lt
        have q2 := r.c0
        have q3 := r.c1
        have q4 := r.c2
        first
          | omega
          | skip
      · have q1 := at_stop (by omega) hL a hE
        first
          | omega
          | skip
    · have q1 := at_end (by omega) (by omega) a
      first
        | omega
        | skip
theorem vceach1_11 : VC TTeach inveach mseach 1 teach1 weach1_11 := by
  intro ρ kn hi hp
  have hi : iveach1 ρ := hi
  unfold iveach1 at hi
  have hF : ρ.z.F = esc.Φ := kn.F
  simp only [h_nil, h_cons, d_le, d_eq, d_not, d_var, d_lit, d_cel, d_leq, d_fn, d_and, d_iff, IE.den, LE.den, AL.den, lenV, true_and, and_true, pceach1_2, pceach1_1, pceach1_0, hF, pi1, pi2, pi3, pl2] at hp
  obtain ⟨p1, p2, p3, p4, p5, p6, p7, p8, p9, p10, p11, p12, p13⟩ := hp
  refine (show ((((ρ.i .i64 1000) = (stopE (ρ.z.rl 0) (ρ.i .i64 1) (ρ.i .i64 2) (ρ.i .u64 3) : Int) ∧ ((ρ.i .i64 1000) = 0 ∨ (ρ.i .i64 1000) < (ρ.i .i64 4))) ∨ ((ρ.i .i64 1000) ≤ (stopE (ρ.z.rl 0) (ρ.i .i64 1) (ρ.i .i64 2) (ρ.i .u64 3) : Int) ∧ 1 ≤ (ρ.i .i64 1000) ∧ (ρ.i .i64 4) ≤ (ρ.i .i64 1000) ∧ ((ρ.i .i64 1000) = 1 ∨ (ρ.i .i64 1000) - 1 < (ρ.i .i64 4))))) ∧ (((ρ.z.rl 0).length + 2 : Nat) < (ρ.z.rl 0).length + 3 + ((ρ.z.rl 0).length - (ρ.i .i64 1000).toNat)) from ?_)
  obtain ⟨a, hm⟩ := hi
  have f1 : (-9223372036854775808 : Int) ≤ ρ.i .i64 2 := kn.ok.lo .i64 2
  have f2 : ρ.i .i64 2 ≤ (9223372036854775807 : Int) := kn.ok.hi .i64 2
  have x2 : ρ.i .i64 1001 ≤ (9223372036854775807 : Int) := kn.ok.hi .i64 1001
  have w1 : (0 : Int) ≤ ρ.i .u64 1002 := kn.ok.lo .u64 1002
  have x1 : (-9223372036854775808 : Int) ≤ ρ.i .i64 1001 := kn.ok.lo .i64 1001
  have bz := clamp_rng (intV (celV (ρ.z.rl 0) (ρ.i .i64 1000) 0))
  have st := stop_in kn.ok (ρ.i .i64 1) (ρ.i .i64 2) (ρ.i .u64 3)
  have ol := out_len (ρ.z.rl 0) (ρ.i .i64 1) (ρ.i .i64 2) (ρ.i .u64 3) (stopE (ρ.z.rl 0) (ρ.i .i64 1) (ρ.i .i64 2) (ρ.i .u64 3))
  have k := err_cases (ρ.i .i64 1001) (ρ.i .i64 2) (ρ.i .u64 1002) (clampK .i64 (intV (celV (ρ.z.rl 0) (ρ.i .i64 1000) 0)))
  try simp only [u64w, i64w] at *
  all_goals
    by_cases hL : ρ.i .i64 1000 < ((ρ.z.rl 0).length : Int)
    · by_cases hE : errN (ρ.i .i64 1001) (ρ.i .i64 2) (ρ.i .u64 1002) (clampK .i64 (intV (celV (ρ.z.rl 0) (ρ.i .i64 1000) 0))) = 0
      · have r := at_row (by omega) hL a ⟨f1, f2⟩ x2 w1 hE
        have q1 := r.lt
        have q2 := r.c0
        have q3 := r.c1
        have q4 := r.c2
        first
          | omega
          | skip
      · have q1 := at_stop (by omega) hL a hE
        first
          | omega
          | skip
    · have q1 := at_end (by omega) (by omega) a
      first
        | omega
        | skip
theorem vceach1_12 : VC TTeach inveach mseach 1 teach1 weach1_12 := by
  intro ρ kn hi hp
  have hi : iveach1 ρ := hi
  unfold iveach1 at hi
  have hF : ρ.z.F = esc.Φ := kn.F
  simp only [h_nil, h_cons, d_le, d_eq, d_not, d_var, d_lit, d_cel, d_leq, d_fn, d_and, d_iff, IE.den, LE.den, AL.den, lenV, true_and, and_true, pceach1_7, pceach1_5, pceach1_3, pceach1_1, pceach1_0, hF, pi1, pi2, pi3, pl2] at hp
  obtain ⟨p1, p2, p3, p4, p5, p6, p7, p8, p9, p10, p11, p12, p13, p14, p15⟩ := hp
  refine (show ((((ρ.i .i64 1000) = (stopE (ρ.z.rl 0) (ρ.i .i64 1) (ρ.i .i64 2) (ρ.i .u64 3) : Int) ∧ ((ρ.i .i64 1000) = 0 ∨ (ρ.i .i64 1000) < (ρ.i .i64 4))) ∨ ((ρ.i .i64 1000) ≤ (stopE (ρ.z.rl 0) (ρ.i .i64 1) (ρ.i .i64 2) (ρ.i .u64 3) : Int) ∧ 1 ≤ (ρ.i .i64 1000) ∧ (ρ.i .i64 4) ≤ (ρ.i .i64 1000) ∧ ((ρ.i .i64 1000) = 1 ∨ (ρ.i .i64 1000) - 1 < (ρ.i .i64 4))))) ∧ (((ρ.z.rl 0).length + 2 : Nat) < (ρ.z.rl 0).length + 3 + ((ρ.z.rl 0).length - (ρ.i .i64 1000).toNat)) from ?_)
  obtain ⟨a, hm⟩ := hi
  have f1 : (-9223372036854775808 : Int) ≤ ρ.i .i64 2 := kn.ok.lo .i64 2
  have f2 : ρ.i .i64 2 ≤ (9223372036854775807 : Int) := kn.ok.hi .i64 2
  have x2 : ρ.i .i64 1001 ≤ (9223372036854775807 : Int) := kn.ok.hi .i64 1001
  have w1 : (0 : Int) ≤ ρ.i .u64 1002 := kn.ok.lo .u64 1002
  have x1 : (-9223372036854775808 : Int) ≤ ρ.i .i64 1001 := kn.ok.lo .i64 1001
  have bz := clamp_rng (intV (celV (ρ.z.rl 0) (ρ.i .i64 1000) 0))
  have st := stop_in kn.ok (ρ.i .i64 1) (ρ.i .i64 2) (ρ.i .u64 3)
  have ol := out_len (ρ.z.rl 0) (ρ.i .i64 1) (ρ.i .i64 2) (ρ.i .u64 3) (stopE (ρ.z.rl 0) (ρ.i .i64 1) (ρ.i .i64 2) (ρ.i .u64 3))
  have k := err_cases (ρ.i .i64 1001) (ρ.i .i64 2) (ρ.i .u64 1002) (clampK .i64 (intV (celV (ρ.z.rl 0) (ρ.i .i64 1000) 0)))
  try simp only [u64w, i64w] at *
  all_goals
    by_cases hL : ρ.i .i64 1000 < ((ρ.z.rl 0).length : Int)
    · by_cases hE : errN (ρ.i .i64 1001) (ρ.i .i64 2) (ρ.i .u64 1002) (clampK .i64 (intV (celV (ρ.z.rl 0) (ρ.i .i64 1000) 0))) = 0
      · have r := at_row (by omega) hL a ⟨f1, f2⟩ x2 w1 hE
        have q1 := r.lt
        have q2 := r.c0
        have q3 := r.c1
        have q4 := r.c2
        first
          | omega
          | skip
      · have q1 := at_stop (by omega) hL a hE
        first
          | omega
          | skip
    · have q1 := at_end (by omega) (by omega) a
      first
        | omega
        | skip
theorem vceach1_13 : VC TTeach inveach mseach 1 teach1 weach1_13 := by
  intro ρ kn hi hp
  have hi : iveach1 ρ := hi
  unfold iveach1 at hi
  have hF : ρ.z.F = esc.Φ := kn.F
  simp only [h_nil, h_cons, d_le, d_eq, d_not, d_var, d_lit, d_cel, d_leq, d_fn, d_and, d_iff, IE.den, LE.den, AL.den, lenV, true_and, and_true, pceach1_11, pceach1_9, pceach1_7, pceach1_5, pceach1_3, pceach1_1, pceach1_0, hF, pi1, pi2, pi3, pl2] at hp
  obtain ⟨p1, p2, p3, p4, p5, p6, p7, p8, p9, p10, p11, p12, p13, p14, p15, p16, p17⟩ := hp
  refine (show ((((ρ.i .i64 1000) = (stopE (ρ.z.rl 0) (ρ.i .i64 1) (ρ.i .i64 2) (ρ.i .u64 3) : Int) ∧ ((ρ.i .i64 1000) = 0 ∨ (ρ.i .i64 1000) < (ρ.i .i64 4))) ∨ ((ρ.i .i64 1000) ≤ (stopE (ρ.z.rl 0) (ρ.i .i64 1) (ρ.i .i64 2) (ρ.i .u64 3) : Int) ∧ 1 ≤ (ρ.i .i64 1000) ∧ (ρ.i .i64 4) ≤ (ρ.i .i64 1000) ∧ ((ρ.i .i64 1000) = 1 ∨ (ρ.i .i64 1000) - 1 < (ρ.i .i64 4))))) ∧ (((ρ.z.rl 0).length + 2 : Nat) < (ρ.z.rl 0).length + 3 + ((ρ.z.rl 0).length - (ρ.i .i64 1000).toNat)) from ?_)
  obtain ⟨a, hm⟩ := hi
  have f1 : (-9223372036854775808 : Int) ≤ ρ.i .i64 2 := kn.ok.lo .i64 2
  have f2 : ρ.i .i64 2 ≤ (9223372036854775807 : Int) := kn.ok.hi .i64 2
  have x2 : ρ.i .i64 1001 ≤ (9223372036854775807 : Int) := kn.ok.hi .i64 1001
  have w1 : (0 : Int) ≤ ρ.i .u64 1002 := kn.ok.lo .u64 1002
  have x1 : (-9223372036854775808 : Int) ≤ ρ.i .i64 1001 := kn.ok.lo .i64 1001
  have bz := clamp_rng (intV (celV (ρ.z.rl 0) (ρ.i .i64 1000) 0))
  have st := stop_in kn.ok (ρ.i .i64 1) (ρ.i .i64 2) (ρ.i .u64 3)
  have ol := out_len (ρ.z.rl 0) (ρ.i .i64 1) (ρ.i .i64 2) (ρ.i .u64 3) (stopE (ρ.z.rl 0) (ρ.i .i64 1) (ρ.i .i64 2) (ρ.i .u64 3))
  have k := err_cases (ρ.i .i64 1001) (ρ.i .i64 2) (ρ.i .u64 1002) (clampK .i64 (intV (celV (ρ.z.rl 0) (ρ.i .i64 1000) 0)))
  try simp only [u64w, i64w] at *
  all_goals
    by_cases hL : ρ.i .i64 1000 < ((ρ.z.rl 0).length : Int)
    · by_cases hE : errN (ρ.i .i64 1001) (ρ.i .i64 2) (ρ.i .u64 1002) (clampK .i64 (intV (celV (ρ.z.rl 0) (ρ.i .i64 1000) 0))) = 0
      · have r := at_row (by omega) hL a ⟨f1, f2⟩ x2 w1 hE
        have q1 := r.lt
        have q2 := r.c0
        have q3 := r.c1
        have q4 := r.c2
        first
          | omega
          | skip
      · have q1 := at_stop (by omega) hL a hE
        first
          | omega
          | skip
    · have q1 := at_end (by omega) (by omega) a
      first
        | omega
        | skip
theorem vceach1_15 : VC TTeach inveach mseach 1 teach1 weach1_15 := by
  intro ρ kn hi hp
  have hi : iveach1 ρ := hi
  unfold iveach1 at hi
  have hF : ρ.z.F = esc.Φ := kn.F
  simp only [h_nil, h_cons, d_le, d_eq, d_not, d_var, d_lit, d_cel, d_leq, d_fn, d_and, d_iff, IE.den, LE.den, AL.den, lenV, true_and, and_true, pceach1_21, pceach1_19, pceach1_17, pceach1_15, pceach1_13, pceach1_11, pceach1_9, pceach1_7, pceach1_5, pceach1_3, pceach1_1, pceach1_0, hF, pi1, pi2, pi3, pl2] at hp
  obtain ⟨p1, p2, p3, p4, p5, p6, p7, p8, p9, p10, p11, p12, p13, p14, p15, p16, p17, p18, p19, p20, p21, p22⟩ := hp
  refine (show (((((ρ.i .i64 1000) + (1 : Int)) = (stopE (ρ.z.rl 0) (ρ.i .i64 1) (ρ.i .i64 2) (ρ.i .u64 3) : Int) ∧ (((ρ.i .i64 1000) + (1 : Int)) = 0 ∨ ((ρ.i .i64 1000) + (1 : Int)) < (ρ.i .i64 4))) ∨ (((ρ.i .i64 1000) + (1 : Int)) ≤ (stopE (ρ.z.rl 0) (ρ.i .i64 1) (ρ.i .i64 2) (ρ.i .u64 3) : Int) ∧ 1 ≤ ((ρ.i .i64 1000) + (1 : Int)) ∧ (ρ.i .i64 4) ≤ ((ρ.i .i64 1000) + (1 : Int)) ∧ (((ρ.i .i64 1000) + (1 : Int)) = 1 ∨ ((ρ.i .i64 1000) + (1 : Int)) - 1 < (ρ.i .i64 4))))) ∧ (((ρ.z.rl 0).length + 2 : Nat) < (ρ.z.rl 0).length + 3 + ((ρ.z.rl 0).length - (ρ.i .i64 1000).toNat)) from ?_)
  obtain ⟨a, hm⟩ := hi
  have f1 : (-9223372036854775808 : Int) ≤ ρ.i .i64 2 := kn.ok.lo .i64 2
  have f2 : ρ.i .i64 2 ≤ (9223372036854775807 : Int) := kn.ok.hi .i64 2
  have x2 : ρ.i .i64 1001 ≤ (9223372036854775807 : Int) := kn.ok.hi .i64 1001
  have w1 : (0 : Int) ≤ ρ.i .u64 1002 := kn.ok.lo .u64 1002
  have x1 : (-9223372036854775808 : Int) ≤ ρ.i .i64 1001 := kn.ok.lo .i64 1001
  have bz := clamp_rng (intV (celV (ρ.z.rl 0) (ρ.i .i64 1000) 0))
  have st := stop_in kn.ok (ρ.i .i64 1) (ρ.i .i64 2) (ρ.i .u64 3)
  have ol := out_len (ρ.z.rl 0) (ρ.i .i64 1) (ρ.i .i64 2) (ρ.i .u64 3) (stopE (ρ.z.rl 0) (ρ.i .i64 1) (ρ.i .i64 2) (ρ.i .u64 3))
  have k := err_cases (ρ.i .i64 1001) (ρ.i .i64 2) (ρ.i .u64 1002) (clampK .i64 (intV (celV (ρ.z.rl 0) (ρ.i .i64 1000) 0)))
  try simp only [u64w, i64w] at *
  all_goals
    by_cases hL : ρ.i .i64 1000 < ((ρ.z.rl 0).length : Int)
    · by_cases hE : errN (ρ.i .i64 1001) (ρ.i .i64 2) (ρ.i .u64 1002) (clampK .i64 (intV (celV (ρ.z.rl 0) (ρ.i .i64 1000) 0))) = 0
      · have r := at_row (by omega) hL a ⟨f1, f2⟩ x2 w1 hE
        have q1 := r.lt
        have q2 := r.c0
        have q3 := r.c1
        have q4 := r.c2
        first
          | omega
          | skip
      · have q1 := at_stop (by omega) hL a hE
        first
          | omega
          | skip
    · have q1 := at_end (by omega) (by omega) a
      first
        | omega
        | skip
theorem vceach1_16 : VC TTeach inveach mseach 1 teach1 weach1_16 := by
  intro ρ kn hi hp
  have hi : iveach1 ρ := hi
  unfold iveach1 at hi
  have hF : ρ.z.F = esc.Φ := kn.F
  simp only [h_nil, h_cons, d_le, d_eq, d_not, d_var, d_lit, d_cel, d_leq, d_fn, d_and, d_iff, IE.den, LE.den, AL.den, lenV, true_and, and_true, pceach1_21, pceach1_19, pceach1_17, pceach1_15, pceach1_13, pceach1_11, pceach1_9, pceach1_7, pceach1_5, pceach1_3, pceach1_1, pceach1_0, hF, pi1, pi2, pi3, pl2] at hp
  obtain ⟨p1, p2, p3, p4, p5, p6, p7, p8, p9, p10, p11, p12, p13, p14, p15, p16, p17, p18, p19, p20, p21, p22⟩ := hp
  refine (show (At (ρ.z.rl 0) (ρ.i .i64 1) (ρ.i .i64 2) (ρ.i .u64 3) (IntKind.wrap .i64 (IntKind.wrap .u64 ((IntKind.wrap .u64 (ρ.i .i64 1001)) - (IntKind.wrap .u64 ((0 : Int) - (IntKind.wrap .u64 (clampK .i64 (intV (celV (ρ.z.rl 0) (ρ.i .i64 1000) 0))))))))) ((ρ.i .u64 1002) + (1 : Int)) ((ρ.i .i64 1000) + (1 : Int)) ∧ (((ρ.i .i64 1000) + (1 : Int)) = 0 ∨ ((ρ.i .i64 1000) + (1 : Int)) < (ρ.i .i64 4))) ∧ (((ρ.z.rl 0).length + 3 + ((ρ.z.rl 0).length - ((ρ.i .i64 1000) + (1 : Int)).toNat) : Nat) < (ρ.z.rl 0).length + 3 + ((ρ.z.rl 0).length - (ρ.i .i64 1000).toNat)) from ?_)
  obtain ⟨a, hm⟩ := hi
  have f1 : (-9223372036854775808 : Int) ≤ ρ.i .i64 2 := kn.ok.lo .i64 2
  have f2 : ρ.i .i64 2 ≤ (9223372036854775807 : Int) := kn.ok.hi .i64 2
  have x2 : ρ.i .i64 1001 ≤ (9223372036854775807 : Int) := kn.ok.hi .i64 1001
  have w1 : (0 : Int) ≤ ρ.i .u64 1002 := kn.ok.lo .u64 1002
  have x1 : (-9223372036854775808 : Int) ≤ ρ.i .i64 1001 := kn.ok.lo .i64 1001
  have bz := clamp_rng (intV (celV (ρ.z.rl 0) (ρ.i .i64 1000) 0))
  have st := stop_in kn.ok (ρ.i .i64 1) (ρ.i .i64 2) (ρ.i .u64 3)
  have ol := out_len (ρ.z.rl 0) (ρ.i .i64 1) (ρ.i .i64 2) (ρ.i .u64 3) (stopE (ρ.z.rl 0) (ρ.i .i64 1) (ρ.i .i64 2) (ρ.i .u64 3))
  have k := err_cases (ρ.i .i64 1001) (ρ.i .i64 2) (ρ.i .u64 1002) (clampK .i64 (intV (celV (ρ.z.rl 0) (ρ.i .i64 1000) 0)))
  try simp only [u64w, i64w] at *
  all_goals
    by_cases hL : ρ.i .i64 1000 < ((ρ.z.rl 0).length : Int)
    · by_cases hE : errN (ρ.i .i64 1001) (ρ.i .i64 2) (ρ.i .u64 1002) (clampK .i64 (intV (celV (ρ.z.rl 0) (ρ.i .i64 1000) 0))) = 0
      · have r := at_row (by omega) hL a ⟨f1, f2⟩ x2 w1 hE
        have q1 := r.lt
        have q2 := r.c0
        have q3 := r.c1
        have q4 := r.c2
        first
          | omega
          | exact ⟨⟨at_eq r.nxt (by omega) (by omega) (by omega), by omega⟩, by omega⟩
      · have q1 := at_stop (by omega) hL a hE
        first
          | omega
          | skip
    · have q1 := at_end (by omega) (by omega) a
      first
        | omega
        | skip
theorem vceach1_20 : VC TTeach inveach mseach 1 teach1 weach1_20 := by
  intro ρ kn hi hp
  have hi : iveach1 ρ := hi
  unfold iveach1 at hi
  have hF : ρ.z.F = esc.Φ := kn.F
  simp only [h_nil, h_cons, d_le, d_eq, d_not, d_var, d_lit, d_cel, d_leq, d_fn, d_and, d_iff, IE.den, LE.den, AL.den, lenV, true_and, and_true, pceach1_9, pceach1_7, pceach1_5, pceach1_3, pceach1_1, pceach1_0, hF, pi1, pi2, pi3, pl2] at hp
  obtain ⟨p1, p2, p3, p4, p5, p6, p7, p8, p9, p10, p11, p12, p13, p14, p15, p16⟩ := hp
  refine (show ((((ρ.i .i64 1000) = (stopE (ρ.z.rl 0) (ρ.i .i64 1) (ρ.i .i64 2) (ρ.i .u64 3) : Int) ∧ ((ρ.i .i64 1000) = 0 ∨ (ρ.i .i64 1000) < (ρ.i .i64 4))) ∨ ((ρ.i .i64 1000) ≤ (stopE (ρ.z.rl 0) (ρ.i .i64 1) (ρ.i .i64 2) (ρ.i .u64 3) : Int) ∧ 1 ≤ (ρ.i .i64 1000) ∧ (ρ.i .i64 4) ≤ (ρ.i .i64 1000) ∧ ((ρ.i .i64 1000) = 1 ∨ (ρ.i .i64 1000) - 1 < (ρ.i .i64 4))))) ∧ (((ρ.z.rl 0).length + 2 : Nat) < (ρ.z.rl 0).length + 3 + ((ρ.z.rl 0).length - (ρ.i .i64 1000).toNat)) from ?_)
  obtain ⟨a, hm⟩ := hi
  have f1 : (-9223372036854775808 : Int) ≤ ρ.i .i64 2 := kn.ok.lo .i64 2
  have f2 : ρ.i .i64 2 ≤ (9223372036854775807 : Int) := kn.ok.hi .i64 2
  have x2 : ρ.i .i64 1001 ≤ (9223372036854775807 : Int) := kn.ok.hi .i64 1001
  have w1 : (0 : Int) ≤ ρ.i .u64 1002 := kn.ok.lo .u64 1002
  have x1 : (-9223372036854775808 : Int) ≤ ρ.i .i64 1001 := kn.ok.lo .i64 1001
  have bz := clamp_rng (intV (celV (ρ.z.rl 0) (ρ.i .i64 1000) 0))
  have st := stop_in kn.ok (ρ.i .i64 1) (ρ.i .i64 2) (ρ.i .u64 3)
  have ol := out_len (ρ.z.rl 0) (ρ.i .i64 1) (ρ.i .i64 2) (ρ.i .u64 3) (stopE (ρ.z.rl 0) (ρ.i .i64 1) (ρ.i .i64 2) (ρ.i .u64 3))
  have k := err_cases (ρ.i .i64 1001) (ρ.i .i64 2) (ρ.i .u64 1002) (clampK .i64 (intV (celV (ρ.z.rl 0) (ρ.i .i64 1000) 0)))
  try simp only [u64w, i64w] at *
  all_goals
    by_cases hL : ρ.i .i64 1000 < ((ρ.z.rl 0).length : Int)
    · by_cases hE : errN (ρ.i .i64 1001) (ρ.i .i64 2) (ρ.i .u64 1002) (clampK .i64 (intV (celV (ρ.z.rl 0) (ρ.i .i64 1000) 0))) = 0
      · have r := at_row (by omega) hL a ⟨f1, f2⟩ x2 w1 hE
        have q1 := r.lt
        have q2 := r.c0
        have q3 := r.c1
        have q4 := r.c2
        first
          | omega
          | skip
      · have q1 := at_stop (by omega) hL a hE
        first
          | omega
          | skip
    · have q1 := at_end (by omega) (by omega) a
      first
        | omega
        | skip
theorem vceach1_21 : VC TTeach inveach mseach 1 teach1 weach1_21 := by
  intro ρ kn hi hp
  have hi : iveach1 ρ := hi
  unfold iveach1 at hi
  have hF : ρ.z.F = esc.Φ := kn.F
  simp only [h_nil, h_cons, d_le, d_eq, d_not, d_var, d_lit, d_cel, d_leq, d_fn, d_and, d_iff, IE.den, LE.den, AL.den, lenV, true_and, and_true, pceach1_5, pceach1_3, pceach1_1, pceach1_0, hF, pi1, pi2, pi3, pl2] at hp
  obtain ⟨p1, p2, p3, p4, p5, p6, p7, p8, p9, p10, p11, p12, p13, p14⟩ := hp
  refine (show ((((ρ.i .i64 1000) = (stopE (ρ.z.rl 0) (ρ.i .i64 1) (ρ.i .i64 2) (ρ.i .u64 3) : Int) ∧ ((ρ.i .i64 1000) = 0 ∨ (ρ.i .i64 1000) < (ρ.i .i64 4))) ∨ ((ρ.i .i64 1000) ≤ (stopE (ρ.z.rl 0) (ρ.i .i64 1) (ρ.i .i64 2) (ρ.i .u64 3) : Int) ∧ 1 ≤ (ρ.i .i64 1000) ∧ (ρ.i .i64 4) ≤ (ρ.i .i64 1000) ∧ ((ρ.i .i64 1000) = 1 ∨ (ρ.i .i64 1000) - 1 < (ρ.i .i64 4))))) ∧ (((ρ.z.rl 0).length + 2 : Nat) < (ρ.z.rl 0).length + 3 + ((ρ.z.rl 0).length - (ρ.i .i64 1000).toNat)) from ?_)
  obtain ⟨a, hm⟩ := hi
  have f1 : (-9223372036854775808 : Int) ≤ ρ.i .i64 2 := kn.ok.lo .i64 2
  have f2 : ρ.i .i64 2 ≤ (9223372036854775807 : Int) := kn.ok.hi .i64 2
  have x2 : ρ.i .i64 1001 ≤ (9223372036854775807 : Int) := kn.ok.hi .i64 1001
  have w1 : (0 : Int) ≤ ρ.i .u64 1002 := kn.ok.lo .u64 1002
  have x1 : (-9223372036854775808 : Int) ≤ ρ.i .i64 1001 := kn.ok.lo .i64 1001
  have bz := clamp_rng (intV (celV (ρ.z.rl 0) (ρ.i .i64 1000) 0))
  have st := stop_in kn.ok (ρ.i .i64 1) (ρ.i .i64 2) (ρ.i .u64 3)
  have ol := out_len (ρ.z.rl 0) (ρ.i .i64 1) (ρ.i .i64 2) (ρ.i .u64 3) (stopE (ρ.z.rl 0) (ρ.i .i64 1) (ρ.i .i64 2) (ρ.i .u64 3))
  have k := err_cases (ρ.i .i64 1001) (ρ.i .i64 2) (ρ.i .u64 1002) (clampK .i64 (intV (celV (ρ.z.rl 0) (ρ.i .i64 1000) 0)))
  try simp only [u64w, i64w] at *
  all_goals
    by_cases hL : ρ.i .i64 1000 < ((ρ.z.rl 0).length : Int)
    · by_cases hE : errN (ρ.i .i64 1001) (ρ.i .i64 2) (ρ.i .u64 1002) (clampK .i64 (intV (celV (ρ.z.rl 0) (ρ.i .i64 1000) 0))) = 0
      · have r := at_row (by omega) hL a ⟨f1, f2⟩ x2 w1 hE
        have q1 := r.lt
        have q2 := r.c0
        have q3 := r.c1
        have q4 := r.c2
        first
          | omega
          | skip
      · have q1 := at_stop (by omega) hL a hE
        first
          | omega
          | skip
    · have q1 := at_end (by omega) (by omega) a
      first
        | omega
        | skip
theorem vceach1_22 : VC TTeach inveach mseach 1 teach1 weach1_22 := by
  intro ρ kn hi hp
  have hi : iveach1 ρ := hi
  unfold iveach1 at hi
  have hF : ρ.z.F = esc.Φ := kn.F
  simp only [h_nil, h_cons, d_le, d_eq, d_not, d_var, d_lit, d_cel, d_leq, d_fn, d_and, d_iff, IE.den, LE.den, AL.den, lenV, true_and, and_true, pceach1_3, pceach1_1, pceach1_0, hF, pi1, pi2, pi3, pl2] at hp
  obtain ⟨p1, p2, p3, p4, p5, p6, p7, p8, p9, p10, p11, p12, p13⟩ := hp
  refine (show ((((ρ.i .i64 1000) = (stopE (ρ.z.rl 0) (ρ.i .i64 1) (ρ.i .i64 2) (ρ.i .u64 3) : Int) ∧ ((ρ.i .i64 1000) = 0 ∨ (ρ.i .i64 1000) < (ρ.i .i64 4))) ∨ ((ρ.i .i64 1000) ≤ (stopE (ρ.z.rl 0) (ρ.i .i64 1) (ρ.i .i64 2) (ρ.i .u64 3) : Int) ∧ 1 ≤ (ρ.i .i64 1000) ∧ (ρ.i .i64 4) ≤ (ρ.i .i64 1000) ∧ ((ρ.i .i64 1000) = 1 ∨ (ρ.i .i64 1000) - 1 < (ρ.i .i64 4))))) ∧ (((ρ.z.rl 0).length + 2 : Nat) < (ρ.z.rl 0).length + 3 + ((ρ.z.rl 0).length - (ρ.i .i64 1000).toNat)) from ?_)
  obtain ⟨a, hm⟩ := hi
  have f1 : (-9223372036854775808 : Int) ≤ ρ.i .i64 2 := kn.ok.lo .i64 2
  have f2 : ρ.i .i64 2 ≤ (9223372036854775807 : Int) := kn.ok.hi .i64 2
  have x2 : ρ.i .i64 1001 ≤ (9223372036854775807 : Int) := kn.ok.hi .i64 1001
  have w1 : (0 : Int) ≤ ρ.i .u64 1002 := kn.ok.lo .u64 1002
  have x1 : (-9223372036854775808 : Int) ≤ ρ.i .i64 1001 := kn.ok.lo .i64 1001
  have bz := clamp_rng (intV (celV (ρ.z.rl 0) (ρ.i .i64 1000) 0))
  have st := stop_in kn.ok (ρ.i .i64 1) (ρ.i .i64 2) (ρ.i .u64 3)
  have ol := out_len (ρ.z.rl 0) (ρ.i .i64 1) (ρ.i .i64 2) (ρ.i .u64 3) (stopE (ρ.z.rl 0) (ρ.i .i64 1) (ρ.i .i64 2) (ρ.i .u64 3))
  have k := err_cases (ρ.i .i64 1001) (ρ.i .i64 2) (ρ.i .u64 1002) (clampK .i64 (intV (celV (ρ.z.rl 0) (ρ.i .i64 1000) 0)))
  try simp only [u64w, i64w] at *
  all_goals
    by_cases hL : ρ.i .i64 1000 < ((ρ.z.rl 0).length : Int)
    · by_cases hE : errN (ρ.i .i64 1001) (ρ.i .i64 2) (ρ.i .u64 1002) (clampK .i64 (intV (celV (ρ.z.rl 0) (ρ.i .i64 1000) 0))) = 0
      · have r := at_row (by omega) hL a ⟨f1, f2⟩ x2 w1 hE
        have q1 := r.lt
        have q2 := r.c0
        have q3 := r.c1
        have q4 := r.c2
        first
          | omega
          | skip
      · have q1 := at_stop (by omega) hL a hE
        first
          | omega
          | skip
    · have q1 := at_end (by omega) (by omega) a
      first
        | omega
        | skip
def iveach2 (ρ : Rho) : Prop := (((ρ.i .i64 1000) = (stopE (ρ.z.rl 0) (ρ.i .i64 1) (ρ.i .i64 2) (ρ.i .u64 3) : Int) ∧ ((ρ.i .i64 1000) = 0 ∨ (ρ.i .i64 1000) < (ρ.i .i64 4))) ∨ ((ρ.i .i64 1000) ≤ (stopE (ρ.z.rl 0) (ρ.i .i64 1) (ρ.i .i64 2) (ρ.i .u64 3) : Int) ∧ 1 ≤ (ρ.i .i64 1000) ∧ (ρ.i .i64 4) ≤ (ρ.i .i64 1000) ∧ ((ρ.i .i64 1000) = 1 ∨ (ρ.i .i64 1000) - 1 < (ρ.i .i64 4))))
theorem vcgeach2_0 : VC TTeach inveach mseach 2 teach2 weach2_1 ∧ VC TTeach inveach mseach 2 teach2 weach2_3 ∧ VC TTeach inveach mseach 2 teach2 weach2_5 ∧ VC TTeach inveach mseach 2 teach2 weach2_7 := by
  refine ⟨?_, ?_, ?_, ?_⟩
  all_goals
    intro ρ kn hi hp
    have hi : iveach2 ρ := hi
    unfold iveach2 at hi
    have hF : ρ.z.F = esc.Φ := kn.F
    simp only [h_nil, h_cons, d_le, d_eq, d_not, d_var, d_lit, d_cel, d_leq, d_fn, d_and, d_iff, IE.den, LE.den, AL.den, lenV, true_and, and_true, pceach2_3, pceach2_1, pceach2_0, pceach2_4, pceach2_5, pceach2_2, pceach2_6, hF, pi1, pi2, pi3, pl2] at hp
    have p1 := And.left hp
    replace hp := And.right hp
    repeat (have _ := And.left hp; replace hp := And.right hp)
    exfalso
    have st := stop_in kn.ok (ρ.i .i64 1) (ρ.i .i64 2) (ρ.i .u64 3)
    have ol := out_len (ρ.z.rl 0) (ρ.i .i64 1) (ρ.i .i64 2) (ρ.i .u64 3) (stopE (ρ.z.rl 0) (ρ.i .i64 1) (ρ.i .i64 2) (ρ.i .u64 3))
    have sl := stop_le (ρ.z.rl 0) (ρ.i .i64 1) (ρ.i .i64 2) (ρ.i .u64 3)
    all_goals omega
theorem vceach2_0 : VC TTeach inveach mseach 2 teach2 weach2_0 := by
  intro ρ kn hi hp
  have hi : iveach2 ρ := hi
  unfold iveach2 at hi
  have hF : ρ.z.F = esc.Φ := kn.F
  simp only [h_nil, h_cons, d_le, d_eq, d_not, d_var, d_lit, d_cel, d_leq, d_fn, d_and, d_iff, IE.den, LE.den, AL.den, lenV, true_and, and_true, pceach2_3, pceach2_1, pceach2_0, hF, pi1, pi2, pi3, pl2] at hp
  obtain ⟨p1, p2, p3, p4, p5, p6, p7, p8, p9, p10, p11, p12, p13⟩ := hp
  refine (show (At (ρ.z.rl 0) (ρ.i .i64 1) (ρ.i .i64 2) (ρ.i .u64 3) (ρ.i .i64 1) (ρ.i .u64 3) (0 : Int)) ∧ (((ρ.z.rl 0).length - (0 : Int).toNat : Nat) < (ρ.z.rl 0).length + 2) from ?_)
  exact ⟨at_eq (at_0 (ρ.z.rl 0) (ρ.i .i64 1) (ρ.i .i64 2) (ρ.i .u64 3)) (by first | rfl | omega) (by first | rfl | omega) (by first | rfl | omega), by omega⟩
theorem vceach2_2 : VC TTeach inveach mseach 2 teach2 weach2_2 := by
  intro ρ kn hi hp
  have hi : iveach2 ρ := hi
  unfold iveach2 at hi
  have hF : ρ.z.F = esc.Φ := kn.F
  simp only [h_nil, h_cons, d_le, d_eq, d_not, d_var, d_lit, d_cel, d_leq, d_fn, d_and, d_iff, IE.den, LE.den, AL.den, lenV, true_and, and_true, pceach2_4, pceach2_1, pceach2_0, hF, pi1, pi2, pi3, pl2] at hp
  obtain ⟨p1, p2, p3, p4, p5, p6, p7, p8, p9, p10, p11, p12, p13⟩ := hp
  refine (show (At (ρ.z.rl 0) (ρ.i .i64 1) (ρ.i .i64 2) (ρ.i .u64 3) (ρ.i .i64 1) (ρ.i .u64 3) (0 : Int)) ∧ (((ρ.z.rl 0).length - (0 : Int).toNat : Nat) < (ρ.z.rl 0).length + 2) from ?_)
  exact ⟨at_eq (at_0 (ρ.z.rl 0) (ρ.i .i64 1) (ρ.i .i64 2) (ρ.i .u64 3)) (by first | rfl | omega) (by first | rfl | omega) (by first | rfl | omega), by omega⟩
theorem vceach2_4 : VC TTeach inveach mseach 2 teach2 weach2_4 := by
  intro ρ kn hi hp
  have hi : iveach2 ρ := hi
  unfold iveach2 at hi
  have hF : ρ.z.F = esc.Φ := kn.F
  simp only [h_nil, h_cons, d_le, d_eq, d_not, d_var, d_lit, d_cel, d_leq, d_fn, d_and, d_iff, IE.den, LE.den, AL.den, lenV, true_and, and_true, pceach2_5, pceach2_2, pceach2_0, hF, pi1, pi2, pi3, pl2] at hp
  obtain ⟨p1, p2, p3, p4, p5, p6, p7, p8, p9, p10, p11, p12, p13⟩ := hp
  refine (show (At (ρ.z.rl 0) (ρ.i .i64 1) (ρ.i .i64 2) (ρ.i .u64 3) (ρ.i .i64 1) (ρ.i .u64 3) (0 : Int)) ∧ (((ρ.z.rl 0).length - (0 : Int).toNat : Nat) < (ρ.z.rl 0).length + 2) from ?_)
  exact ⟨at_eq (at_0 (ρ.z.rl 0) (ρ.i .i64 1) (ρ.i .i64 2) (ρ.i .u64 3)) (by first | rfl | omega) (by first | rfl | omega) (by first | rfl | omega), by omega⟩
theorem vceach2_6 : VC TTeach inveach mseach 2 teach2 weach2_6 := by
  intro ρ kn hi hp
  have hi : iveach2 ρ := hi
  unfold iveach2 at hi
  have hF : ρ.z.F = esc.Φ := kn.F
  simp only [h_nil, h_cons, d_le, d_eq, d_not, d_var, d_lit, d_cel, d_leq, d_fn, d_and, d_iff, IE.den, LE.den, AL.den, lenV, true_and, and_true, pceach2_6, pceach2_2, pceach2_0, hF, pi1, pi2, pi3, pl2] at hp
  obtain ⟨p1, p2, p3, p4, p5, p6, p7, p8, p9, p10, p11, p12, p13⟩ := hp
  refine (show (At (ρ.z.rl 0) (ρ.i .i64 1) (ρ.i .i64 2) (ρ.i .u64 3) (ρ.i .i64 1) (ρ.i .u64 3) (0 : Int)) ∧ (((ρ.z.rl 0).length - (0 : Int).toNat : Nat) < (ρ.z.rl 0).length + 2) from ?_)
  exact ⟨at_eq (at_0 (ρ.z.rl 0) (ρ.i .i64 1) (ρ.i .i64 2) (ρ.i .u64 3)) (by first | rfl | omega) (by first | rfl | omega) (by first | rfl | omega), by omega⟩
def iveach3 (ρ : Rho) : Prop := At (ρ.z.rl 0) (ρ.i .i64 1) (ρ.i .i64 2) (ρ.i .u64 3) (ρ.i .i64 11362) (ρ.i .u64 11363) (ρ.i .i64 11361)
theorem vcgeach3_0 : VC TTeach inveach mseach 3 teach3 weach3_1 ∧ VC TTeach inveach mseach 3 teach3 weach3_3 ∧ VC TTeach inveach mseach 3 teach3 weach3_5 ∧ VC TTeach inveach mseach 3 teach3 weach3_6 ∧ VC TTeach inveach mseach 3 teach3 weach3_8 ∧ VC TTeach inveach mseach 3 teach3 weach3_9 ∧ VC TTeach inveach mseach 3 teach3 weach3_10 ∧ VC TTeach inveach mseach 3 teach3 weach3_12 ∧ VC TTeach inveach mseach 3 teach3 weach3_14 ∧ VC TTeach inveach mseach 3 teach3 weach3_16 ∧ VC TTeach inveach mseach 3 teach3 weach3_18 ∧ VC TTeach inveach mseach 3 teach3 weach3_20 ∧ VC TTeach inveach mseach 3 teach3 weach3_21 ∧ VC TTeach inveach mseach 3 teach3 weach3_23 ∧ VC TTeach inveach mseach 3 teach3 weach3_24 ∧ VC TTeach inveach mseach 3 teach3 weach3_25 ∧ VC TTeach inveach mseach 3 teach3 weach3_27 ∧ VC TTeach inveach mseach 3 teach3 weach3_29 ∧ VC TTeach inveach mseach 3 teach3 weach3_31 := by
  refine ⟨?_, ?_, ?_, ?_, ?_, ?_, ?_, ?_, ?_, ?_, ?_, ?_, ?_, ?_, ?_, ?_, ?_, ?_, ?_⟩
  all_goals
    intro ρ kn hi hp
    have hi : iveach3 ρ := hi
    unfold iveach3 at hi
    have hF : ρ.z.F = esc.Φ := kn.F
    simp only [h_nil, h_cons, d_le, d_eq, d_not, d_var, d_lit, d_cel, d_leq, d_fn, d_and, d_iff, IE.den, LE.den, AL.den, lenV, true_and, and_true, pceach3_1, pceach3_0, pceach3_13, pceach3_9, pceach3_5, pceach3_3, pceach3_2, pceach3_21, pceach3_17, pceach3_14, pceach3_22, pceach3_29, pceach3_27, pceach3_25, pceach3_18, pceach3_10, pceach3_6, pceach3_15, pceach3_11, pceach3_7, pceach3_4, pceach3_23, pceach3_19, pceach3_16, pceach3_24, pceach3_30, pceach3_28, pceach3_26, pceach3_20, pceach3_12, pceach3_8, hF, pi1, pi2, pi3, pl2] at hp
    have p1 := And.left hp
    replace hp := And.right hp
    repeat (have _ := And.left hp; replace hp := And.right hp)
    exfalso
    have a := hi
    have f1 : (-9223372036854775808 : Int) ≤ ρ.i .i64 2 := kn.ok.lo .i64 2
    have f2 : ρ.i .i64 2 ≤ (9223372036854775807 : Int) := kn.ok.hi .i64 2
    have x2 : ρ.i .i64 11362 ≤ (9223372036854775807 : Int) := kn.ok.hi .i64 11362
    have w1 : (0 : Int) ≤ ρ.i .u64 11363 := kn.ok.lo .u64 11363
    have x1 : (-9223372036854775808 : Int) ≤ ρ.i .i64 11362 := kn.ok.lo .i64 11362
    have bz := clamp_rng (intV (celV (ρ.z.rl 0) (ρ.i .i64 11361) 0))
    have st := stop_in kn.ok (ρ.i .i64 1) (ρ.i .i64 2) (ρ.i .u64 3)
    have ol := out_len (ρ.z.rl 0) (ρ.i .i64 1) (ρ.i .i64 2) (ρ.i .u64 3) (stopE (ρ.z.rl 0) (ρ.i .i64 1) (ρ.i .i64 2) (ρ.i .u64 3))
    have k := err_cases (ρ.i .i64 11362) (ρ.i .i64 2) (ρ.i .u64 11363) (clampK .i64 (intV (celV (ρ.z.rl 0) (ρ.i .i64 11361) 0)))
    try simp only [u64w, i64w] at *
    all_goals
      by_cases hL : ρ.i .i64 11361 < ((ρ.z.rl 0).length : Int)
      · by_cases hE : errN (ρ.i .i64 11362) (ρ.i .i64 2) (ρ.i .u64 11363) (clampK .i64 (intV (celV (ρ.z.rl 0) (ρ.i .i64 11361) 0))) = 0
        · have r := at_row (by omega) hL a ⟨f1, f2⟩ x2 w1 hE
          have q1 := r.lt
          have q2 := r.c0
          have q3 := r.c1
          have q4 := r.c2
          first
            | omega
            | skip
        · have q1 := at_stop (by omega) hL a hE
          first
            | omega
            | skip
      · have q1 := at_end (by omega) (by omega) a
        first
          | omega
          | skip
theorem vceach3_7 : VC TTeach inveach mseach 3 teach3 weach3_7 := by
  intro ρ kn hi hp
  have hi : iveach3 ρ := hi
  unfold iveach3 at hi
  have hF : ρ.z.F = esc.Φ := kn.F
  simp only [h_nil, h_cons, d_le, d_eq, d_not, d_var, d_lit, d_cel, d_leq, d_fn, d_and, d_iff, IE.den, LE.den, AL.den, lenV, true_and, and_true, pceach3_29, pceach3_27, pceach3_25, pceach3_22, pceach3_17, pceach3_14, pceach3_9, pceach3_5, pceach3_3, pceach3_2, pceach3_0, hF, pi1, pi2, pi3, pl2] at hp
  obtain ⟨p1, p2, p3, p4, p5, p6, p7, p8, p9, p10, p11, p12, p13, p14, p15, p16, p17, p18, p19, p20, p21⟩ := hp
  refine (show (At (ρ.z.rl 0) (ρ.i .i64 1) (ρ.i .i64 2) (ρ.i .u64 3) (IntKind.wrap .i64 (IntKind.wrap .u64 ((IntKind.wrap .u64 (ρ.i .i64 11362)) + (clampK .i64 (intV (celV (ρ.z.rl 0) (ρ.i .i64 11361) 0)))))) ((ρ.i .u64 11363) + (1 : Int)) ((ρ.i .i64 11361) + (1 : Int))) ∧ (((ρ.z.rl 0).length - ((ρ.i .i64 11361) + (1 : Int)).toNat : Nat) < (ρ.z.rl 0).length - (ρ.i .i64 11361).toNat) from ?_)
  have a := hi
  have f1 : (-9223372036854775808 : Int) ≤ ρ.i .i64 2 := kn.ok.lo .i64 2
  have f2 : ρ.i .i64 2 ≤ (9223372036854775807 : Int) := kn.ok.hi .i64 2
  have x2 : ρ.i .i64 11362 ≤ (9223372036854775807 : Int) := kn.ok.hi .i64 11362
  have w1 : (0 : Int) ≤ ρ.i .u64 11363 := kn.ok.lo .u64 11363
  have x1 : (-9223372036854775808 : Int) ≤ ρ.i .i64 11362 := kn.ok.lo .i64 11362
  have bz := clamp_rng (intV (celV (ρ.z.rl 0) (ρ.i .i64 11361) 0))
  have st := stop_in kn.ok (ρ.i .i64 1) (ρ.i .i64 2) (ρ.i .u64 3)
  have ol := out_len (ρ.z.rl 0) (ρ.i .i64 1) (ρ.i .i64 2) (ρ.i .u64 3) (stopE (ρ.z.rl 0) (ρ.i .i64 1) (ρ.i .i64 2) (ρ.i .u64 3))
  have k := err_cases (ρ.i .i64 11362) (ρ.i .i64 2) (ρ.i .u64 11363) (clampK .i64 (intV (celV (ρ.z.rl 0) (ρ.i .i64 11361) 0)))
  try simp only [u64w, i64w] at *
  all_goals
    by_cases hL : ρ.i .i64 11361 < ((ρ.z.rl 0).length : Int)
    · by_cases hE : errN (ρ.i .i64 11362) (ρ.i .i64 2) (ρ.i .u64 11363) (clampK .i64 (intV (celV (ρ.z.rl 0) (ρ.i .i64 11361) 0))) = 0
      · have r := at_row (by omega) hL a ⟨f1, f2⟩ x2 w1 hE
        have q1 := r.lt
        have q2 := r.c0
        have q3 := r.c1
        have q4 := r.c2
        first
          | omega
          | exact ⟨at_eq r.nxt (by omega) (by omega) (by omega), by omega⟩
      · have q1 := at_stop (by omega) hL a hE
        first
          | omega
          | skip
    · have q1 := at_end (by omega) (by omega) a
      first
        | omega
        | skip
theorem vceach3_22 : VC TTeach inveach mseach 3 teach3 weach3_22 := by
  intro ρ kn hi hp
  have hi : iveach3 ρ := hi
  unfold iveach3 at hi
  have hF : ρ.z.F = esc.Φ := kn.F
  simp only [h_nil, h_cons, d_le, d_eq, d_not, d_var, d_lit, d_cel, d_leq, d_fn, d_and, d_iff, IE.den, LE.den, AL.den, lenV, true_and, and_true, pceach3_30, pceach3_28, pceach3_26, pceach3_24, pceach3_19, pceach3_16, pceach3_11, pceach3_7, pceach3_4, pceach3_2, pceach3_0, hF, pi1, pi2, pi3, pl2] at hp
  obtain ⟨p1, p2, p3, p4, p5, p6, p7, p8, p9, p10, p11, p12, p13, p14, p15, p16, p17, p18, p19, p20, p21⟩ := hp
  refine (show (At (ρ.z.rl 0) (ρ.i .i64 1) (ρ.i .i64 2) (ρ.i .u64 3) (IntKind.wrap .i64 (IntKind.wrap .u64 ((IntKind.wrap .u64 (ρ.i .i64 11362)) - (IntKind.wrap .u64 ((0 : Int) - (IntKind.wrap .u64 (clampK .i64 (intV (celV (ρ.z.rl 0) (ρ.i .i64 11361) 0))))))))) ((ρ.i .u64 11363) + (1 : Int)) ((ρ.i .i64 11361) + (1 : Int))) ∧ (((ρ.z.rl 0).length - ((ρ.i .i64 11361) + (1 : Int)).toNat : Nat) < (ρ.z.rl 0).length - (ρ.i .i64 11361).toNat) from ?_)
  have a := hi
  have f1 : (-9223372036854775808 : Int) ≤ ρ.i .i64 2 := kn.ok.lo .i64 2
  have f2 : ρ.i .i64 2 ≤ (9223372036854775807 : Int) := kn.ok.hi .i64 2
  have x2 : ρ.i .i64 11362 ≤ (9223372036854775807 : Int) := kn.ok.hi .i64 11362
  have w1 : (0 : Int) ≤ ρ.i .u64 11363 := kn.ok.lo .u64 11363
  have x1 : (-9223372036854775808 : Int) ≤ ρ.i .i64 11362 := kn.ok.lo .i64 11362
  have bz := clamp_rng (intV (celV (ρ.z.rl 0) (ρ.i .i64 11361) 0))
  have st := stop_in kn.ok (ρ.i .i64 1) (ρ.i .i64 2) (ρ.i .u64 3)
  have ol := out_len (ρ.z.rl 0) (ρ.i .i64 1) (ρ.i .i64 2) (ρ.i .u64 3) (stopE (ρ.z.rl 0) (ρ.i .i64 1) (ρ.i .i64 2) (ρ.i .u64 3))
  have k := err_cases (ρ.i .i64 11362) (ρ.i .i64 2) (ρ.i .u64 11363) (clampK .i64 (intV (celV (ρ.z.rl 0) (ρ.i .i64 11361) 0)))
  try simp only [u64w, i64w] at *
  all_goals
    by_cases hL : ρ.i .i64 11361 < ((ρ.z.rl 0).length : Int)
    · by_cases hE : errN (ρ.i .i64 11362) (ρ.i .i64 2) (ρ.i .u64 11363) (clampK .i64 (intV (celV (ρ.z.rl 0) (ρ.i .i64 11361) 0))) = 0
      · have r := at_row (by omega) hL a ⟨f1, f2⟩ x2 w1 hE
        have q1 := r.lt
        have q2 := r.c0
        have q3 := r.c1
        have q4 := r.c2
        first
          | omega
          | exact ⟨at_eq r.nxt (by omega) (by omega) (by omega), by omega⟩
      · have q1 := at_stop (by omega) hL a hE
        first
          | omega
          | skip
    · have q1 := at_end (by omega) (by omega) a
      first
        | omega
        | skip
theorem vcseach0 : ∀ v ∈ vweach 0, VC TTeach inveach mseach 0 (startF 3 cEach.pat (.lit true :: cEach.pre)) v := all_cons vceach0_0 (all_cons (fun _ _ _ _ => all_nil) (all_cons (fun _ _ _ _ => all_nil) (all_cons (fun _ _ _ _ => all_nil) (all_cons (fun _ _ _ _ => all_nil) (all_cons vceach0_5 (all_cons (fun _ _ _ _ => all_nil) (all_cons (fun _ _ _ _ => all_nil) (all_cons (fun _ _ _ _ => all_nil) (all_cons (fun _ _ _ _ => all_nil) (all_cons (fun _ _ _ _ => all_nil) (all_cons (fun _ _ _ _ => all_nil) (all_cons vceach0_12 (all_cons (fun _ _ _ _ => all_nil) (all_cons (fun _ _ _ _ => all_nil) (all_cons (fun _ _ _ _ => all_nil) (all_cons (fun _ _ _ _ => all_nil) (all_cons (fun _ _ _ _ => all_nil) (all_cons (fun _ _ _ _ => all_nil) (all_cons (fun _ _ _ _ => all_nil) (all_cons (fun _ _ _ _ => all_nil) (all_cons (fun _ _ _ _ => all_nil) (all_cons (fun _ _ _ _ => all_nil) (all_cons (fun _ _ _ _ => all_nil) (all_nil))))))))))))))))))))))))
theorem okeach0 : cfgOk (startF 3 cEach.pat (.lit true :: cEach.pre)) = true := by kernel_rfl
theorem sgeach0 : segL cEach.roms cEach (seg TTeach seleach 4000 tmeach (startF 3 cEach.pat (.lit true :: cEach.pre))) = (true, codesR tmeach (views (seg TTeach seleach 4000 tmeach (startF 3 cEach.pat (.lit true :: cEach.pre)))), vweach 0) := by kernel_rfl
theorem vcseach1 : ∀ v ∈ vweach 1, VC TTeach inveach mseach 1 teach1 v := all_cons vceach1_0 (all_cons vceach1_1 (all_cons vceach1_2 (all_cons vcgeach1_0.1 (all_cons vceach1_4 (all_cons vceach1_5 (all_cons vcgeach1_0.2.1 (all_cons vcgeach1_0.2.2.1 (all_cons vcgeach1_0.2.2.2.1 (all_cons vceach1_9 (all_cons vceach1_10 (all_cons vceach1_11 (all_cons vceach1_12 (all_cons vceach1_13 (all_cons vcgeach1_0.2.2.2.2.1 (all_cons vceach1_15 (all_cons vceach1_16 (all_cons vcgeach1_0.2.2.2.2.2.1 (all_cons vcgeach1_0.2.2.2.2.2.2.1 (all_cons vcgeach1_0.2.2.2.2.2.2.2 (all_cons vceach1_20 (all_cons vceach1_21 (all_cons vceach1_22 (all_nil)))))))))))))))))))))))
theorem okeach1 : cfgOk teach1 = true := by kernel_rfl
theorem sgeach1 : segL cEach.roms cEach (seg TTeach seleach 4000 tmeach teach1) = (true, codesR tmeach (views (seg TTeach seleach 4000 tmeach teach1)), vweach 1) := by kernel_rfl
theorem vcseach2 : ∀ v ∈ vweach 2, VC TTeach inveach mseach 2 teach2 v := all_cons vceach2_0 (all_cons vcgeach2_0.1 (all_cons vceach2_2 (all_cons vcgeach2_0.2.1 (all_cons vceach2_4 (all_cons vcgeach2_0.2.2.1 (all_cons vceach2_6 (all_cons vcgeach2_0.2.2.2 (all_nil))))))))
theorem okeach2 : cfgOk teach2 = true := by kernel_rfl
theorem sgeach2 : segL cEach.roms cEach (seg TTeach seleach 4000 tmeach teach2) = (true, codesR tmeach (views (seg TTeach seleach 4000 tmeach teach2)), vweach 2) := by kernel_rfl
theorem vcseach3 : ∀ v ∈ vweach 3, VC TTeach inveach mseach 3 teach3 v := all_cons (fun _ _ _ _ => all_nil) (all_cons vcgeach3_0.1 (all_cons (fun _ _ _ _ => all_nil) (all_cons vcgeach3_0.2.1 (all_cons (fun _ _ _ _ => all_nil) (all_cons vcgeach3_0.2.2.1 (all_cons vcgeach3_0.2.2.2.1 (all_cons vceach3_7 (all_cons vcgeach3_0.2.2.2.2.1 (all_cons vcgeach3_0.2.2.2.2.2.1 (all_cons vcgeach3_0.2.2.2.2.2.2.1 (all_cons (fun _ _ _ _ => all_nil) (all_cons vcgeach3_0.2.2.2.2.2.2.2.1 (all_cons (fun _ _ _ _ => all_nil) (all_cons vcgeach3_0.2.2.2.2.2.2.2.2.1 (all_cons (fun _ _ _ _ => all_nil) (all_cons vcgeach3_0.2.2.2.2.2.2.2.2.2.1 (all_cons (fun _ _ _ _ => all_nil) (all_cons vcgeach3_0.2.2.2.2.2.2.2.2.2.2.1 (all_cons (fun _ _ _ _ => all_nil) (all_cons vcgeach3_0.2.2.2.2.2.2.2.2.2.2.2.1 (all_cons vcgeach3_0.2.2.2.2.2.2.2.2.2.2.2.2.1 (all_cons vceach3_22 (all_cons vcgeach3_0.2.2.2.2.2.2.2.2.2.2.2.2.2.1 (all_cons vcgeach3_0.2.2.2.2.2.2.2.2.2.2.2.2.2.2.1 (all_cons vcgeach3_0.2.2.2.2.2.2.2.2.2.2.2.2.2.2.2.1 (all_cons (fun _ _ _ _ => all_nil) (all_cons vcgeach3_0.2.2.2.2.2.2.2.2.2.2.2.2.2.2.2.2.1 (all_cons (fun _ _ _ _ => all_nil) (all_cons vcgeach3_0.2.2.2.2.2.2.2.2.2.2.2.2.2.2.2.2.2.1 (all_cons (fun _ _ _ _ => all_nil) (all_cons vcgeach3_0.2.2.2.2.2.2.2.2.2.2.2.2.2.2.2.2.2.2 (all_nil))))))))))))))))))))))))))))))))
theorem okeach3 : cfgOk teach3 = true := by kernel_rfl
theorem sgeach3 : segL cEach.roms cEach (seg TTeach seleach 4000 tmeach teach3) = (true, codesR tmeach (views (seg TTeach seleach 4000 tmeach teach3)), vweach 3) := by kernel_rfl
theorem lneach0 : ∀ ρ, Known TTeach (startF 3 cEach.pat (.lit true :: cEach.pre)) ρ → inveach 0 ρ.lt → Holds ρ (leanOf (Cfg.pc (startF 3 cEach.pat (.lit true :: cEach.pre)))) := by
  intro ρ _ _
  exact (show Holds ρ [] from fun p hp => by cases hp)
theorem lneach1 : ∀ ρ, Known TTeach teach1 ρ → inveach 1 ρ.lt → Holds ρ (leanOf (Cfg.pc teach1)) := by
  intro ρ _ _
  exact (show Holds ρ [] from fun p hp => by cases hp)
theorem lneach2 : ∀ ρ, Known TTeach teach2 ρ → inveach 2 ρ.lt → Holds ρ (leanOf (Cfg.pc teach2)) := by
  intro ρ _ _
  exact (show Holds ρ [] from fun p hp => by cases hp)
theorem lneach3 : ∀ ρ, Known TTeach teach3 ρ → inveach 3 ρ.lt → Holds ρ (leanOf (Cfg.pc teach3)) := by
  intro ρ _ _
  exact (show Holds ρ [] from fun p hp => by cases hp)
theorem told_each : Sx.Told esc.Φ cEach := by
  refine told_of (cs := [cWorks, cRunS, cRunN, cRunZ]) (all_cons told_works (all_cons told_runS (all_cons told_runN (all_cons told_runZ (all_nil))))) (sel := seleach) 4000 tmeach inveach mseach vweach 0 (pc0 := (.lit true :: cEach.pre)) (by kernel_rfl) (by kernel_rfl) (by kernel_rfl) (post_nil rfl) ?_ ?_ ?_ rfl (fun ρ _ h => h.cons (p := .lit true) (by simp only [BE.den])) (fun _ _ _ _ => trivial) ?_
  · intro k C h
    have := lk_mem h
    simp only [tmeach, List.mem_cons, Prod.mk.injEq, List.not_mem_nil, or_false] at this
    rcases this with ⟨rfl, rfl⟩ | ⟨rfl, rfl⟩ | ⟨rfl, rfl⟩ | ⟨rfl, rfl⟩
    · exact okeach0
    · exact okeach1
    · exact okeach2
    · exact okeach3
  · intro k C h
    have := lk_mem h
    simp only [tmeach, List.mem_cons, Prod.mk.injEq, List.not_mem_nil, or_false] at this
    rcases this with ⟨rfl, rfl⟩ | ⟨rfl, rfl⟩ | ⟨rfl, rfl⟩ | ⟨rfl, rfl⟩
    · exact sgeach0
    · exact sgeach1
    · exact sgeach2
    · exact sgeach3
  · intro k C h
    have := lk_mem h
    simp only [tmeach, List.mem_cons, Prod.mk.injEq, List.not_mem_nil, or_false] at this
    rcases this with ⟨rfl, rfl⟩ | ⟨rfl, rfl⟩ | ⟨rfl, rfl⟩ | ⟨rfl, rfl⟩
    · exact vcseach0
    · exact vcseach1
    · exact vcseach2
    · exact vcseach3
  · intro k C h
    have := lk_mem h
    simp only [tmeach, List.mem_cons, Prod.mk.injEq, List.not_mem_nil, or_false] at this
    rcases this with ⟨rfl, rfl⟩ | ⟨rfl, rfl⟩ | ⟨rfl, rfl⟩ | ⟨rfl, rfl⟩
    · exact lneach0
    · exact lneach1
    · exact lneach2
    · exact lneach3
end Go.Proofs.Ytdfgidogiacmnaa.esc
