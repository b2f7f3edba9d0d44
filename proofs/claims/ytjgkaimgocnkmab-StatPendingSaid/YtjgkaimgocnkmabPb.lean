/- The law StatPending, by loops. No condition. -/
import Derived.Test.YtjgkaimgocnkmabPa
set_option linter.unusedVariables false
set_option linter.unusedSimpArgs false
set_option linter.deprecated false
namespace Go.Proofs.Ytjgkaimgocnkmab.pend
open Go Go.Proofs.Ytjgkaimgocnkmab.Sx
noncomputable section
def tlaw1 : Cfg := { top := ⟨6, over (opqS 10000 94) [(2, (SV.ptr 0 0)), (3, (SV.ptr 1 0)), (4, (SV.ptr 2 0)), (5, (SV.ptr 3 0)), (6, (SV.int .i64 (IE.var .i64 1000)))], ogt (loopTodo (bodyOf (T pend.Φ [] []) 6) 0), [], false, none⟩, rest := [], heap := [(0, .cells [(SV.rom 0 (IE.lit 0) (IE.len (LE.rom 0)) none)] 27), (1, .cells [(SV.int .i64 (IE.var .i64 1))] 3), (2, .cells [(SV.bool (BE.lit false))] 4), (3, .cells [(SV.const (Go.Value.slice none 0 0))] 53)], next := 4, pc := .lit true :: ([] ++ [(BE.le (IE.lit 1) (IE.len (LE.rom 0))), (BE.le (IE.len (LE.rom 0)) (IE.lit 300)), (BE.le (IE.lit 0) (IE.var .i64 1000)), (BE.le (IE.var .i64 1000) (IE.len (LE.rom 0)))]) }
def tlaw2 : Cfg := { top := ⟨6, over (opqS 10000 94) [(2, (SV.ptr 0 0)), (3, (SV.ptr 1 0)), (4, (SV.ptr 2 0)), (5, (SV.ptr 3 0)), (6, (SV.int .i64 (IE.var .i64 1001)))], ogt (loopTodo (bodyOf (T pend.Φ [] []) 6) 0), [], false, none⟩, rest := [], heap := [(0, .cells [(SV.rom 0 (IE.lit 0) (IE.len (LE.rom 0)) none)] 27), (1, .cells [(SV.int .i64 (IE.var .i64 1))] 3), (2, .cells [(SV.bool (BE.lit false))] 4), (3, .cells [(SV.sll 5 6 1 (IE.lit 0) (IE.var .i64 1003) none)] 53), (5, .rowl (LE.var 1002) (IE.var .i64 1003) [(CK.int .i64)] 3 6 1)], next := 7, pc := .lit true :: ([] ++ [(BE.le (IE.len (LE.rom 0)) (IE.lit 300)), (BE.le (IE.lit 1) (IE.len (LE.rom 0))), (BE.le (IE.lit 0) (IE.var .i64 1001)), (BE.le (IE.var .i64 1001) (IE.len (LE.rom 0))), (BE.le (IE.lit 0) (IE.var .i64 1003)), (BE.le (IE.var .i64 1003) (IE.len (LE.rom 0))), (BE.le (IE.var .i64 1003) (IE.var .i64 1001))]) }
def tlaw3 : Cfg := { top := ⟨74, over (opqS 10000 19) [(0, (SV.func (Go.Fn.yield 15) [] [])), (5, (SV.sll 5 6 4 (IE.lit 0) (IE.len (LE.rom 0)) none)), (6, (SV.int .i64 (IE.len (LE.rom 0)))), (7, (SV.int .i64 (IE.var .i64 11489)))], ogt (loopTodo (bodyOf (T pend.Φ [] []) 74) 0), [], false, none⟩, rest := [⟨53, over (opqS 30000 20) [], ogt (rangeTodo (bodyOf (T pend.Φ [] []) 53) 0 15), [14], false, none⟩, ⟨6, over (opqS 50000 94) [(2, (SV.ptr 0 0)), (3, (SV.ptr 1 0)), (4, (SV.ptr 2 0)), (5, (SV.ptr 3 0)), (7, (SV.func (Go.Fn.func 53) [] [(SV.ptr 7 0)])), (8, (SV.ptr 8 0)), (9, (SV.ptr 9 0))], ogt (rangeTodo (bodyOf (T pend.Φ [] []) 6) 0 11), [10], false, none⟩], heap := [(15, .loop .ready none 53 (over (opqS 200000 20) [(2, (SV.ptr 12 0))]) [7, 8] ((rangeCode (bodyOf (T pend.Φ [] []) 53) 0).getD (.skip, .skip)).1 ((rangeCode (bodyOf (T pend.Φ [] []) 53) 0).getD (.skip, .skip)).2 14), (5, .rowl (LE.rom 0) (IE.len (LE.rom 0)) [(CK.int .i64), CK.bool, (CK.int .i64), (CK.int .i64)] 26 6 4), (14, .defd true), (10, .defd true), (11, .loop .ready none 6 (over (opqS 280000 94) [(2, (SV.ptr 0 0)), (3, (SV.ptr 1 0)), (4, (SV.ptr 2 0)), (5, (SV.ptr 3 0)), (8, (SV.ptr 8 0)), (9, (SV.ptr 9 0))]) [40, 41] ((rangeCode (bodyOf (T pend.Φ [] []) 6) 0).getD (.skip, .skip)).1 ((rangeCode (bodyOf (T pend.Φ [] []) 6) 0).getD (.skip, .skip)).2 10), (0, .cells [(SV.rom 0 (IE.lit 0) (IE.len (LE.rom 0)) none)] 27), (1, .cells [(SV.int .i64 (IE.var .i64 1))] 3), (2, .cells [(SV.bool (BE.lit false))] 4), (3, .cells [(SV.const (Go.Value.slice none 0 0))] 53), (7, .cells [(SV.sll 5 6 4 (IE.lit 0) (IE.len (LE.rom 0)) none)] 27), (8, .cells [(SV.int .i64 (IE.lit 0))] 3), (9, .cells [(SV.int .i64 (IE.lit 0))] 3), (12, .cells [(SV.func (Go.Fn.yield 11) [] [])] 101)], next := 16, pc := .lit true :: ([] ++ [(BE.le (IE.len (LE.rom 0)) (IE.lit 300)), (BE.le (IE.lit 1) (IE.len (LE.rom 0))), (BE.le (IE.lit 0) (IE.var .i64 11489)), (BE.le (IE.var .i64 11489) (IE.len (LE.rom 0)))]) }
def tlaw4 : Cfg := { top := ⟨74, over (opqS 10000 19) [(0, (SV.func (Go.Fn.yield 23) [] [])), (5, (SV.sll 5 6 4 (IE.lit 0) (IE.len (LE.rom 0)) none)), (6, (SV.int .i64 (IE.len (LE.rom 0)))), (7, (SV.int .i64 (IE.var .i64 281489)))], ogt (loopTodo (bodyOf (T pend.Φ [] []) 74) 0), [], false, none⟩, rest := [⟨53, over (opqS 30000 20) [], ogt (rangeTodo (bodyOf (T pend.Φ [] []) 53) 0 23), [22], false, none⟩, ⟨6, over (opqS 50000 94) [(2, (SV.ptr 0 0)), (3, (SV.ptr 1 0)), (4, (SV.ptr 2 0)), (5, (SV.ptr 3 0)), (7, (SV.func (Go.Fn.func 53) [] [(SV.ptr 7 0)])), (8, (SV.ptr 16 0)), (9, (SV.ptr 17 0))], ogt (rangeTodo (bodyOf (T pend.Φ [] []) 6) 0 19), [18, 10], false, none⟩], heap := [(23, .loop .ready none 53 (over (opqS 200000 20) [(2, (SV.ptr 20 0))]) [7, 8] ((rangeCode (bodyOf (T pend.Φ [] []) 53) 0).getD (.skip, .skip)).1 ((rangeCode (bodyOf (T pend.Φ [] []) 53) 0).getD (.skip, .skip)).2 22), (5, .rowl (LE.rom 0) (IE.len (LE.rom 0)) [(CK.int .i64), CK.bool, (CK.int .i64), (CK.int .i64)] 26 6 4), (22, .defd true), (18, .defd true), (10, .defd true), (19, .loop .ready none 6 (over (opqS 300000 94) [(2, (SV.ptr 0 0)), (3, (SV.ptr 1 0)), (4, (SV.ptr 2 0)), (5, (SV.ptr 3 0)), (8, (SV.ptr 16 0)), (9, (SV.ptr 17 0))]) [40, 41] ((rangeCode (bodyOf (T pend.Φ [] []) 6) 0).getD (.skip, .skip)).1 ((rangeCode (bodyOf (T pend.Φ [] []) 6) 0).getD (.skip, .skip)).2 18), (0, .cells [(SV.rom 0 (IE.lit 0) (IE.len (LE.rom 0)) none)] 27), (1, .cells [(SV.int .i64 (IE.var .i64 1))] 3), (2, .cells [(SV.bool (BE.lit false))] 4), (3, .cells [(SV.const (Go.Value.slice none 0 0))] 53), (7, .cells [(SV.sll 5 6 4 (IE.lit 0) (IE.len (LE.rom 0)) none)] 27), (16, .cells [(SV.int .i64 (IE.lit 1))] 3), (17, .cells [(SV.int .i64 (IE.lit 0))] 3), (20, .cells [(SV.func (Go.Fn.yield 19) [] [])] 101)], next := 24, pc := .lit true :: ([] ++ [(BE.le (IE.lit 1) (IE.len (LE.rom 0))), (BE.le (IE.len (LE.rom 0)) (IE.lit 300)), (BE.le (IE.lit 0) (IE.var .i64 281489)), (BE.le (IE.var .i64 281489) (IE.len (LE.rom 0)))]) }
def tlaw5 : Cfg := { top := ⟨74, over (opqS 10000 19) [(0, (SV.func (Go.Fn.yield 18) [] [])), (5, (SV.sll 8 9 4 (IE.lit 0) (IE.len (LE.rom 0)) none)), (6, (SV.int .i64 (IE.len (LE.rom 0)))), (7, (SV.int .i64 (IE.var .i64 11489)))], ogt (loopTodo (bodyOf (T pend.Φ [] []) 74) 0), [], false, none⟩, rest := [⟨53, over (opqS 30000 20) [], ogt (rangeTodo (bodyOf (T pend.Φ [] []) 53) 0 18), [17], false, none⟩, ⟨6, over (opqS 50000 94) [(2, (SV.ptr 0 0)), (3, (SV.ptr 1 0)), (4, (SV.ptr 2 0)), (5, (SV.ptr 3 0)), (7, (SV.func (Go.Fn.func 53) [] [(SV.ptr 10 0)])), (8, (SV.ptr 11 0)), (9, (SV.ptr 12 0))], ogt (rangeTodo (bodyOf (T pend.Φ [] []) 6) 0 14), [13], false, none⟩], heap := [(18, .loop .ready none 53 (over (opqS 200000 20) [(2, (SV.ptr 15 0))]) [7, 8] ((rangeCode (bodyOf (T pend.Φ [] []) 53) 0).getD (.skip, .skip)).1 ((rangeCode (bodyOf (T pend.Φ [] []) 53) 0).getD (.skip, .skip)).2 17), (8, .rowl (LE.rom 0) (IE.len (LE.rom 0)) [(CK.int .i64), CK.bool, (CK.int .i64), (CK.int .i64)] 26 9 4), (17, .defd true), (13, .defd true), (14, .loop .ready none 6 (over (opqS 280000 94) [(2, (SV.ptr 0 0)), (3, (SV.ptr 1 0)), (4, (SV.ptr 2 0)), (5, (SV.ptr 3 0)), (8, (SV.ptr 11 0)), (9, (SV.ptr 12 0))]) [40, 41] ((rangeCode (bodyOf (T pend.Φ [] []) 6) 0).getD (.skip, .skip)).1 ((rangeCode (bodyOf (T pend.Φ [] []) 6) 0).getD (.skip, .skip)).2 13), (0, .cells [(SV.rom 0 (IE.lit 0) (IE.len (LE.rom 0)) none)] 27), (1, .cells [(SV.int .i64 (IE.var .i64 1))] 3), (2, .cells [(SV.bool (BE.lit false))] 4), (3, .cells [(SV.sll 5 6 1 (IE.lit 0) (IE.var .i64 1003) none)] 53), (10, .cells [(SV.sll 8 9 4 (IE.lit 0) (IE.len (LE.rom 0)) none)] 27), (11, .cells [(SV.int .i64 (IE.lit 0))] 3), (12, .cells [(SV.int .i64 (IE.var .i64 11490))] 3), (15, .cells [(SV.func (Go.Fn.yield 14) [] [])] 101), (5, .rowl (LE.var 1002) (IE.var .i64 1003) [(CK.int .i64)] 3 6 1)], next := 19, pc := .lit true :: ([] ++ [(BE.le (IE.lit 1) (IE.len (LE.rom 0))), (BE.le (IE.len (LE.rom 0)) (IE.lit 300)), (BE.le (IE.lit 0) (IE.var .i64 1003)), (BE.le (IE.var .i64 1003) (IE.len (LE.rom 0))), (BE.le (IE.lit 0) (IE.var .i64 11489)), (BE.le (IE.var .i64 11489) (IE.len (LE.rom 0))), (BE.le (IE.var .i64 11490) (IE.var .i64 11489)), (BE.le (IE.lit 0) (IE.var .i64 11490)), (BE.le (IE.var .i64 11490) (IE.len (LE.rom 0))), (BE.le (IE.var .i64 11490) (IE.var .i64 1003))]) }
def tlaw6 : Cfg := { top := ⟨74, over (opqS 10000 19) [(0, (SV.func (Go.Fn.yield 26) [] [])), (5, (SV.sll 8 9 4 (IE.lit 0) (IE.len (LE.rom 0)) none)), (6, (SV.int .i64 (IE.len (LE.rom 0)))), (7, (SV.int .i64 (IE.var .i64 281489)))], ogt (loopTodo (bodyOf (T pend.Φ [] []) 74) 0), [], false, none⟩, rest := [⟨53, over (opqS 30000 20) [], ogt (rangeTodo (bodyOf (T pend.Φ [] []) 53) 0 26), [25], false, none⟩, ⟨6, over (opqS 50000 94) [(2, (SV.ptr 0 0)), (3, (SV.ptr 1 0)), (4, (SV.ptr 2 0)), (5, (SV.ptr 3 0)), (7, (SV.func (Go.Fn.func 53) [] [(SV.ptr 10 0)])), (8, (SV.ptr 19 0)), (9, (SV.ptr 20 0))], ogt (rangeTodo (bodyOf (T pend.Φ [] []) 6) 0 22), [21, 13], false, none⟩], heap := [(26, .loop .ready none 53 (over (opqS 200000 20) [(2, (SV.ptr 23 0))]) [7, 8] ((rangeCode (bodyOf (T pend.Φ [] []) 53) 0).getD (.skip, .skip)).1 ((rangeCode (bodyOf (T pend.Φ [] []) 53) 0).getD (.skip, .skip)).2 25), (8, .rowl (LE.rom 0) (IE.len (LE.rom 0)) [(CK.int .i64), CK.bool, (CK.int .i64), (CK.int .i64)] 26 9 4), (25, .defd true), (21, .defd true), (13, .defd true), (22, .loop .ready none 6 (over (opqS 300000 94) [(2, (SV.ptr 0 0)), (3, (SV.ptr 1 0)), (4, (SV.ptr 2 0)), (5, (SV.ptr 3 0)), (8, (SV.ptr 19 0)), (9, (SV.ptr 20 0))]) [40, 41] ((rangeCode (bodyOf (T pend.Φ [] []) 6) 0).getD (.skip, .skip)).1 ((rangeCode (bodyOf (T pend.Φ [] []) 6) 0).getD (.skip, .skip)).2 21), (0, .cells [(SV.rom 0 (IE.lit 0) (IE.len (LE.rom 0)) none)] 27), (1, .cells [(SV.int .i64 (IE.var .i64 1))] 3), (2, .cells [(SV.bool (BE.lit false))] 4), (3, .cells [(SV.sll 5 6 1 (IE.lit 0) (IE.var .i64 1003) none)] 53), (10, .cells [(SV.sll 8 9 4 (IE.lit 0) (IE.len (LE.rom 0)) none)] 27), (19, .cells [(SV.int .i64 (IE.lit 1))] 3), (20, .cells [(SV.int .i64 (IE.var .i64 281490))] 3), (23, .cells [(SV.func (Go.Fn.yield 22) [] [])] 101), (5, .rowl (LE.var 1002) (IE.var .i64 1003) [(CK.int .i64)] 3 6 1)], next := 27, pc := .lit true :: ([] ++ [(BE.le (IE.len (LE.rom 0)) (IE.lit 300)), (BE.le (IE.lit 1) (IE.len (LE.rom 0))), (BE.le (IE.lit 0) (IE.var .i64 1003)), (BE.le (IE.var .i64 1003) (IE.len (LE.rom 0))), (BE.le (IE.lit 0) (IE.var .i64 281489)), (BE.le (IE.var .i64 281489) (IE.len (LE.rom 0))), (BE.le (IE.var .i64 281490) (IE.var .i64 281489)), (BE.le (IE.lit 0) (IE.var .i64 281490)), (BE.le (IE.var .i64 281490) (IE.len (LE.rom 0))), (BE.le (IE.var .i64 281490) (IE.var .i64 1003))]) }
def tmlaw : List (Nat × Cfg) := [(0, startF 6 cLaw.pat (.lit true :: cLaw.pre)), (1, tlaw1), (2, tlaw2), (3, tlaw3), (4, tlaw4), (5, tlaw5), (6, tlaw6)]
def sellaw : Sel := [(6, 6000001, 643000, 1), (6, 6000001, 644000, 2), (74, 1, 2020066179002, 3), (74, 1, 2030066179002, 4), (74, 1, 2020066180002, 5), (74, 1, 2030066180002, 6)]
def wlaw0_0 : VW := (VW.cut 1 [(BE.le (IE.len (LE.rom 0)) (IE.lit 300)), (BE.lit true), (BE.le (IE.lit 1) (IE.len (LE.rom 0)))] (Sx.Sub.mk [(.i64, (1000, (IE.lit 0)))] [] [] [] [] []))
def wlaw0_1 : VW := (VW.done [(BE.not (BE.le (IE.len (LE.rom 0)) (IE.lit 300))), (BE.lit true), (BE.le (IE.lit 1) (IE.len (LE.rom 0)))] (some []))
def vwlaw0 : List VW := [wlaw0_0, wlaw0_1]
def wlaw1_0 : VW := (VW.cut 3 [(BE.le (IE.len (LE.rom 0)) (IE.var .i64 1000)), (BE.lit true), (BE.le (IE.lit 1) (IE.len (LE.rom 0))), (BE.le (IE.len (LE.rom 0)) (IE.lit 300)), (BE.le (IE.lit 0) (IE.var .i64 1000)), (BE.le (IE.var .i64 1000) (IE.len (LE.rom 0)))] (Sx.Sub.mk [(.i64, (11489, (IE.lit 0)))] [] [] [] [] []))
def wlaw1_1 : VW := (VW.cut 2 [(BE.cel (LE.rom 0) (IE.var .i64 1000) 1), (BE.not (BE.le (IE.len (LE.rom 0)) (IE.var .i64 1000))), (BE.lit true), (BE.le (IE.lit 1) (IE.len (LE.rom 0))), (BE.le (IE.len (LE.rom 0)) (IE.lit 300)), (BE.le (IE.lit 0) (IE.var .i64 1000)), (BE.le (IE.var .i64 1000) (IE.len (LE.rom 0)))] (Sx.Sub.mk [(.i64, (1003, (IE.lit 1))), (.i64, (1001, (IE.add (IE.var .i64 1000) (IE.lit 1))))] [] [(1002, (LE.one (AL.int .i64 (IE.var .i64 1000) AL.nil)))] [] [] []))
def wlaw1_2 : VW := (VW.cut 1 [(BE.not (BE.cel (LE.rom 0) (IE.var .i64 1000) 1)), (BE.not (BE.le (IE.len (LE.rom 0)) (IE.var .i64 1000))), (BE.lit true), (BE.le (IE.lit 1) (IE.len (LE.rom 0))), (BE.le (IE.len (LE.rom 0)) (IE.lit 300)), (BE.le (IE.lit 0) (IE.var .i64 1000)), (BE.le (IE.var .i64 1000) (IE.len (LE.rom 0)))] (Sx.Sub.mk [(.i64, (1000, (IE.add (IE.var .i64 1000) (IE.lit 1))))] [] [] [] [] []))
def vwlaw1 : List VW := [wlaw1_0, wlaw1_1, wlaw1_2]
def wlaw2_0 : VW := (VW.cut 5 [(BE.le (IE.len (LE.rom 0)) (IE.var .i64 1001)), (BE.lit true), (BE.le (IE.len (LE.rom 0)) (IE.lit 300)), (BE.le (IE.lit 1) (IE.len (LE.rom 0))), (BE.le (IE.lit 0) (IE.var .i64 1001)), (BE.le (IE.var .i64 1001) (IE.len (LE.rom 0))), (BE.le (IE.lit 0) (IE.var .i64 1003)), (BE.le (IE.var .i64 1003) (IE.len (LE.rom 0))), (BE.le (IE.var .i64 1003) (IE.var .i64 1001))] (Sx.Sub.mk [(.i64, (11490, (IE.lit 0))), (.i64, (1003, (IE.var .i64 1003))), (.i64, (11489, (IE.lit 0)))] [] [(1002, (LE.var 1002))] [] [] []))
def wlaw2_1 : VW := (VW.cut 2 [(BE.cel (LE.rom 0) (IE.var .i64 1001) 1), (BE.not (BE.le (IE.len (LE.rom 0)) (IE.var .i64 1001))), (BE.lit true), (BE.le (IE.len (LE.rom 0)) (IE.lit 300)), (BE.le (IE.lit 1) (IE.len (LE.rom 0))), (BE.le (IE.lit 0) (IE.var .i64 1001)), (BE.le (IE.var .i64 1001) (IE.len (LE.rom 0))), (BE.le (IE.lit 0) (IE.var .i64 1003)), (BE.le (IE.var .i64 1003) (IE.len (LE.rom 0))), (BE.le (IE.var .i64 1003) (IE.var .i64 1001))] (Sx.Sub.mk [(.i64, (1003, (IE.add (IE.var .i64 1003) (IE.lit 1)))), (.i64, (1001, (IE.add (IE.var .i64 1001) (IE.lit 1))))] [] [(1002, (LE.cat (LE.var 1002) (LE.one (AL.int .i64 (IE.var .i64 1001) AL.nil))))] [] [] []))
def wlaw2_2 : VW := (VW.cut 2 [(BE.not (BE.cel (LE.rom 0) (IE.var .i64 1001) 1)), (BE.not (BE.le (IE.len (LE.rom 0)) (IE.var .i64 1001))), (BE.lit true), (BE.le (IE.len (LE.rom 0)) (IE.lit 300)), (BE.le (IE.lit 1) (IE.len (LE.rom 0))), (BE.le (IE.lit 0) (IE.var .i64 1001)), (BE.le (IE.var .i64 1001) (IE.len (LE.rom 0))), (BE.le (IE.lit 0) (IE.var .i64 1003)), (BE.le (IE.var .i64 1003) (IE.len (LE.rom 0))), (BE.le (IE.var .i64 1003) (IE.var .i64 1001))] (Sx.Sub.mk [(.i64, (1003, (IE.var .i64 1003))), (.i64, (1001, (IE.add (IE.var .i64 1001) (IE.lit 1))))] [] [(1002, (LE.var 1002))] [] [] []))
def vwlaw2 : List VW := [wlaw2_0, wlaw2_1, wlaw2_2]
def wlaw3_0 : VW := (VW.cut 4 [(BE.le (IE.lit 1) (IE.var .i64 1)), (BE.le (IE.len (LE.rom 0)) (IE.var .i64 11489)), (BE.lit true), (BE.le (IE.len (LE.rom 0)) (IE.lit 300)), (BE.le (IE.lit 1) (IE.len (LE.rom 0))), (BE.le (IE.lit 0) (IE.var .i64 11489)), (BE.le (IE.var .i64 11489) (IE.len (LE.rom 0)))] (Sx.Sub.mk [(.i64, (281489, (IE.lit 0)))] [] [] [] [] []))
def wlaw3_1 : VW := (VW.cut 4 [(BE.not (BE.le (IE.lit 1) (IE.var .i64 1))), (BE.le (IE.len (LE.rom 0)) (IE.var .i64 11489)), (BE.lit true), (BE.le (IE.len (LE.rom 0)) (IE.lit 300)), (BE.le (IE.lit 1) (IE.len (LE.rom 0))), (BE.le (IE.lit 0) (IE.var .i64 11489)), (BE.le (IE.var .i64 11489) (IE.len (LE.rom 0)))] (Sx.Sub.mk [(.i64, (281489, (IE.lit 0)))] [] [] [] [] []))
def wlaw3_2 : VW := (VW.done [(BE.cel (LE.rom 0) (IE.var .i64 11489) 1), (BE.not (BE.le (IE.len (LE.rom 0)) (IE.var .i64 11489))), (BE.lit true), (BE.le (IE.len (LE.rom 0)) (IE.lit 300)), (BE.le (IE.lit 1) (IE.len (LE.rom 0))), (BE.le (IE.lit 0) (IE.var .i64 11489)), (BE.le (IE.var .i64 11489) (IE.len (LE.rom 0)))] (some [(G.b (BE.lit true) (BE.lit false))]))
def wlaw3_3 : VW := (VW.cut 3 [(BE.not (BE.cel (LE.rom 0) (IE.var .i64 11489) 1)), (BE.not (BE.le (IE.len (LE.rom 0)) (IE.var .i64 11489))), (BE.lit true), (BE.le (IE.len (LE.rom 0)) (IE.lit 300)), (BE.le (IE.lit 1) (IE.len (LE.rom 0))), (BE.le (IE.lit 0) (IE.var .i64 11489)), (BE.le (IE.var .i64 11489) (IE.len (LE.rom 0)))] (Sx.Sub.mk [(.i64, (11489, (IE.add (IE.var .i64 11489) (IE.lit 1))))] [] [] [] [] []))
def vwlaw3 : List VW := [wlaw3_0, wlaw3_1, wlaw3_2, wlaw3_3]
def wlaw4_0 : VW := (VW.done [(BE.le (IE.len (LE.rom 0)) (IE.var .i64 281489)), (BE.lit true), (BE.le (IE.lit 1) (IE.len (LE.rom 0))), (BE.le (IE.len (LE.rom 0)) (IE.lit 300)), (BE.le (IE.lit 0) (IE.var .i64 281489)), (BE.le (IE.var .i64 281489) (IE.len (LE.rom 0)))] (some []))
def wlaw4_1 : VW := (VW.done [(BE.cel (LE.rom 0) (IE.var .i64 281489) 1), (BE.not (BE.le (IE.len (LE.rom 0)) (IE.var .i64 281489))), (BE.lit true), (BE.le (IE.lit 1) (IE.len (LE.rom 0))), (BE.le (IE.len (LE.rom 0)) (IE.lit 300)), (BE.le (IE.lit 0) (IE.var .i64 281489)), (BE.le (IE.var .i64 281489) (IE.len (LE.rom 0)))] (some [(G.b (BE.lit true) (BE.lit false))]))
def wlaw4_2 : VW := (VW.cut 4 [(BE.not (BE.cel (LE.rom 0) (IE.var .i64 281489) 1)), (BE.not (BE.le (IE.len (LE.rom 0)) (IE.var .i64 281489))), (BE.lit true), (BE.le (IE.lit 1) (IE.len (LE.rom 0))), (BE.le (IE.len (LE.rom 0)) (IE.lit 300)), (BE.le (IE.lit 0) (IE.var .i64 281489)), (BE.le (IE.var .i64 281489) (IE.len (LE.rom 0)))] (Sx.Sub.mk [(.i64, (281489, (IE.add (IE.var .i64 281489) (IE.lit 1))))] [] [] [] [] []))
def vwlaw4 : List VW := [wlaw4_0, wlaw4_1, wlaw4_2]
def wlaw5_0 : VW := (VW.cut 6 [(BE.eq (IE.var .i64 11490) (IE.var .i64 1003)), (BE.le (IE.var .i64 1003) (IE.var .i64 1)), (BE.le (IE.lit 1) (IE.var .i64 1)), (BE.le (IE.len (LE.rom 0)) (IE.var .i64 11489)), (BE.lit true), (BE.le (IE.lit 1) (IE.len (LE.rom 0))), (BE.le (IE.len (LE.rom 0)) (IE.lit 300)), (BE.le (IE.lit 0) (IE.var .i64 1003)), (BE.le (IE.var .i64 1003) (IE.len (LE.rom 0))), (BE.le (IE.lit 0) (IE.var .i64 11489)), (BE.le (IE.var .i64 11489) (IE.len (LE.rom 0))), (BE.le (IE.var .i64 11490) (IE.var .i64 11489)), (BE.le (IE.lit 0) (IE.var .i64 11490)), (BE.le (IE.var .i64 11490) (IE.len (LE.rom 0))), (BE.le (IE.var .i64 11490) (IE.var .i64 1003))] (Sx.Sub.mk [(.i64, (281490, (IE.lit 0))), (.i64, (1003, (IE.var .i64 1003))), (.i64, (281489, (IE.lit 0)))] [] [(1002, (LE.var 1002))] [] [] []))
def wlaw5_1 : VW := (VW.done [(BE.not (BE.eq (IE.var .i64 11490) (IE.var .i64 1003))), (BE.le (IE.var .i64 1003) (IE.var .i64 1)), (BE.le (IE.lit 1) (IE.var .i64 1)), (BE.le (IE.len (LE.rom 0)) (IE.var .i64 11489)), (BE.lit true), (BE.le (IE.lit 1) (IE.len (LE.rom 0))), (BE.le (IE.len (LE.rom 0)) (IE.lit 300)), (BE.le (IE.lit 0) (IE.var .i64 1003)), (BE.le (IE.var .i64 1003) (IE.len (LE.rom 0))), (BE.le (IE.lit 0) (IE.var .i64 11489)), (BE.le (IE.var .i64 11489) (IE.len (LE.rom 0))), (BE.le (IE.var .i64 11490) (IE.var .i64 11489)), (BE.le (IE.lit 0) (IE.var .i64 11490)), (BE.le (IE.var .i64 11490) (IE.len (LE.rom 0))), (BE.le (IE.var .i64 11490) (IE.var .i64 1003))] (some [(G.b (BE.lit true) (BE.lit false))]))
def wlaw5_2 : VW := (VW.cut 6 [(BE.eq (IE.var .i64 11490) (IE.var .i64 1)), (BE.not (BE.le (IE.var .i64 1003) (IE.var .i64 1))), (BE.le (IE.lit 1) (IE.var .i64 1)), (BE.le (IE.len (LE.rom 0)) (IE.var .i64 11489)), (BE.lit true), (BE.le (IE.lit 1) (IE.len (LE.rom 0))), (BE.le (IE.len (LE.rom 0)) (IE.lit 300)), (BE.le (IE.lit 0) (IE.var .i64 1003)), (BE.le (IE.var .i64 1003) (IE.len (LE.rom 0))), (BE.le (IE.lit 0) (IE.var .i64 11489)), (BE.le (IE.var .i64 11489) (IE.len (LE.rom 0))), (BE.le (IE.var .i64 11490) (IE.var .i64 11489)), (BE.le (IE.lit 0) (IE.var .i64 11490)), (BE.le (IE.var .i64 11490) (IE.len (LE.rom 0))), (BE.le (IE.var .i64 11490) (IE.var .i64 1003))] (Sx.Sub.mk [(.i64, (281490, (IE.lit 0))), (.i64, (1003, (IE.var .i64 1003))), (.i64, (281489, (IE.lit 0)))] [] [(1002, (LE.var 1002))] [] [] []))
def wlaw5_3 : VW := (VW.done [(BE.not (BE.eq (IE.var .i64 11490) (IE.var .i64 1))), (BE.not (BE.le (IE.var .i64 1003) (IE.var .i64 1))), (BE.le (IE.lit 1) (IE.var .i64 1)), (BE.le (IE.len (LE.rom 0)) (IE.var .i64 11489)), (BE.lit true), (BE.le (IE.lit 1) (IE.len (LE.rom 0))), (BE.le (IE.len (LE.rom 0)) (IE.lit 300)), (BE.le (IE.lit 0) (IE.var .i64 1003)), (BE.le (IE.var .i64 1003) (IE.len (LE.rom 0))), (BE.le (IE.lit 0) (IE.var .i64 11489)), (BE.le (IE.var .i64 11489) (IE.len (LE.rom 0))), (BE.le (IE.var .i64 11490) (IE.var .i64 11489)), (BE.le (IE.lit 0) (IE.var .i64 11490)), (BE.le (IE.var .i64 11490) (IE.len (LE.rom 0))), (BE.le (IE.var .i64 11490) (IE.var .i64 1003))] (some [(G.b (BE.lit true) (BE.lit false))]))
def wlaw5_4 : VW := (VW.cut 6 [(BE.eq (IE.var .i64 11490) (IE.var .i64 1003)), (BE.le (IE.var .i64 1003) (IE.lit 1)), (BE.not (BE.le (IE.lit 1) (IE.var .i64 1))), (BE.le (IE.len (LE.rom 0)) (IE.var .i64 11489)), (BE.lit true), (BE.le (IE.lit 1) (IE.len (LE.rom 0))), (BE.le (IE.len (LE.rom 0)) (IE.lit 300)), (BE.le (IE.lit 0) (IE.var .i64 1003)), (BE.le (IE.var .i64 1003) (IE.len (LE.rom 0))), (BE.le (IE.lit 0) (IE.var .i64 11489)), (BE.le (IE.var .i64 11489) (IE.len (LE.rom 0))), (BE.le (IE.var .i64 11490) (IE.var .i64 11489)), (BE.le (IE.lit 0) (IE.var .i64 11490)), (BE.le (IE.var .i64 11490) (IE.len (LE.rom 0))), (BE.le (IE.var .i64 11490) (IE.var .i64 1003))] (Sx.Sub.mk [(.i64, (281490, (IE.lit 0))), (.i64, (1003, (IE.var .i64 1003))), (.i64, (281489, (IE.lit 0)))] [] [(1002, (LE.var 1002))] [] [] []))
def wlaw5_5 : VW := (VW.done [(BE.not (BE.eq (IE.var .i64 11490) (IE.var .i64 1003))), (BE.le (IE.var .i64 1003) (IE.lit 1)), (BE.not (BE.le (IE.lit 1) (IE.var .i64 1))), (BE.le (IE.len (LE.rom 0)) (IE.var .i64 11489)), (BE.lit true), (BE.le (IE.lit 1) (IE.len (LE.rom 0))), (BE.le (IE.len (LE.rom 0)) (IE.lit 300)), (BE.le (IE.lit 0) (IE.var .i64 1003)), (BE.le (IE.var .i64 1003) (IE.len (LE.rom 0))), (BE.le (IE.lit 0) (IE.var .i64 11489)), (BE.le (IE.var .i64 11489) (IE.len (LE.rom 0))), (BE.le (IE.var .i64 11490) (IE.var .i64 11489)), (BE.le (IE.lit 0) (IE.var .i64 11490)), (BE.le (IE.var .i64 11490) (IE.len (LE.rom 0))), (BE.le (IE.var .i64 11490) (IE.var .i64 1003))] (some [(G.b (BE.lit true) (BE.lit false))]))
def wlaw5_6 : VW := (VW.cut 6 [(BE.eq (IE.var .i64 11490) (IE.lit 1)), (BE.not (BE.le (IE.var .i64 1003) (IE.lit 1))), (BE.not (BE.le (IE.lit 1) (IE.var .i64 1))), (BE.le (IE.len (LE.rom 0)) (IE.var .i64 11489)), (BE.lit true), (BE.le (IE.lit 1) (IE.len (LE.rom 0))), (BE.le (IE.len (LE.rom 0)) (IE.lit 300)), (BE.le (IE.lit 0) (IE.var .i64 1003)), (BE.le (IE.var .i64 1003) (IE.len (LE.rom 0))), (BE.le (IE.lit 0) (IE.var .i64 11489)), (BE.le (IE.var .i64 11489) (IE.len (LE.rom 0))), (BE.le (IE.var .i64 11490) (IE.var .i64 11489)), (BE.le (IE.lit 0) (IE.var .i64 11490)), (BE.le (IE.var .i64 11490) (IE.len (LE.rom 0))), (BE.le (IE.var .i64 11490) (IE.var .i64 1003))] (Sx.Sub.mk [(.i64, (281490, (IE.lit 0))), (.i64, (1003, (IE.var .i64 1003))), (.i64, (281489, (IE.lit 0)))] [] [(1002, (LE.var 1002))] [] [] []))
def wlaw5_7 : VW := (VW.done [(BE.not (BE.eq (IE.var .i64 11490) (IE.lit 1))), (BE.not (BE.le (IE.var .i64 1003) (IE.lit 1))), (BE.not (BE.le (IE.lit 1) (IE.var .i64 1))), (BE.le (IE.len (LE.rom 0)) (IE.var .i64 11489)), (BE.lit true), (BE.le (IE.lit 1) (IE.len (LE.rom 0))), (BE.le (IE.len (LE.rom 0)) (IE.lit 300)), (BE.le (IE.lit 0) (IE.var .i64 1003)), (BE.le (IE.var .i64 1003) (IE.len (LE.rom 0))), (BE.le (IE.lit 0) (IE.var .i64 11489)), (BE.le (IE.var .i64 11489) (IE.len (LE.rom 0))), (BE.le (IE.var .i64 11490) (IE.var .i64 11489)), (BE.le (IE.lit 0) (IE.var .i64 11490)), (BE.le (IE.var .i64 11490) (IE.len (LE.rom 0))), (BE.le (IE.var .i64 11490) (IE.var .i64 1003))] (some [(G.b (BE.lit true) (BE.lit false))]))
def wlaw5_8 : VW := (VW.done [(BE.le (IE.var .i64 1003) (IE.var .i64 11490)), (BE.cel (LE.rom 0) (IE.var .i64 11489) 1), (BE.not (BE.le (IE.len (LE.rom 0)) (IE.var .i64 11489))), (BE.lit true), (BE.le (IE.lit 1) (IE.len (LE.rom 0))), (BE.le (IE.len (LE.rom 0)) (IE.lit 300)), (BE.le (IE.lit 0) (IE.var .i64 1003)), (BE.le (IE.var .i64 1003) (IE.len (LE.rom 0))), (BE.le (IE.lit 0) (IE.var .i64 11489)), (BE.le (IE.var .i64 11489) (IE.len (LE.rom 0))), (BE.le (IE.var .i64 11490) (IE.var .i64 11489)), (BE.le (IE.lit 0) (IE.var .i64 11490)), (BE.le (IE.var .i64 11490) (IE.len (LE.rom 0))), (BE.le (IE.var .i64 11490) (IE.var .i64 1003))] (some [(G.b (BE.lit true) (BE.lit false))]))
def wlaw5_9 : VW := (VW.cut 6 [(BE.le (IE.var .i64 1003) (IE.var .i64 1)), (BE.le (IE.lit 1) (IE.var .i64 1)), (BE.le (IE.var .i64 1) (IE.add (IE.var .i64 11490) (IE.lit 1))), (BE.eq (IE.var .i64 11489) (IE.cel .i64 (LE.var 1002) (IE.var .i64 11490) 0)), (BE.not (BE.le (IE.var .i64 1003) (IE.var .i64 11490))), (BE.cel (LE.rom 0) (IE.var .i64 11489) 1), (BE.not (BE.le (IE.len (LE.rom 0)) (IE.var .i64 11489))), (BE.lit true), (BE.le (IE.lit 1) (IE.len (LE.rom 0))), (BE.le (IE.len (LE.rom 0)) (IE.lit 300)), (BE.le (IE.lit 0) (IE.var .i64 1003)), (BE.le (IE.var .i64 1003) (IE.len (LE.rom 0))), (BE.le (IE.lit 0) (IE.var .i64 11489)), (BE.le (IE.var .i64 11489) (IE.len (LE.rom 0))), (BE.le (IE.var .i64 11490) (IE.var .i64 11489)), (BE.le (IE.lit 0) (IE.var .i64 11490)), (BE.le (IE.var .i64 11490) (IE.len (LE.rom 0))), (BE.le (IE.var .i64 11490) (IE.var .i64 1003))] (Sx.Sub.mk [(.i64, (281490, (IE.lit 0))), (.i64, (1003, (IE.var .i64 1003))), (.i64, (281489, (IE.lit 0)))] [] [(1002, (LE.var 1002))] [] [] []))
def wlaw5_10 : VW := (VW.cut 6 [(BE.eq (IE.add (IE.var .i64 11490) (IE.lit 1)) (IE.var .i64 1)), (BE.not (BE.le (IE.var .i64 1003) (IE.var .i64 1))), (BE.le (IE.lit 1) (IE.var .i64 1)), (BE.le (IE.var .i64 1) (IE.add (IE.var .i64 11490) (IE.lit 1))), (BE.eq (IE.var .i64 11489) (IE.cel .i64 (LE.var 1002) (IE.var .i64 11490) 0)), (BE.not (BE.le (IE.var .i64 1003) (IE.var .i64 11490))), (BE.cel (LE.rom 0) (IE.var .i64 11489) 1), (BE.not (BE.le (IE.len (LE.rom 0)) (IE.var .i64 11489))), (BE.lit true), (BE.le (IE.lit 1) (IE.len (LE.rom 0))), (BE.le (IE.len (LE.rom 0)) (IE.lit 300)), (BE.le (IE.lit 0) (IE.var .i64 1003)), (BE.le (IE.var .i64 1003) (IE.len (LE.rom 0))), (BE.le (IE.lit 0) (IE.var .i64 11489)), (BE.le (IE.var .i64 11489) (IE.len (LE.rom 0))), (BE.le (IE.var .i64 11490) (IE.var .i64 11489)), (BE.le (IE.lit 0) (IE.var .i64 11490)), (BE.le (IE.var .i64 11490) (IE.len (LE.rom 0))), (BE.le (IE.var .i64 11490) (IE.var .i64 1003))] (Sx.Sub.mk [(.i64, (281490, (IE.lit 0))), (.i64, (1003, (IE.var .i64 1003))), (.i64, (281489, (IE.lit 0)))] [] [(1002, (LE.var 1002))] [] [] []))
def wlaw5_11 : VW := (VW.done [(BE.not (BE.eq (IE.add (IE.var .i64 11490) (IE.lit 1)) (IE.var .i64 1))), (BE.not (BE.le (IE.var .i64 1003) (IE.var .i64 1))), (BE.le (IE.lit 1) (IE.var .i64 1)), (BE.le (IE.var .i64 1) (IE.add (IE.var .i64 11490) (IE.lit 1))), (BE.eq (IE.var .i64 11489) (IE.cel .i64 (LE.var 1002) (IE.var .i64 11490) 0)), (BE.not (BE.le (IE.var .i64 1003) (IE.var .i64 11490))), (BE.cel (LE.rom 0) (IE.var .i64 11489) 1), (BE.not (BE.le (IE.len (LE.rom 0)) (IE.var .i64 11489))), (BE.lit true), (BE.le (IE.lit 1) (IE.len (LE.rom 0))), (BE.le (IE.len (LE.rom 0)) (IE.lit 300)), (BE.le (IE.lit 0) (IE.var .i64 1003)), (BE.le (IE.var .i64 1003) (IE.len (LE.rom 0))), (BE.le (IE.lit 0) (IE.var .i64 11489)), (BE.le (IE.var .i64 11489) (IE.len (LE.rom 0))), (BE.le (IE.var .i64 11490) (IE.var .i64 11489)), (BE.le (IE.lit 0) (IE.var .i64 11490)), (BE.le (IE.var .i64 11490) (IE.len (LE.rom 0))), (BE.le (IE.var .i64 11490) (IE.var .i64 1003))] (some [(G.b (BE.lit true) (BE.lit false))]))
def wlaw5_12 : VW := (VW.cut 6 [(BE.le (IE.var .i64 1003) (IE.lit 1)), (BE.not (BE.le (IE.lit 1) (IE.var .i64 1))), (BE.le (IE.var .i64 1) (IE.add (IE.var .i64 11490) (IE.lit 1))), (BE.eq (IE.var .i64 11489) (IE.cel .i64 (LE.var 1002) (IE.var .i64 11490) 0)), (BE.not (BE.le (IE.var .i64 1003) (IE.var .i64 11490))), (BE.cel (LE.rom 0) (IE.var .i64 11489) 1), (BE.not (BE.le (IE.len (LE.rom 0)) (IE.var .i64 11489))), (BE.lit true), (BE.le (IE.lit 1) (IE.len (LE.rom 0))), (BE.le (IE.len (LE.rom 0)) (IE.lit 300)), (BE.le (IE.lit 0) (IE.var .i64 1003)), (BE.le (IE.var .i64 1003) (IE.len (LE.rom 0))), (BE.le (IE.lit 0) (IE.var .i64 11489)), (BE.le (IE.var .i64 11489) (IE.len (LE.rom 0))), (BE.le (IE.var .i64 11490) (IE.var .i64 11489)), (BE.le (IE.lit 0) (IE.var .i64 11490)), (BE.le (IE.var .i64 11490) (IE.len (LE.rom 0))), (BE.le (IE.var .i64 11490) (IE.var .i64 1003))] (Sx.Sub.mk [(.i64, (281490, (IE.lit 0))), (.i64, (1003, (IE.var .i64 1003))), (.i64, (281489, (IE.lit 0)))] [] [(1002, (LE.var 1002))] [] [] []))
def wlaw5_13 : VW := (VW.cut 6 [(BE.eq (IE.add (IE.var .i64 11490) (IE.lit 1)) (IE.lit 1)), (BE.not (BE.le (IE.var .i64 1003) (IE.lit 1))), (BE.not (BE.le (IE.lit 1) (IE.var .i64 1))), (BE.le (IE.var .i64 1) (IE.add (IE.var .i64 11490) (IE.lit 1))), (BE.eq (IE.var .i64 11489) (IE.cel .i64 (LE.var 1002) (IE.var .i64 11490) 0)), (BE.not (BE.le (IE.var .i64 1003) (IE.var .i64 11490))), (BE.cel (LE.rom 0) (IE.var .i64 11489) 1), (BE.not (BE.le (IE.len (LE.rom 0)) (IE.var .i64 11489))), (BE.lit true), (BE.le (IE.lit 1) (IE.len (LE.rom 0))), (BE.le (IE.len (LE.rom 0)) (IE.lit 300)), (BE.le (IE.lit 0) (IE.var .i64 1003)), (BE.le (IE.var .i64 1003) (IE.len (LE.rom 0))), (BE.le (IE.lit 0) (IE.var .i64 11489)), (BE.le (IE.var .i64 11489) (IE.len (LE.rom 0))), (BE.le (IE.var .i64 11490) (IE.var .i64 11489)), (BE.le (IE.lit 0) (IE.var .i64 11490)), (BE.le (IE.var .i64 11490) (IE.len (LE.rom 0))), (BE.le (IE.var .i64 11490) (IE.var .i64 1003))] (Sx.Sub.mk [(.i64, (281490, (IE.lit 0))), (.i64, (1003, (IE.var .i64 1003))), (.i64, (281489, (IE.lit 0)))] [] [(1002, (LE.var 1002))] [] [] []))
def wlaw5_14 : VW := (VW.done [(BE.not (BE.eq (IE.add (IE.var .i64 11490) (IE.lit 1)) (IE.lit 1))), (BE.not (BE.le (IE.var .i64 1003) (IE.lit 1))), (BE.not (BE.le (IE.lit 1) (IE.var .i64 1))), (BE.le (IE.var .i64 1) (IE.add (IE.var .i64 11490) (IE.lit 1))), (BE.eq (IE.var .i64 11489) (IE.cel .i64 (LE.var 1002) (IE.var .i64 11490) 0)), (BE.not (BE.le (IE.var .i64 1003) (IE.var .i64 11490))), (BE.cel (LE.rom 0) (IE.var .i64 11489) 1), (BE.not (BE.le (IE.len (LE.rom 0)) (IE.var .i64 11489))), (BE.lit true), (BE.le (IE.lit 1) (IE.len (LE.rom 0))), (BE.le (IE.len (LE.rom 0)) (IE.lit 300)), (BE.le (IE.lit 0) (IE.var .i64 1003)), (BE.le (IE.var .i64 1003) (IE.len (LE.rom 0))), (BE.le (IE.lit 0) (IE.var .i64 11489)), (BE.le (IE.var .i64 11489) (IE.len (LE.rom 0))), (BE.le (IE.var .i64 11490) (IE.var .i64 11489)), (BE.le (IE.lit 0) (IE.var .i64 11490)), (BE.le (IE.var .i64 11490) (IE.len (LE.rom 0))), (BE.le (IE.var .i64 11490) (IE.var .i64 1003))] (some [(G.b (BE.lit true) (BE.lit false))]))
def wlaw5_15 : VW := (VW.cut 5 [(BE.not (BE.le (IE.var .i64 1) (IE.add (IE.var .i64 11490) (IE.lit 1)))), (BE.eq (IE.var .i64 11489) (IE.cel .i64 (LE.var 1002) (IE.var .i64 11490) 0)), (BE.not (BE.le (IE.var .i64 1003) (IE.var .i64 11490))), (BE.cel (LE.rom 0) (IE.var .i64 11489) 1), (BE.not (BE.le (IE.len (LE.rom 0)) (IE.var .i64 11489))), (BE.lit true), (BE.le (IE.lit 1) (IE.len (LE.rom 0))), (BE.le (IE.len (LE.rom 0)) (IE.lit 300)), (BE.le (IE.lit 0) (IE.var .i64 1003)), (BE.le (IE.var .i64 1003) (IE.len (LE.rom 0))), (BE.le (IE.lit 0) (IE.var .i64 11489)), (BE.le (IE.var .i64 11489) (IE.len (LE.rom 0))), (BE.le (IE.var .i64 11490) (IE.var .i64 11489)), (BE.le (IE.lit 0) (IE.var .i64 11490)), (BE.le (IE.var .i64 11490) (IE.len (LE.rom 0))), (BE.le (IE.var .i64 11490) (IE.var .i64 1003))] (Sx.Sub.mk [(.i64, (11490, (IE.add (IE.var .i64 11490) (IE.lit 1)))), (.i64, (1003, (IE.var .i64 1003))), (.i64, (11489, (IE.add (IE.var .i64 11489) (IE.lit 1))))] [] [(1002, (LE.var 1002))] [] [] []))
def wlaw5_16 : VW := (VW.done [(BE.not (BE.eq (IE.var .i64 11489) (IE.cel .i64 (LE.var 1002) (IE.var .i64 11490) 0))), (BE.not (BE.le (IE.var .i64 1003) (IE.var .i64 11490))), (BE.cel (LE.rom 0) (IE.var .i64 11489) 1), (BE.not (BE.le (IE.len (LE.rom 0)) (IE.var .i64 11489))), (BE.lit true), (BE.le (IE.lit 1) (IE.len (LE.rom 0))), (BE.le (IE.len (LE.rom 0)) (IE.lit 300)), (BE.le (IE.lit 0) (IE.var .i64 1003)), (BE.le (IE.var .i64 1003) (IE.len (LE.rom 0))), (BE.le (IE.lit 0) (IE.var .i64 11489)), (BE.le (IE.var .i64 11489) (IE.len (LE.rom 0))), (BE.le (IE.var .i64 11490) (IE.var .i64 11489)), (BE.le (IE.lit 0) (IE.var .i64 11490)), (BE.le (IE.var .i64 11490) (IE.len (LE.rom 0))), (BE.le (IE.var .i64 11490) (IE.var .i64 1003))] (some [(G.b (BE.lit true) (BE.lit false))]))
def wlaw5_17 : VW := (VW.cut 5 [(BE.not (BE.cel (LE.rom 0) (IE.var .i64 11489) 1)), (BE.not (BE.le (IE.len (LE.rom 0)) (IE.var .i64 11489))), (BE.lit true), (BE.le (IE.lit 1) (IE.len (LE.rom 0))), (BE.le (IE.len (LE.rom 0)) (IE.lit 300)), (BE.le (IE.lit 0) (IE.var .i64 1003)), (BE.le (IE.var .i64 1003) (IE.len (LE.rom 0))), (BE.le (IE.lit 0) (IE.var .i64 11489)), (BE.le (IE.var .i64 11489) (IE.len (LE.rom 0))), (BE.le (IE.var .i64 11490) (IE.var .i64 11489)), (BE.le (IE.lit 0) (IE.var .i64 11490)), (BE.le (IE.var .i64 11490) (IE.len (LE.rom 0))), (BE.le (IE.var .i64 11490) (IE.var .i64 1003))] (Sx.Sub.mk [(.i64, (11490, (IE.var .i64 11490))), (.i64, (1003, (IE.var .i64 1003))), (.i64, (11489, (IE.add (IE.var .i64 11489) (IE.lit 1))))] [] [(1002, (LE.var 1002))] [] [] []))
def vwlaw5 : List VW := [wlaw5_0, wlaw5_1, wlaw5_2, wlaw5_3, wlaw5_4, wlaw5_5, wlaw5_6, wlaw5_7, wlaw5_8, wlaw5_9, wlaw5_10, wlaw5_11, wlaw5_12, wlaw5_13, wlaw5_14, wlaw5_15, wlaw5_16, wlaw5_17]
def wlaw6_0 : VW := (VW.done [(BE.eq (IE.var .i64 281490) (IE.var .i64 1003)), (BE.le (IE.len (LE.rom 0)) (IE.var .i64 281489)), (BE.lit true), (BE.le (IE.len (LE.rom 0)) (IE.lit 300)), (BE.le (IE.lit 1) (IE.len (LE.rom 0))), (BE.le (IE.lit 0) (IE.var .i64 1003)), (BE.le (IE.var .i64 1003) (IE.len (LE.rom 0))), (BE.le (IE.lit 0) (IE.var .i64 281489)), (BE.le (IE.var .i64 281489) (IE.len (LE.rom 0))), (BE.le (IE.var .i64 281490) (IE.var .i64 281489)), (BE.le (IE.lit 0) (IE.var .i64 281490)), (BE.le (IE.var .i64 281490) (IE.len (LE.rom 0))), (BE.le (IE.var .i64 281490) (IE.var .i64 1003))] (some []))
def wlaw6_1 : VW := (VW.done [(BE.not (BE.eq (IE.var .i64 281490) (IE.var .i64 1003))), (BE.le (IE.len (LE.rom 0)) (IE.var .i64 281489)), (BE.lit true), (BE.le (IE.len (LE.rom 0)) (IE.lit 300)), (BE.le (IE.lit 1) (IE.len (LE.rom 0))), (BE.le (IE.lit 0) (IE.var .i64 1003)), (BE.le (IE.var .i64 1003) (IE.len (LE.rom 0))), (BE.le (IE.lit 0) (IE.var .i64 281489)), (BE.le (IE.var .i64 281489) (IE.len (LE.rom 0))), (BE.le (IE.var .i64 281490) (IE.var .i64 281489)), (BE.le (IE.lit 0) (IE.var .i64 281490)), (BE.le (IE.var .i64 281490) (IE.len (LE.rom 0))), (BE.le (IE.var .i64 281490) (IE.var .i64 1003))] (some [(G.b (BE.lit true) (BE.lit false))]))
def wlaw6_2 : VW := (VW.done [(BE.le (IE.var .i64 1003) (IE.var .i64 281490)), (BE.cel (LE.rom 0) (IE.var .i64 281489) 1), (BE.not (BE.le (IE.len (LE.rom 0)) (IE.var .i64 281489))), (BE.lit true), (BE.le (IE.len (LE.rom 0)) (IE.lit 300)), (BE.le (IE.lit 1) (IE.len (LE.rom 0))), (BE.le (IE.lit 0) (IE.var .i64 1003)), (BE.le (IE.var .i64 1003) (IE.len (LE.rom 0))), (BE.le (IE.lit 0) (IE.var .i64 281489)), (BE.le (IE.var .i64 281489) (IE.len (LE.rom 0))), (BE.le (IE.var .i64 281490) (IE.var .i64 281489)), (BE.le (IE.lit 0) (IE.var .i64 281490)), (BE.le (IE.var .i64 281490) (IE.len (LE.rom 0))), (BE.le (IE.var .i64 281490) (IE.var .i64 1003))] (some [(G.b (BE.lit true) (BE.lit false))]))
def wlaw6_3 : VW := (VW.cut 6 [(BE.eq (IE.var .i64 281489) (IE.cel .i64 (LE.var 1002) (IE.var .i64 281490) 0)), (BE.not (BE.le (IE.var .i64 1003) (IE.var .i64 281490))), (BE.cel (LE.rom 0) (IE.var .i64 281489) 1), (BE.not (BE.le (IE.len (LE.rom 0)) (IE.var .i64 281489))), (BE.lit true), (BE.le (IE.len (LE.rom 0)) (IE.lit 300)), (BE.le (IE.lit 1) (IE.len (LE.rom 0))), (BE.le (IE.lit 0) (IE.var .i64 1003)), (BE.le (IE.var .i64 1003) (IE.len (LE.rom 0))), (BE.le (IE.lit 0) (IE.var .i64 281489)), (BE.le (IE.var .i64 281489) (IE.len (LE.rom 0))), (BE.le (IE.var .i64 281490) (IE.var .i64 281489)), (BE.le (IE.lit 0) (IE.var .i64 281490)), (BE.le (IE.var .i64 281490) (IE.len (LE.rom 0))), (BE.le (IE.var .i64 281490) (IE.var .i64 1003))] (Sx.Sub.mk [(.i64, (281490, (IE.add (IE.var .i64 281490) (IE.lit 1)))), (.i64, (1003, (IE.var .i64 1003))), (.i64, (281489, (IE.add (IE.var .i64 281489) (IE.lit 1))))] [] [(1002, (LE.var 1002))] [] [] []))
def wlaw6_4 : VW := (VW.done [(BE.not (BE.eq (IE.var .i64 281489) (IE.cel .i64 (LE.var 1002) (IE.var .i64 281490) 0))), (BE.not (BE.le (IE.var .i64 1003) (IE.var .i64 281490))), (BE.cel (LE.rom 0) (IE.var .i64 281489) 1), (BE.not (BE.le (IE.len (LE.rom 0)) (IE.var .i64 281489))), (BE.lit true), (BE.le (IE.len (LE.rom 0)) (IE.lit 300)), (BE.le (IE.lit 1) (IE.len (LE.rom 0))), (BE.le (IE.lit 0) (IE.var .i64 1003)), (BE.le (IE.var .i64 1003) (IE.len (LE.rom 0))), (BE.le (IE.lit 0) (IE.var .i64 281489)), (BE.le (IE.var .i64 281489) (IE.len (LE.rom 0))), (BE.le (IE.var .i64 281490) (IE.var .i64 281489)), (BE.le (IE.lit 0) (IE.var .i64 281490)), (BE.le (IE.var .i64 281490) (IE.len (LE.rom 0))), (BE.le (IE.var .i64 281490) (IE.var .i64 1003))] (some [(G.b (BE.lit true) (BE.lit false))]))
def wlaw6_5 : VW := (VW.cut 6 [(BE.not (BE.cel (LE.rom 0) (IE.var .i64 281489) 1)), (BE.not (BE.le (IE.len (LE.rom 0)) (IE.var .i64 281489))), (BE.lit true), (BE.le (IE.len (LE.rom 0)) (IE.lit 300)), (BE.le (IE.lit 1) (IE.len (LE.rom 0))), (BE.le (IE.lit 0) (IE.var .i64 1003)), (BE.le (IE.var .i64 1003) (IE.len (LE.rom 0))), (BE.le (IE.lit 0) (IE.var .i64 281489)), (BE.le (IE.var .i64 281489) (IE.len (LE.rom 0))), (BE.le (IE.var .i64 281490) (IE.var .i64 281489)), (BE.le (IE.lit 0) (IE.var .i64 281490)), (BE.le (IE.var .i64 281490) (IE.len (LE.rom 0))), (BE.le (IE.var .i64 281490) (IE.var .i64 1003))] (Sx.Sub.mk [(.i64, (281490, (IE.var .i64 281490))), (.i64, (1003, (IE.var .i64 1003))), (.i64, (281489, (IE.add (IE.var .i64 281489) (IE.lit 1))))] [] [(1002, (LE.var 1002))] [] [] []))
def vwlaw6 : List VW := [wlaw6_0, wlaw6_1, wlaw6_2, wlaw6_3, wlaw6_4, wlaw6_5]
def vwlaw : Nat → List VW
  | 0 => vwlaw0
  | 1 => vwlaw1
  | 2 => vwlaw2
  | 3 => vwlaw3
  | 4 => vwlaw4
  | 5 => vwlaw5
  | 6 => vwlaw6
  | _ => []
end
def invlaw : Nat → Lt → Prop
  | 1, l => pendL (l.z.rl 0) (l.i .i64 1000).toNat = []
  | 2, l => (l.l 1002) = pendL (l.z.rl 0) (l.i .i64 1001).toNat
  | 3, l => pendL (l.z.rl 0) (l.z.rl 0).length = []
  | 4, l => pendL (l.z.rl 0) (l.z.rl 0).length = []
  | 5, l => (l.l 1002) = pendL (l.z.rl 0) (l.z.rl 0).length ∧ (l.i .i64 11490) = ((pendL (l.z.rl 0) (l.i .i64 11489).toNat).length : Int) ∧ ((l.i .i64 11490) = 0 ∨ (l.i .i64 11490) < (l.i .i64 1))
  | 6, l => (l.l 1002) = pendL (l.z.rl 0) (l.z.rl 0).length ∧ (l.i .i64 281490) = ((pendL (l.z.rl 0) (l.i .i64 281489).toNat).length : Int)
  | _, _ => True
def mslaw : Nat → Lt → Nat
  | 0, l => 6 * ((l.z.rl 0).length + 1)
  | 1, l => 4 * ((l.z.rl 0).length + 1) + ((l.z.rl 0).length - (l.i .i64 1000).toNat)
  | 2, l => 3 * ((l.z.rl 0).length + 1) + ((l.z.rl 0).length - (l.i .i64 1001).toNat)
  | 3, l => 2 * ((l.z.rl 0).length + 1) + ((l.z.rl 0).length - (l.i .i64 11489).toNat)
  | 4, l => (l.z.rl 0).length + 1 + ((l.z.rl 0).length - (l.i .i64 281489).toNat)
  | 5, l => 2 * ((l.z.rl 0).length + 1) + ((l.z.rl 0).length - (l.i .i64 11489).toNat)
  | 6, l => (l.z.rl 0).length + 1 + ((l.z.rl 0).length - (l.i .i64 281489).toNat)
  | _, _ => 0
theorem vclaw0_0 : VC (T pend.Φ cLaw.roms [cWorks]) invlaw mslaw 0 (startF 6 cLaw.pat (.lit true :: cLaw.pre)) wlaw0_0 := by
  intro ρ kn hi hp
  have hF : ρ.z.F = pend.Φ := kn.F
  simp only [h_nil, h_cons, d_le, d_eq, d_not, d_var, d_lit, d_cel, d_leq, d_fn, d_and, IE.den, LE.den, AL.den, lenV, true_and, and_true] at hp
  obtain ⟨q2, q1⟩ := hp
  refine (show (pendL (ρ.z.rl 0) (0 : Int).toNat = []) ∧ ((4 * ((ρ.z.rl 0).length + 1) + ((ρ.z.rl 0).length - (0 : Int).toNat) : Nat) < 6 * ((ρ.z.rl 0).length + 1)) from ?_)
  refine ⟨by simp [pendL], by omega⟩
theorem vclaw0_1 : VC (T pend.Φ cLaw.roms [cWorks]) invlaw mslaw 0 (startF 6 cLaw.pat (.lit true :: cLaw.pre)) wlaw0_1 := by
  intro ρ kn hi hp
  exact all_nil
theorem vclaw1_0 : VC (T pend.Φ cLaw.roms [cWorks]) invlaw mslaw 1 tlaw1 wlaw1_0 := by
  intro ρ kn hi hp
  have hi : pendL (ρ.z.rl 0) (ρ.i .i64 1000).toNat = [] := hi
  have hF : ρ.z.F = pend.Φ := kn.F
  simp only [h_nil, h_cons, d_le, d_eq, d_not, d_var, d_lit, d_cel, d_leq, d_fn, d_and, IE.den, LE.den, AL.den, lenV, true_and, and_true] at hp
  obtain ⟨q5, q4, q3, q2, q1⟩ := hp
  refine (show (pendL (ρ.z.rl 0) (ρ.z.rl 0).length = []) ∧ ((2 * ((ρ.z.rl 0).length + 1) + ((ρ.z.rl 0).length - (0 : Int).toNat) : Nat) < 4 * ((ρ.z.rl 0).length + 1) + ((ρ.z.rl 0).length - (ρ.i .i64 1000).toNat)) from ?_)
  exact ⟨by rw [pend_end (by assumption) (by assumption)]; exact hi, by omega⟩
theorem vclaw1_1 : VC (T pend.Φ cLaw.roms [cWorks]) invlaw mslaw 1 tlaw1 wlaw1_1 := by
  intro ρ kn hi hp
  have hi : pendL (ρ.z.rl 0) (ρ.i .i64 1000).toNat = [] := hi
  have hF : ρ.z.F = pend.Φ := kn.F
  simp only [h_nil, h_cons, d_le, d_eq, d_not, d_var, d_lit, d_cel, d_leq, d_fn, d_and, IE.den, LE.den, AL.den, lenV, true_and, and_true] at hp
  obtain ⟨q6, q5, q4, q3, q2, q1⟩ := hp
  refine (show (([[Go.Value.int .i64 (ρ.i .i64 1000)]] : LV) = pendL (ρ.z.rl 0) ((ρ.i .i64 1000) + (1 : Int)).toNat) ∧ ((3 * ((ρ.z.rl 0).length + 1) + ((ρ.z.rl 0).length - ((ρ.i .i64 1000) + (1 : Int)).toNat) : Nat) < 4 * ((ρ.z.rl 0).length + 1) + ((ρ.z.rl 0).length - (ρ.i .i64 1000).toNat)) from ?_)
  exact ⟨by rw [pend_more (by assumption) (by assumption), hi]; rfl, by omega⟩
theorem vclaw1_2 : VC (T pend.Φ cLaw.roms [cWorks]) invlaw mslaw 1 tlaw1 wlaw1_2 := by
  intro ρ kn hi hp
  have hi : pendL (ρ.z.rl 0) (ρ.i .i64 1000).toNat = [] := hi
  have hF : ρ.z.F = pend.Φ := kn.F
  simp only [h_nil, h_cons, d_le, d_eq, d_not, d_var, d_lit, d_cel, d_leq, d_fn, d_and, IE.den, LE.den, AL.den, lenV, true_and, and_true] at hp
  obtain ⟨q6, q5, q4, q3, q2, q1⟩ := hp
  refine (show (pendL (ρ.z.rl 0) ((ρ.i .i64 1000) + (1 : Int)).toNat = []) ∧ ((4 * ((ρ.z.rl 0).length + 1) + ((ρ.z.rl 0).length - ((ρ.i .i64 1000) + (1 : Int)).toNat) : Nat) < 4 * ((ρ.z.rl 0).length + 1) + ((ρ.z.rl 0).length - (ρ.i .i64 1000).toNat)) from ?_)
  exact ⟨by rw [pend_skip (by assumption) (by assumption)]; exact hi, by omega⟩
theorem vclaw2_0 : VC (T pend.Φ cLaw.roms [cWorks]) invlaw mslaw 2 tlaw2 wlaw2_0 := by
  intro ρ kn hi hp
  have hi : (ρ.l 1002) = pendL (ρ.z.rl 0) (ρ.i .i64 1001).toNat := hi
  have hF : ρ.z.F = pend.Φ := kn.F
  have hr5 : Typed [(CK.int .i64)] (ρ.l 1002) ∧ (ρ.i .i64 1003) = (((ρ.l 1002)).length : Int) := kn.rows 5 _ _ _ _ _ _ rfl
  simp only [h_nil, h_cons, d_le, d_eq, d_not, d_var, d_lit, d_cel, d_leq, d_fn, d_and, IE.den, LE.den, AL.den, lenV, true_and, and_true] at hp
  obtain ⟨q8, q7, q6, q5, q4, q3, q2, q1⟩ := hp
  refine (show ((ρ.l 1002) = pendL (ρ.z.rl 0) (ρ.z.rl 0).length ∧ (0 : Int) = ((pendL (ρ.z.rl 0) (0 : Int).toNat).length : Int) ∧ ((0 : Int) = 0 ∨ (0 : Int) < (ρ.i .i64 1))) ∧ ((2 * ((ρ.z.rl 0).length + 1) + ((ρ.z.rl 0).length - (0 : Int).toNat) : Nat) < 3 * ((ρ.z.rl 0).length + 1) + ((ρ.z.rl 0).length - (ρ.i .i64 1001).toNat)) from ?_)
  exact ⟨⟨by rw [pend_end (J := ρ.i .i64 1001) (by assumption) (by assumption)]; exact hi, by simp [pendL], .inl rfl⟩, by omega⟩
theorem vclaw2_1 : VC (T pend.Φ cLaw.roms [cWorks]) invlaw mslaw 2 tlaw2 wlaw2_1 := by
  intro ρ kn hi hp
  have hi : (ρ.l 1002) = pendL (ρ.z.rl 0) (ρ.i .i64 1001).toNat := hi
  have hF : ρ.z.F = pend.Φ := kn.F
  have hr5 : Typed [(CK.int .i64)] (ρ.l 1002) ∧ (ρ.i .i64 1003) = (((ρ.l 1002)).length : Int) := kn.rows 5 _ _ _ _ _ _ rfl
  simp only [h_nil, h_cons, d_le, d_eq, d_not, d_var, d_lit, d_cel, d_leq, d_fn, d_and, IE.den, LE.den, AL.den, lenV, true_and, and_true] at hp
  obtain ⟨q9, q8, q7, q6, q5, q4, q3, q2, q1⟩ := hp
  refine (show (((ρ.l 1002) ++ ([[Go.Value.int .i64 (ρ.i .i64 1001)]] : LV)) = pendL (ρ.z.rl 0) ((ρ.i .i64 1001) + (1 : Int)).toNat) ∧ ((3 * ((ρ.z.rl 0).length + 1) + ((ρ.z.rl 0).length - ((ρ.i .i64 1001) + (1 : Int)).toNat) : Nat) < 3 * ((ρ.z.rl 0).length + 1) + ((ρ.z.rl 0).length - (ρ.i .i64 1001).toNat)) from ?_)
  exact ⟨by rw [pend_more (by assumption) (by assumption), hi], by omega⟩
theorem vclaw2_2 : VC (T pend.Φ cLaw.roms [cWorks]) invlaw mslaw 2 tlaw2 wlaw2_2 := by
  intro ρ kn hi hp
  have hi : (ρ.l 1002) = pendL (ρ.z.rl 0) (ρ.i .i64 1001).toNat := hi
  have hF : ρ.z.F = pend.Φ := kn.F
  have hr5 : Typed [(CK.int .i64)] (ρ.l 1002) ∧ (ρ.i .i64 1003) = (((ρ.l 1002)).length : Int) := kn.rows 5 _ _ _ _ _ _ rfl
  simp only [h_nil, h_cons, d_le, d_eq, d_not, d_var, d_lit, d_cel, d_leq, d_fn, d_and, IE.den, LE.den, AL.den, lenV, true_and, and_true] at hp
  obtain ⟨q9, q8, q7, q6, q5, q4, q3, q2, q1⟩ := hp
  refine (show ((ρ.l 1002) = pendL (ρ.z.rl 0) ((ρ.i .i64 1001) + (1 : Int)).toNat) ∧ ((3 * ((ρ.z.rl 0).length + 1) + ((ρ.z.rl 0).length - ((ρ.i .i64 1001) + (1 : Int)).toNat) : Nat) < 3 * ((ρ.z.rl 0).length + 1) + ((ρ.z.rl 0).length - (ρ.i .i64 1001).toNat)) from ?_)
  exact ⟨by rw [pend_skip (by assumption) (by assumption)]; exact hi, by omega⟩
theorem vclaw3_0 : VC (T pend.Φ cLaw.roms [cWorks]) invlaw mslaw 3 tlaw3 wlaw3_0 := by
  intro ρ kn hi hp
  have hi : pendL (ρ.z.rl 0) (ρ.z.rl 0).length = [] := hi
  have hF : ρ.z.F = pend.Φ := kn.F
  have hr5 : Typed [(CK.int .i64), CK.bool, (CK.int .i64), (CK.int .i64)] (ρ.z.rl 0) ∧ (((ρ.z.rl 0).length : Nat) : Int) = (((ρ.z.rl 0)).length : Int) := kn.rows 5 _ _ _ _ _ _ rfl
  simp only [h_nil, h_cons, d_le, d_eq, d_not, d_var, d_lit, d_cel, d_leq, d_fn, d_and, IE.den, LE.den, AL.den, lenV, true_and, and_true] at hp
  obtain ⟨q6, q5, q4, q3, q2, q1⟩ := hp
  refine (show (pendL (ρ.z.rl 0) (ρ.z.rl 0).length = []) ∧ (((ρ.z.rl 0).length + 1 + ((ρ.z.rl 0).length - (0 : Int).toNat) : Nat) < 2 * ((ρ.z.rl 0).length + 1) + ((ρ.z.rl 0).length - (ρ.i .i64 11489).toNat)) from ?_)
  exact ⟨hi, by omega⟩
theorem vclaw3_1 : VC (T pend.Φ cLaw.roms [cWorks]) invlaw mslaw 3 tlaw3 wlaw3_1 := by
  intro ρ kn hi hp
  have hi : pendL (ρ.z.rl 0) (ρ.z.rl 0).length = [] := hi
  have hF : ρ.z.F = pend.Φ := kn.F
  have hr5 : Typed [(CK.int .i64), CK.bool, (CK.int .i64), (CK.int .i64)] (ρ.z.rl 0) ∧ (((ρ.z.rl 0).length : Nat) : Int) = (((ρ.z.rl 0)).length : Int) := kn.rows 5 _ _ _ _ _ _ rfl
  simp only [h_nil, h_cons, d_le, d_eq, d_not, d_var, d_lit, d_cel, d_leq, d_fn, d_and, IE.den, LE.den, AL.den, lenV, true_and, and_true] at hp
  obtain ⟨q6, q5, q4, q3, q2, q1⟩ := hp
  refine (show (pendL (ρ.z.rl 0) (ρ.z.rl 0).length = []) ∧ (((ρ.z.rl 0).length + 1 + ((ρ.z.rl 0).length - (0 : Int).toNat) : Nat) < 2 * ((ρ.z.rl 0).length + 1) + ((ρ.z.rl 0).length - (ρ.i .i64 11489).toNat)) from ?_)
  exact ⟨hi, by omega⟩
theorem vclaw3_2 : VC (T pend.Φ cLaw.roms [cWorks]) invlaw mslaw 3 tlaw3 wlaw3_2 := by
  intro ρ kn hi hp
  have hi : pendL (ρ.z.rl 0) (ρ.z.rl 0).length = [] := hi
  have hF : ρ.z.F = pend.Φ := kn.F
  have hr5 : Typed [(CK.int .i64), CK.bool, (CK.int .i64), (CK.int .i64)] (ρ.z.rl 0) ∧ (((ρ.z.rl 0).length : Nat) : Int) = (((ρ.z.rl 0)).length : Int) := kn.rows 5 _ _ _ _ _ _ rfl
  simp only [h_nil, h_cons, d_le, d_eq, d_not, d_var, d_lit, d_cel, d_leq, d_fn, d_and, IE.den, LE.den, AL.den, lenV, true_and, and_true] at hp
  obtain ⟨q6, q5, q4, q3, q2, q1⟩ := hp
  exfalso
  exact pend_any (by assumption) (by omega) (by assumption) hi
theorem vclaw3_3 : VC (T pend.Φ cLaw.roms [cWorks]) invlaw mslaw 3 tlaw3 wlaw3_3 := by
  intro ρ kn hi hp
  have hi : pendL (ρ.z.rl 0) (ρ.z.rl 0).length = [] := hi
  have hF : ρ.z.F = pend.Φ := kn.F
  have hr5 : Typed [(CK.int .i64), CK.bool, (CK.int .i64), (CK.int .i64)] (ρ.z.rl 0) ∧ (((ρ.z.rl 0).length : Nat) : Int) = (((ρ.z.rl 0)).length : Int) := kn.rows 5 _ _ _ _ _ _ rfl
  simp only [h_nil, h_cons, d_le, d_eq, d_not, d_var, d_lit, d_cel, d_leq, d_fn, d_and, IE.den, LE.den, AL.den, lenV, true_and, and_true] at hp
  obtain ⟨q6, q5, q4, q3, q2, q1⟩ := hp
  refine (show (pendL (ρ.z.rl 0) (ρ.z.rl 0).length = []) ∧ ((2 * ((ρ.z.rl 0).length + 1) + ((ρ.z.rl 0).length - ((ρ.i .i64 11489) + (1 : Int)).toNat) : Nat) < 2 * ((ρ.z.rl 0).length + 1) + ((ρ.z.rl 0).length - (ρ.i .i64 11489).toNat)) from ?_)
  exact ⟨hi, by omega⟩
theorem vclaw4_0 : VC (T pend.Φ cLaw.roms [cWorks]) invlaw mslaw 4 tlaw4 wlaw4_0 := by
  intro ρ kn hi hp
  exact all_nil
theorem vclaw4_1 : VC (T pend.Φ cLaw.roms [cWorks]) invlaw mslaw 4 tlaw4 wlaw4_1 := by
  intro ρ kn hi hp
  have hi : pendL (ρ.z.rl 0) (ρ.z.rl 0).length = [] := hi
  have hF : ρ.z.F = pend.Φ := kn.F
  have hr5 : Typed [(CK.int .i64), CK.bool, (CK.int .i64), (CK.int .i64)] (ρ.z.rl 0) ∧ (((ρ.z.rl 0).length : Nat) : Int) = (((ρ.z.rl 0)).length : Int) := kn.rows 5 _ _ _ _ _ _ rfl
  simp only [h_nil, h_cons, d_le, d_eq, d_not, d_var, d_lit, d_cel, d_leq, d_fn, d_and, IE.den, LE.den, AL.den, lenV, true_and, and_true] at hp
  obtain ⟨q6, q5, q4, q3, q2, q1⟩ := hp
  exfalso
  exact pend_any (by assumption) (by omega) (by assumption) hi
theorem vclaw4_2 : VC (T pend.Φ cLaw.roms [cWorks]) invlaw mslaw 4 tlaw4 wlaw4_2 := by
  intro ρ kn hi hp
  have hi : pendL (ρ.z.rl 0) (ρ.z.rl 0).length = [] := hi
  have hF : ρ.z.F = pend.Φ := kn.F
  have hr5 : Typed [(CK.int .i64), CK.bool, (CK.int .i64), (CK.int .i64)] (ρ.z.rl 0) ∧ (((ρ.z.rl 0).length : Nat) : Int) = (((ρ.z.rl 0)).length : Int) := kn.rows 5 _ _ _ _ _ _ rfl
  simp only [h_nil, h_cons, d_le, d_eq, d_not, d_var, d_lit, d_cel, d_leq, d_fn, d_and, IE.den, LE.den, AL.den, lenV, true_and, and_true] at hp
  obtain ⟨q6, q5, q4, q3, q2, q1⟩ := hp
  refine (show (pendL (ρ.z.rl 0) (ρ.z.rl 0).length = []) ∧ (((ρ.z.rl 0).length + 1 + ((ρ.z.rl 0).length - ((ρ.i .i64 281489) + (1 : Int)).toNat) : Nat) < (ρ.z.rl 0).length + 1 + ((ρ.z.rl 0).length - (ρ.i .i64 281489).toNat)) from ?_)
  exact ⟨hi, by omega⟩
theorem vclaw5_0 : VC (T pend.Φ cLaw.roms [cWorks]) invlaw mslaw 5 tlaw5 wlaw5_0 := by
  intro ρ kn hi hp
  have hi : (ρ.l 1002) = pendL (ρ.z.rl 0) (ρ.z.rl 0).length ∧ (ρ.i .i64 11490) = ((pendL (ρ.z.rl 0) (ρ.i .i64 11489).toNat).length : Int) ∧ ((ρ.i .i64 11490) = 0 ∨ (ρ.i .i64 11490) < (ρ.i .i64 1)) := hi
  have hF : ρ.z.F = pend.Φ := kn.F
  have hr8 : Typed [(CK.int .i64), CK.bool, (CK.int .i64), (CK.int .i64)] (ρ.z.rl 0) ∧ (((ρ.z.rl 0).length : Nat) : Int) = (((ρ.z.rl 0)).length : Int) := kn.rows 8 _ _ _ _ _ _ rfl
  have hr5 : Typed [(CK.int .i64)] (ρ.l 1002) ∧ (ρ.i .i64 1003) = (((ρ.l 1002)).length : Int) := kn.rows 5 _ _ _ _ _ _ rfl
  simp only [h_nil, h_cons, d_le, d_eq, d_not, d_var, d_lit, d_cel, d_leq, d_fn, d_and, IE.den, LE.den, AL.den, lenV, true_and, and_true] at hp
  obtain ⟨q14, q13, q12, q11, q10, q9, q8, q7, q6, q5, q4, q3, q2, q1⟩ := hp
  refine (show ((ρ.l 1002) = pendL (ρ.z.rl 0) (ρ.z.rl 0).length ∧ (0 : Int) = ((pendL (ρ.z.rl 0) (0 : Int).toNat).length : Int)) ∧ (((ρ.z.rl 0).length + 1 + ((ρ.z.rl 0).length - (0 : Int).toNat) : Nat) < 2 * ((ρ.z.rl 0).length + 1) + ((ρ.z.rl 0).length - (ρ.i .i64 11489).toNat)) from ?_)
  obtain ⟨h1, h2, h3⟩ := hi
  have hx := hr5.2
  first
    | (have e := pend_end (R := ρ.z.rl 0) (J := ρ.i .i64 11489) (by assumption) (by assumption)
       rw [← e, ← h1] at h2
       first
         | omega
         | exact ⟨⟨h1, by simp [pendL]⟩, by omega⟩)
    | (obtain ⟨a, b, c⟩ := pend_step h1 h2 hx (by assumption) (by omega) (by omega) (by assumption)
       first
         | omega
         | exact ⟨⟨h1, c.symm⟩, by omega⟩
         | exact ⟨⟨h1, c.symm, by omega⟩, by omega⟩
         | exact ⟨⟨h1, by simp [pendL]⟩, by omega⟩)
    | (have c := pend_skip (R := ρ.z.rl 0) (J := ρ.i .i64 11489) (by assumption) (by assumption)
       rw [← c] at h2
       first
         | exact ⟨⟨h1, h2⟩, by omega⟩
         | exact ⟨⟨h1, h2, by omega⟩, by omega⟩)
theorem vclaw5_1 : VC (T pend.Φ cLaw.roms [cWorks]) invlaw mslaw 5 tlaw5 wlaw5_1 := by
  intro ρ kn hi hp
  have hi : (ρ.l 1002) = pendL (ρ.z.rl 0) (ρ.z.rl 0).length ∧ (ρ.i .i64 11490) = ((pendL (ρ.z.rl 0) (ρ.i .i64 11489).toNat).length : Int) ∧ ((ρ.i .i64 11490) = 0 ∨ (ρ.i .i64 11490) < (ρ.i .i64 1)) := hi
  have hF : ρ.z.F = pend.Φ := kn.F
  have hr8 : Typed [(CK.int .i64), CK.bool, (CK.int .i64), (CK.int .i64)] (ρ.z.rl 0) ∧ (((ρ.z.rl 0).length : Nat) : Int) = (((ρ.z.rl 0)).length : Int) := kn.rows 8 _ _ _ _ _ _ rfl
  have hr5 : Typed [(CK.int .i64)] (ρ.l 1002) ∧ (ρ.i .i64 1003) = (((ρ.l 1002)).length : Int) := kn.rows 5 _ _ _ _ _ _ rfl
  simp only [h_nil, h_cons, d_le, d_eq, d_not, d_var, d_lit, d_cel, d_leq, d_fn, d_and, IE.den, LE.den, AL.den, lenV, true_and, and_true] at hp
  obtain ⟨q14, q13, q12, q11, q10, q9, q8, q7, q6, q5, q4, q3, q2, q1⟩ := hp
  exfalso
  obtain ⟨h1, h2, h3⟩ := hi
  have hx := hr5.2
  first
    | (have e := pend_end (R := ρ.z.rl 0) (J := ρ.i .i64 11489) (by assumption) (by assumption)
       rw [← e, ← h1] at h2
       first
         | omega
         | exact ⟨⟨h1, by simp [pendL]⟩, by omega⟩)
    | (obtain ⟨a, b, c⟩ := pend_step h1 h2 hx (by assumption) (by omega) (by omega) (by assumption)
       first
         | omega
         | exact ⟨⟨h1, c.symm⟩, by omega⟩
         | exact ⟨⟨h1, c.symm, by omega⟩, by omega⟩
         | exact ⟨⟨h1, by simp [pendL]⟩, by omega⟩)
    | (have c := pend_skip (R := ρ.z.rl 0) (J := ρ.i .i64 11489) (by assumption) (by assumption)
       rw [← c] at h2
       first
         | exact ⟨⟨h1, h2⟩, by omega⟩
         | exact ⟨⟨h1, h2, by omega⟩, by omega⟩)
theorem vclaw5_2 : VC (T pend.Φ cLaw.roms [cWorks]) invlaw mslaw 5 tlaw5 wlaw5_2 := by
  intro ρ kn hi hp
  have hi : (ρ.l 1002) = pendL (ρ.z.rl 0) (ρ.z.rl 0).length ∧ (ρ.i .i64 11490) = ((pendL (ρ.z.rl 0) (ρ.i .i64 11489).toNat).length : Int) ∧ ((ρ.i .i64 11490) = 0 ∨ (ρ.i .i64 11490) < (ρ.i .i64 1)) := hi
  have hF : ρ.z.F = pend.Φ := kn.F
  have hr8 : Typed [(CK.int .i64), CK.bool, (CK.int .i64), (CK.int .i64)] (ρ.z.rl 0) ∧ (((ρ.z.rl 0).length : Nat) : Int) = (((ρ.z.rl 0)).length : Int) := kn.rows 8 _ _ _ _ _ _ rfl
  have hr5 : Typed [(CK.int .i64)] (ρ.l 1002) ∧ (ρ.i .i64 1003) = (((ρ.l 1002)).length : Int) := kn.rows 5 _ _ _ _ _ _ rfl
  simp only [h_nil, h_cons, d_le, d_eq, d_not, d_var, d_lit, d_cel, d_leq, d_fn, d_and, IE.den, LE.den, AL.den, lenV, true_and, and_true] at hp
  obtain ⟨q14, q13, q12, q11, q10, q9, q8, q7, q6, q5, q4, q3, q2, q1⟩ := hp
  refine (show ((ρ.l 1002) = pendL (ρ.z.rl 0) (ρ.z.rl 0).length ∧ (0 : Int) = ((pendL (ρ.z.rl 0) (0 : Int).toNat).length : Int)) ∧ (((ρ.z.rl 0).length + 1 + ((ρ.z.rl 0).length - (0 : Int).toNat) : Nat) < 2 * ((ρ.z.rl 0).length + 1) + ((ρ.z.rl 0).length - (ρ.i .i64 11489).toNat)) from ?_)
  obtain ⟨h1, h2, h3⟩ := hi
  have hx := hr5.2
  first
    | (have e := pend_end (R := ρ.z.rl 0) (J := ρ.i .i64 11489) (by assumption) (by assumption)
       rw [← e, ← h1] at h2
       first
         | omega
         | exact ⟨⟨h1, by simp [pendL]⟩, by omega⟩)
    | (obtain ⟨a, b, c⟩ := pend_step h1 h2 hx (by assumption) (by omega) (by omega) (by assumption)
       first
         | omega
         | exact ⟨⟨h1, c.symm⟩, by omega⟩
         | exact ⟨⟨h1, c.symm, by omega⟩, by omega⟩
         | exact ⟨⟨h1, by simp [pendL]⟩, by omega⟩)
    | (have c := pend_skip (R := ρ.z.rl 0) (J := ρ.i .i64 11489) (by assumption) (by assumption)
       rw [← c] at h2
       first
         | exact ⟨⟨h1, h2⟩, by omega⟩
         | exact ⟨⟨h1, h2, by omega⟩, by omega⟩)
theorem vclaw5_3 : VC (T pend.Φ cLaw.roms [cWorks]) invlaw mslaw 5 tlaw5 wlaw5_3 := by
  intro ρ kn hi hp
  have hi : (ρ.l 1002) = pendL (ρ.z.rl 0) (ρ.z.rl 0).length ∧ (ρ.i .i64 11490) = ((pendL (ρ.z.rl 0) (ρ.i .i64 11489).toNat).length : Int) ∧ ((ρ.i .i64 11490) = 0 ∨ (ρ.i .i64 11490) < (ρ.i .i64 1)) := hi
  have hF : ρ.z.F = pend.Φ := kn.F
  have hr8 : Typed [(CK.int .i64), CK.bool, (CK.int .i64), (CK.int .i64)] (ρ.z.rl 0) ∧ (((ρ.z.rl 0).length : Nat) : Int) = (((ρ.z.rl 0)).length : Int) := kn.rows 8 _ _ _ _ _ _ rfl
  have hr5 : Typed [(CK.int .i64)] (ρ.l 1002) ∧ (ρ.i .i64 1003) = (((ρ.l 1002)).length : Int) := kn.rows 5 _ _ _ _ _ _ rfl
  simp only [h_nil, h_cons, d_le, d_eq, d_not, d_var, d_lit, d_cel, d_leq, d_fn, d_and, IE.den, LE.den, AL.den, lenV, true_and, and_true] at hp
  obtain ⟨q14, q13, q12, q11, q10, q9, q8, q7, q6, q5, q4, q3, q2, q1⟩ := hp
  exfalso
  obtain ⟨h1, h2, h3⟩ := hi
  have hx := hr5.2
  first
    | (have e := pend_end (R := ρ.z.rl 0) (J := ρ.i .i64 11489) (by assumption) (by assumption)
       rw [← e, ← h1] at h2
       first
         | omega
         | exact ⟨⟨h1, by simp [pendL]⟩, by omega⟩)
    | (obtain ⟨a, b, c⟩ := pend_step h1 h2 hx (by assumption) (by omega) (by omega) (by assumption)
       first
         | omega
         | exact ⟨⟨h1, c.symm⟩, by omega⟩
         | exact ⟨⟨h1, c.symm, by omega⟩, by omega⟩
         | exact ⟨⟨h1, by simp [pendL]⟩, by omega⟩)
    | (have c := pend_skip (R := ρ.z.rl 0) (J := ρ.i .i64 11489) (by assumption) (by assumption)
       rw [← c] at h2
       first
         | exact ⟨⟨h1, h2⟩, by omega⟩
         | exact ⟨⟨h1, h2, by omega⟩, by omega⟩)
theorem vclaw5_4 : VC (T pend.Φ cLaw.roms [cWorks]) invlaw mslaw 5 tlaw5 wlaw5_4 := by
  intro ρ kn hi hp
  have hi : (ρ.l 1002) = pendL (ρ.z.rl 0) (ρ.z.rl 0).length ∧ (ρ.i .i64 11490) = ((pendL (ρ.z.rl 0) (ρ.i .i64 11489).toNat).length : Int) ∧ ((ρ.i .i64 11490) = 0 ∨ (ρ.i .i64 11490) < (ρ.i .i64 1)) := hi
  have hF : ρ.z.F = pend.Φ := kn.F
  have hr8 : Typed [(CK.int .i64), CK.bool, (CK.int .i64), (CK.int .i64)] (ρ.z.rl 0) ∧ (((ρ.z.rl 0).length : Nat) : Int) = (((ρ.z.rl 0)).length : Int) := kn.rows 8 _ _ _ _ _ _ rfl
  have hr5 : Typed [(CK.int .i64)] (ρ.l 1002) ∧ (ρ.i .i64 1003) = (((ρ.l 1002)).length : Int) := kn.rows 5 _ _ _ _ _ _ rfl
  simp only [h_nil, h_cons, d_le, d_eq, d_not, d_var, d_lit, d_cel, d_leq, d_fn, d_and, IE.den, LE.den, AL.den, lenV, true_and, and_true] at hp
  obtain ⟨q14, q13, q12, q11, q10, q9, q8, q7, q6, q5, q4, q3, q2, q1⟩ := hp
  refine (show ((ρ.l 1002) = pendL (ρ.z.rl 0) (ρ.z.rl 0).length ∧ (0 : Int) = ((pendL (ρ.z.rl 0) (0 : Int).toNat).length : Int)) ∧ (((ρ.z.rl 0).length + 1 + ((ρ.z.rl 0).length - (0 : Int).toNat) : Nat) < 2 * ((ρ.z.rl 0).length + 1) + ((ρ.z.rl 0).length - (ρ.i .i64 11489).toNat)) from ?_)
  obtain ⟨h1, h2, h3⟩ := hi
  have hx := hr5.2
  first
    | (have e := pend_end (R := ρ.z.rl 0) (J := ρ.i .i64 11489) (by assumption) (by assumption)
       rw [← e, ← h1] at h2
       first
         | omega
         | exact ⟨⟨h1, by simp [pendL]⟩, by omega⟩)
    | (obtain ⟨a, b, c⟩ := pend_step h1 h2 hx (by assumption) (by omega) (by omega) (by assumption)
       first
         | omega
         | exact ⟨⟨h1, c.symm⟩, by omega⟩
         | exact ⟨⟨h1, c.symm, by omega⟩, by omega⟩
         | exact ⟨⟨h1, by simp [pendL]⟩, by omega⟩)
    | (have c := pend_skip (R := ρ.z.rl 0) (J := ρ.i .i64 11489) (by assumption) (by assumption)
       rw [← c] at h2
       first
         | exact ⟨⟨h1, h2⟩, by omega⟩
         | exact ⟨⟨h1, h2, by omega⟩, by omega⟩)
theorem vclaw5_5 : VC (T pend.Φ cLaw.roms [cWorks]) invlaw mslaw 5 tlaw5 wlaw5_5 := by
  intro ρ kn hi hp
  have hi : (ρ.l 1002) = pendL (ρ.z.rl 0) (ρ.z.rl 0).length ∧ (ρ.i .i64 11490) = ((pendL (ρ.z.rl 0) (ρ.i .i64 11489).toNat).length : Int) ∧ ((ρ.i .i64 11490) = 0 ∨ (ρ.i .i64 11490) < (ρ.i .i64 1)) := hi
  have hF : ρ.z.F = pend.Φ := kn.F
  have hr8 : Typed [(CK.int .i64), CK.bool, (CK.int .i64), (CK.int .i64)] (ρ.z.rl 0) ∧ (((ρ.z.rl 0).length : Nat) : Int) = (((ρ.z.rl 0)).length : Int) := kn.rows 8 _ _ _ _ _ _ rfl
  have hr5 : Typed [(CK.int .i64)] (ρ.l 1002) ∧ (ρ.i .i64 1003) = (((ρ.l 1002)).length : Int) := kn.rows 5 _ _ _ _ _ _ rfl
  simp only [h_nil, h_cons, d_le, d_eq, d_not, d_var, d_lit, d_cel, d_leq, d_fn, d_and, IE.den, LE.den, AL.den, lenV, true_and, and_true] at hp
  obtain ⟨q14, q13, q12, q11, q10, q9, q8, q7, q6, q5, q4, q3, q2, q1⟩ := hp
  exfalso
  obtain ⟨h1, h2, h3⟩ := hi
  have hx := hr5.2
  first
    | (have e := pend_end (R := ρ.z.rl 0) (J := ρ.i .i64 11489) (by assumption) (by assumption)
       rw [← e, ← h1] at h2
       first
         | omega
         | exact ⟨⟨h1, by simp [pendL]⟩, by omega⟩)
    | (obtain ⟨a, b, c⟩ := pend_step h1 h2 hx (by assumption) (by omega) (by omega) (by assumption)
       first
         | omega
         | exact ⟨⟨h1, c.symm⟩, by omega⟩
         | exact ⟨⟨h1, c.symm, by omega⟩, by omega⟩
         | exact ⟨⟨h1, by simp [pendL]⟩, by omega⟩)
    | (have c := pend_skip (R := ρ.z.rl 0) (J := ρ.i .i64 11489) (by assumption) (by assumption)
       rw [← c] at h2
       first
         | exact ⟨⟨h1, h2⟩, by omega⟩
         | exact ⟨⟨h1, h2, by omega⟩, by omega⟩)
theorem vclaw5_6 : VC (T pend.Φ cLaw.roms [cWorks]) invlaw mslaw 5 tlaw5 wlaw5_6 := by
  intro ρ kn hi hp
  have hi : (ρ.l 1002) = pendL (ρ.z.rl 0) (ρ.z.rl 0).length ∧ (ρ.i .i64 11490) = ((pendL (ρ.z.rl 0) (ρ.i .i64 11489).toNat).length : Int) ∧ ((ρ.i .i64 11490) = 0 ∨ (ρ.i .i64 11490) < (ρ.i .i64 1)) := hi
  have hF : ρ.z.F = pend.Φ := kn.F
  have hr8 : Typed [(CK.int .i64), CK.bool, (CK.int .i64), (CK.int .i64)] (ρ.z.rl 0) ∧ (((ρ.z.rl 0).length : Nat) : Int) = (((ρ.z.rl 0)).length : Int) := kn.rows 8 _ _ _ _ _ _ rfl
  have hr5 : Typed [(CK.int .i64)] (ρ.l 1002) ∧ (ρ.i .i64 1003) = (((ρ.l 1002)).length : Int) := kn.rows 5 _ _ _ _ _ _ rfl
  simp only [h_nil, h_cons, d_le, d_eq, d_not, d_var, d_lit, d_cel, d_leq, d_fn, d_and, IE.den, LE.den, AL.den, lenV, true_and, and_true] at hp
  obtain ⟨q14, q13, q12, q11, q10, q9, q8, q7, q6, q5, q4, q3, q2, q1⟩ := hp
  refine (show ((ρ.l 1002) = pendL (ρ.z.rl 0) (ρ.z.rl 0).length ∧ (0 : Int) = ((pendL (ρ.z.rl 0) (0 : Int).toNat).length : Int)) ∧ (((ρ.z.rl 0).length + 1 + ((ρ.z.rl 0).length - (0 : Int).toNat) : Nat) < 2 * ((ρ.z.rl 0).length + 1) + ((ρ.z.rl 0).length - (ρ.i .i64 11489).toNat)) from ?_)
  obtain ⟨h1, h2, h3⟩ := hi
  have hx := hr5.2
  first
    | (have e := pend_end (R := ρ.z.rl 0) (J := ρ.i .i64 11489) (by assumption) (by assumption)
       rw [← e, ← h1] at h2
       first
         | omega
         | exact ⟨⟨h1, by simp [pendL]⟩, by omega⟩)
    | (obtain ⟨a, b, c⟩ := pend_step h1 h2 hx (by assumption) (by omega) (by omega) (by assumption)
       first
         | omega
         | exact ⟨⟨h1, c.symm⟩, by omega⟩
         | exact ⟨⟨h1, c.symm, by omega⟩, by omega⟩
         | exact ⟨⟨h1, by simp [pendL]⟩, by omega⟩)
    | (have c := pend_skip (R := ρ.z.rl 0) (J := ρ.i .i64 11489) (by assumption) (by assumption)
       rw [← c] at h2
       first
         | exact ⟨⟨h1, h2⟩, by omega⟩
         | exact ⟨⟨h1, h2, by omega⟩, by omega⟩)
theorem vclaw5_7 : VC (T pend.Φ cLaw.roms [cWorks]) invlaw mslaw 5 tlaw5 wlaw5_7 := by
  intro ρ kn hi hp
  have hi : (ρ.l 1002) = pendL (ρ.z.rl 0) (ρ.z.rl 0).length ∧ (ρ.i .i64 11490) = ((pendL (ρ.z.rl 0) (ρ.i .i64 11489).toNat).length : Int) ∧ ((ρ.i .i64 11490) = 0 ∨ (ρ.i .i64 11490) < (ρ.i .i64 1)) := hi
  have hF : ρ.z.F = pend.Φ := kn.F
  have hr8 : Typed [(CK.int .i64), CK.bool, (CK.int .i64), (CK.int .i64)] (ρ.z.rl 0) ∧ (((ρ.z.rl 0).length : Nat) : Int) = (((ρ.z.rl 0)).length : Int) := kn.rows 8 _ _ _ _ _ _ rfl
  have hr5 : Typed [(CK.int .i64)] (ρ.l 1002) ∧ (ρ.i .i64 1003) = (((ρ.l 1002)).length : Int) := kn.rows 5 _ _ _ _ _ _ rfl
  simp only [h_nil, h_cons, d_le, d_eq, d_not, d_var, d_lit, d_cel, d_leq, d_fn, d_and, IE.den, LE.den, AL.den, lenV, true_and, and_true] at hp
  obtain ⟨q14, q13, q12, q11, q10, q9, q8, q7, q6, q5, q4, q3, q2, q1⟩ := hp
  exfalso
  obtain ⟨h1, h2, h3⟩ := hi
  have hx := hr5.2
  first
    | (have e := pend_end (R := ρ.z.rl 0) (J := ρ.i .i64 11489) (by assumption) (by assumption)
       rw [← e, ← h1] at h2
       first
         | omega
         | exact ⟨⟨h1, by simp [pendL]⟩, by omega⟩)
    | (obtain ⟨a, b, c⟩ := pend_step h1 h2 hx (by assumption) (by omega) (by omega) (by assumption)
       first
         | omega
         | exact ⟨⟨h1, c.symm⟩, by omega⟩
         | exact ⟨⟨h1, c.symm, by omega⟩, by omega⟩
         | exact ⟨⟨h1, by simp [pendL]⟩, by omega⟩)
    | (have c := pend_skip (R := ρ.z.rl 0) (J := ρ.i .i64 11489) (by assumption) (by assumption)
       rw [← c] at h2
       first
         | exact ⟨⟨h1, h2⟩, by omega⟩
         | exact ⟨⟨h1, h2, by omega⟩, by omega⟩)
theorem vclaw5_8 : VC (T pend.Φ cLaw.roms [cWorks]) invlaw mslaw 5 tlaw5 wlaw5_8 := by
  intro ρ kn hi hp
  have hi : (ρ.l 1002) = pendL (ρ.z.rl 0) (ρ.z.rl 0).length ∧ (ρ.i .i64 11490) = ((pendL (ρ.z.rl 0) (ρ.i .i64 11489).toNat).length : Int) ∧ ((ρ.i .i64 11490) = 0 ∨ (ρ.i .i64 11490) < (ρ.i .i64 1)) := hi
  have hF : ρ.z.F = pend.Φ := kn.F
  have hr8 : Typed [(CK.int .i64), CK.bool, (CK.int .i64), (CK.int .i64)] (ρ.z.rl 0) ∧ (((ρ.z.rl 0).length : Nat) : Int) = (((ρ.z.rl 0)).length : Int) := kn.rows 8 _ _ _ _ _ _ rfl
  have hr5 : Typed [(CK.int .i64)] (ρ.l 1002) ∧ (ρ.i .i64 1003) = (((ρ.l 1002)).length : Int) := kn.rows 5 _ _ _ _ _ _ rfl
  simp only [h_nil, h_cons, d_le, d_eq, d_not, d_var, d_lit, d_cel, d_leq, d_fn, d_and, IE.den, LE.den, AL.den, lenV, true_and, and_true] at hp
  obtain ⟨q13, q12, q11, q10, q9, q8, q7, q6, q5, q4, q3, q2, q1⟩ := hp
  exfalso
  obtain ⟨h1, h2, h3⟩ := hi
  have hx := hr5.2
  first
    | (have e := pend_end (R := ρ.z.rl 0) (J := ρ.i .i64 11489) (by assumption) (by assumption)
       rw [← e, ← h1] at h2
       first
         | omega
         | exact ⟨⟨h1, by simp [pendL]⟩, by omega⟩)
    | (obtain ⟨a, b, c⟩ := pend_step h1 h2 hx (by assumption) (by omega) (by omega) (by assumption)
       first
         | omega
         | exact ⟨⟨h1, c.symm⟩, by omega⟩
         | exact ⟨⟨h1, c.symm, by omega⟩, by omega⟩
         | exact ⟨⟨h1, by simp [pendL]⟩, by omega⟩)
    | (have c := pend_skip (R := ρ.z.rl 0) (J := ρ.i .i64 11489) (by assumption) (by assumption)
       rw [← c] at h2
       first
         | exact ⟨⟨h1, h2⟩, by omega⟩
         | exact ⟨⟨h1, h2, by omega⟩, by omega⟩)
theorem vclaw5_9 : VC (T pend.Φ cLaw.roms [cWorks]) invlaw mslaw 5 tlaw5 wlaw5_9 := by
  intro ρ kn hi hp
  have hi : (ρ.l 1002) = pendL (ρ.z.rl 0) (ρ.z.rl 0).length ∧ (ρ.i .i64 11490) = ((pendL (ρ.z.rl 0) (ρ.i .i64 11489).toNat).length : Int) ∧ ((ρ.i .i64 11490) = 0 ∨ (ρ.i .i64 11490) < (ρ.i .i64 1)) := hi
  have hF : ρ.z.F = pend.Φ := kn.F
  have hr8 : Typed [(CK.int .i64), CK.bool, (CK.int .i64), (CK.int .i64)] (ρ.z.rl 0) ∧ (((ρ.z.rl 0).length : Nat) : Int) = (((ρ.z.rl 0)).length : Int) := kn.rows 8 _ _ _ _ _ _ rfl
  have hr5 : Typed [(CK.int .i64)] (ρ.l 1002) ∧ (ρ.i .i64 1003) = (((ρ.l 1002)).length : Int) := kn.rows 5 _ _ _ _ _ _ rfl
  simp only [h_nil, h_cons, d_le, d_eq, d_not, d_var, d_lit, d_cel, d_leq, d_fn, d_and, IE.den, LE.den, AL.den, lenV, true_and, and_true] at hp
  obtain ⟨q17, q16, q15, q14, q13, q12, q11, q10, q9, q8, q7, q6, q5, q4, q3, q2, q1⟩ := hp
  refine (show ((ρ.l 1002) = pendL (ρ.z.rl 0) (ρ.z.rl 0).length ∧ (0 : Int) = ((pendL (ρ.z.rl 0) (0 : Int).toNat).length : Int)) ∧ (((ρ.z.rl 0).length + 1 + ((ρ.z.rl 0).length - (0 : Int).toNat) : Nat) < 2 * ((ρ.z.rl 0).length + 1) + ((ρ.z.rl 0).length - (ρ.i .i64 11489).toNat)) from ?_)
  obtain ⟨h1, h2, h3⟩ := hi
  have hx := hr5.2
  first
    | (have e := pend_end (R := ρ.z.rl 0) (J := ρ.i .i64 11489) (by assumption) (by assumption)
       rw [← e, ← h1] at h2
       first
         | omega
         | exact ⟨⟨h1, by simp [pendL]⟩, by omega⟩)
    | (obtain ⟨a, b, c⟩ := pend_step h1 h2 hx (by assumption) (by omega) (by omega) (by assumption)
       first
         | omega
         | exact ⟨⟨h1, c.symm⟩, by omega⟩
         | exact ⟨⟨h1, c.symm, by omega⟩, by omega⟩
         | exact ⟨⟨h1, by simp [pendL]⟩, by omega⟩)
    | (have c := pend_skip (R := ρ.z.rl 0) (J := ρ.i .i64 11489) (by assumption) (by assumption)
       rw [← c] at h2
       first
         | exact ⟨⟨h1, h2⟩, by omega⟩
         | exact ⟨⟨h1, h2, by omega⟩, by omega⟩)
theorem vclaw5_10 : VC (T pend.Φ cLaw.roms [cWorks]) invlaw mslaw 5 tlaw5 wlaw5_10 := by
  intro ρ kn hi hp
  have hi : (ρ.l 1002) = pendL (ρ.z.rl 0) (ρ.z.rl 0).length ∧ (ρ.i .i64 11490) = ((pendL (ρ.z.rl 0) (ρ.i .i64 11489).toNat).length : Int) ∧ ((ρ.i .i64 11490) = 0 ∨ (ρ.i .i64 11490) < (ρ.i .i64 1)) := hi
  have hF : ρ.z.F = pend.Φ := kn.F
  have hr8 : Typed [(CK.int .i64), CK.bool, (CK.int .i64), (CK.int .i64)] (ρ.z.rl 0) ∧ (((ρ.z.rl 0).length : Nat) : Int) = (((ρ.z.rl 0)).length : Int) := kn.rows 8 _ _ _ _ _ _ rfl
  have hr5 : Typed [(CK.int .i64)] (ρ.l 1002) ∧ (ρ.i .i64 1003) = (((ρ.l 1002)).length : Int) := kn.rows 5 _ _ _ _ _ _ rfl
  simp only [h_nil, h_cons, d_le, d_eq, d_not, d_var, d_lit, d_cel, d_leq, d_fn, d_and, IE.den, LE.den, AL.den, lenV, true_and, and_true] at hp
  obtain ⟨q18, q17, q16, q15, q14, q13, q12, q11, q10, q9, q8, q7, q6, q5, q4, q3, q2, q1⟩ := hp
  refine (show ((ρ.l 1002) = pendL (ρ.z.rl 0) (ρ.z.rl 0).length ∧ (0 : Int) = ((pendL (ρ.z.rl 0) (0 : Int).toNat).length : Int)) ∧ (((ρ.z.rl 0).length + 1 + ((ρ.z.rl 0).length - (0 : Int).toNat) : Nat) < 2 * ((ρ.z.rl 0).length + 1) + ((ρ.z.rl 0).length - (ρ.i .i64 11489).toNat)) from ?_)
  obtain ⟨h1, h2, h3⟩ := hi
  have hx := hr5.2
  first
    | (have e := pend_end (R := ρ.z.rl 0) (J := ρ.i .i64 11489) (by assumption) (by assumption)
       rw [← e, ← h1] at h2
       first
         | omega
         | exact ⟨⟨h1, by simp [pendL]⟩, by omega⟩)
    | (obtain ⟨a, b, c⟩ := pend_step h1 h2 hx (by assumption) (by omega) (by omega) (by assumption)
       first
         | omega
         | exact ⟨⟨h1, c.symm⟩, by omega⟩
         | exact ⟨⟨h1, c.symm, by omega⟩, by omega⟩
         | exact ⟨⟨h1, by simp [pendL]⟩, by omega⟩)
    | (have c := pend_skip (R := ρ.z.rl 0) (J := ρ.i .i64 11489) (by assumption) (by assumption)
       rw [← c] at h2
       first
         | exact ⟨⟨h1, h2⟩, by omega⟩
         | exact ⟨⟨h1, h2, by omega⟩, by omega⟩)
theorem vclaw5_11 : VC (T pend.Φ cLaw.roms [cWorks]) invlaw mslaw 5 tlaw5 wlaw5_11 := by
  intro ρ kn hi hp
  have hi : (ρ.l 1002) = pendL (ρ.z.rl 0) (ρ.z.rl 0).length ∧ (ρ.i .i64 11490) = ((pendL (ρ.z.rl 0) (ρ.i .i64 11489).toNat).length : Int) ∧ ((ρ.i .i64 11490) = 0 ∨ (ρ.i .i64 11490) < (ρ.i .i64 1)) := hi
  have hF : ρ.z.F = pend.Φ := kn.F
  have hr8 : Typed [(CK.int .i64), CK.bool, (CK.int .i64), (CK.int .i64)] (ρ.z.rl 0) ∧ (((ρ.z.rl 0).length : Nat) : Int) = (((ρ.z.rl 0)).length : Int) := kn.rows 8 _ _ _ _ _ _ rfl
  have hr5 : Typed [(CK.int .i64)] (ρ.l 1002) ∧ (ρ.i .i64 1003) = (((ρ.l 1002)).length : Int) := kn.rows 5 _ _ _ _ _ _ rfl
  simp only [h_nil, h_cons, d_le, d_eq, d_not, d_var, d_lit, d_cel, d_leq, d_fn, d_and, IE.den, LE.den, AL.den, lenV, true_and, and_true] at hp
  obtain ⟨q18, q17, q16, q15, q14, q13, q12, q11, q10, q9, q8, q7, q6, q5, q4, q3, q2, q1⟩ := hp
  exfalso
  obtain ⟨h1, h2, h3⟩ := hi
  have hx := hr5.2
  first
    | (have e := pend_end (R := ρ.z.rl 0) (J := ρ.i .i64 11489) (by assumption) (by assumption)
       rw [← e, ← h1] at h2
       first
         | omega
         | exact ⟨⟨h1, by simp [pendL]⟩, by omega⟩)
    | (obtain ⟨a, b, c⟩ := pend_step h1 h2 hx (by assumption) (by omega) (by omega) (by assumption)
       first
         | omega
         | exact ⟨⟨h1, c.symm⟩, by omega⟩
         | exact ⟨⟨h1, c.symm, by omega⟩, by omega⟩
         | exact ⟨⟨h1, by simp [pendL]⟩, by omega⟩)
    | (have c := pend_skip (R := ρ.z.rl 0) (J := ρ.i .i64 11489) (by assumption) (by assumption)
       rw [← c] at h2
       first
         | exact ⟨⟨h1, h2⟩, by omega⟩
         | exact ⟨⟨h1, h2, by omega⟩, by omega⟩)
theorem vclaw5_12 : VC (T pend.Φ cLaw.roms [cWorks]) invlaw mslaw 5 tlaw5 wlaw5_12 := by
  intro ρ kn hi hp
  have hi : (ρ.l 1002) = pendL (ρ.z.rl 0) (ρ.z.rl 0).length ∧ (ρ.i .i64 11490) = ((pendL (ρ.z.rl 0) (ρ.i .i64 11489).toNat).length : Int) ∧ ((ρ.i .i64 11490) = 0 ∨ (ρ.i .i64 11490) < (ρ.i .i64 1)) := hi
  have hF : ρ.z.F = pend.Φ := kn.F
  have hr8 : Typed [(CK.int .i64), CK.bool, (CK.int .i64), (CK.int .i64)] (ρ.z.rl 0) ∧ (((ρ.z.rl 0).length : Nat) : Int) = (((ρ.z.rl 0)).length : Int) := kn.rows 8 _ _ _ _ _ _ rfl
  have hr5 : Typed [(CK.int .i64)] (ρ.l 1002) ∧ (ρ.i .i64 1003) = (((ρ.l 1002)).length : Int) := kn.rows 5 _ _ _ _ _ _ rfl
  simp only [h_nil, h_cons, d_le, d_eq, d_not, d_var, d_lit, d_cel, d_leq, d_fn, d_and, IE.den, LE.den, AL.den, lenV, true_and, and_true] at hp
  obtain ⟨q17, q16, q15, q14, q13, q12, q11, q10, q9, q8, q7, q6, q5, q4, q3, q2, q1⟩ := hp
  refine (show ((ρ.l 1002) = pendL (ρ.z.rl 0) (ρ.z.rl 0).length ∧ (0 : Int) = ((pendL (ρ.z.rl 0) (0 : Int).toNat).length : Int)) ∧ (((ρ.z.rl 0).length + 1 + ((ρ.z.rl 0).length - (0 : Int).toNat) : Nat) < 2 * ((ρ.z.rl 0).length + 1) + ((ρ.z.rl 0).length - (ρ.i .i64 11489).toNat)) from ?_)
  obtain ⟨h1, h2, h3⟩ := hi
  have hx := hr5.2
  first
    | (have e := pend_end (R := ρ.z.rl 0) (J := ρ.i .i64 11489) (by assumption) (by assumption)
       rw [← e, ← h1] at h2
       first
         | omega
         | exact ⟨⟨h1, by simp [pendL]⟩, by omega⟩)
    | (obtain ⟨a, b, c⟩ := pend_step h1 h2 hx (by assumption) (by omega) (by omega) (by assumption)
       first
         | omega
         | exact ⟨⟨h1, c.symm⟩, by omega⟩
         | exact ⟨⟨h1, c.symm, by omega⟩, by omega⟩
         | exact ⟨⟨h1, by simp [pendL]⟩, by omega⟩)
    | (have c := pend_skip (R := ρ.z.rl 0) (J := ρ.i .i64 11489) (by assumption) (by assumption)
       rw [← c] at h2
       first
         | exact ⟨⟨h1, h2⟩, by omega⟩
         | exact ⟨⟨h1, h2, by omega⟩, by omega⟩)
theorem vclaw5_13 : VC (T pend.Φ cLaw.roms [cWorks]) invlaw mslaw 5 tlaw5 wlaw5_13 := by
  intro ρ kn hi hp
  have hi : (ρ.l 1002) = pendL (ρ.z.rl 0) (ρ.z.rl 0).length ∧ (ρ.i .i64 11490) = ((pendL (ρ.z.rl 0) (ρ.i .i64 11489).toNat).length : Int) ∧ ((ρ.i .i64 11490) = 0 ∨ (ρ.i .i64 11490) < (ρ.i .i64 1)) := hi
  have hF : ρ.z.F = pend.Φ := kn.F
  have hr8 : Typed [(CK.int .i64), CK.bool, (CK.int .i64), (CK.int .i64)] (ρ.z.rl 0) ∧ (((ρ.z.rl 0).length : Nat) : Int) = (((ρ.z.rl 0)).length : Int) := kn.rows 8 _ _ _ _ _ _ rfl
  have hr5 : Typed [(CK.int .i64)] (ρ.l 1002) ∧ (ρ.i .i64 1003) = (((ρ.l 1002)).length : Int) := kn.rows 5 _ _ _ _ _ _ rfl
  simp only [h_nil, h_cons, d_le, d_eq, d_not, d_var, d_lit, d_cel, d_leq, d_fn, d_and, IE.den, LE.den, AL.den, lenV, true_and, and_true] at hp
  obtain ⟨q18, q17, q16, q15, q14, q13, q12, q11, q10, q9, q8, q7, q6, q5, q4, q3, q2, q1⟩ := hp
  refine (show ((ρ.l 1002) = pendL (ρ.z.rl 0) (ρ.z.rl 0).length ∧ (0 : Int) = ((pendL (ρ.z.rl 0) (0 : Int).toNat).length : Int)) ∧ (((ρ.z.rl 0).length + 1 + ((ρ.z.rl 0).length - (0 : Int).toNat) : Nat) < 2 * ((ρ.z.rl 0).length + 1) + ((ρ.z.rl 0).length - (ρ.i .i64 11489).toNat)) from ?_)
  obtain ⟨h1, h2, h3⟩ := hi
  have hx := hr5.2
  first
    | (have e := pend_end (R := ρ.z.rl 0) (J := ρ.i .i64 11489) (by assumption) (by assumption)
       rw [← e, ← h1] at h2
       first
         | omega
         | exact ⟨⟨h1, by simp [pendL]⟩, by omega⟩)
    | (obtain ⟨a, b, c⟩ := pend_step h1 h2 hx (by assumption) (by omega) (by omega) (by assumption)
       first
         | omega
         | exact ⟨⟨h1, c.symm⟩, by omega⟩
         | exact ⟨⟨h1, c.symm, by omega⟩, by omega⟩
         | exact ⟨⟨h1, by simp [pendL]⟩, by omega⟩)
    | (have c := pend_skip (R := ρ.z.rl 0) (J := ρ.i .i64 11489) (by assumption) (by assumption)
       rw [← c] at h2
       first
         | exact ⟨⟨h1, h2⟩, by omega⟩
         | exact ⟨⟨h1, h2, by omega⟩, by omega⟩)
theorem vclaw5_14 : VC (T pend.Φ cLaw.roms [cWorks]) invlaw mslaw 5 tlaw5 wlaw5_14 := by
  intro ρ kn hi hp
  have hi : (ρ.l 1002) = pendL (ρ.z.rl 0) (ρ.z.rl 0).length ∧ (ρ.i .i64 11490) = ((pendL (ρ.z.rl 0) (ρ.i .i64 11489).toNat).length : Int) ∧ ((ρ.i .i64 11490) = 0 ∨ (ρ.i .i64 11490) < (ρ.i .i64 1)) := hi
  have hF : ρ.z.F = pend.Φ := kn.F
  have hr8 : Typed [(CK.int .i64), CK.bool, (CK.int .i64), (CK.int .i64)] (ρ.z.rl 0) ∧ (((ρ.z.rl 0).length : Nat) : Int) = (((ρ.z.rl 0)).length : Int) := kn.rows 8 _ _ _ _ _ _ rfl
  have hr5 : Typed [(CK.int .i64)] (ρ.l 1002) ∧ (ρ.i .i64 1003) = (((ρ.l 1002)).length : Int) := kn.rows 5 _ _ _ _ _ _ rfl
  simp only [h_nil, h_cons, d_le, d_eq, d_not, d_var, d_lit, d_cel, d_leq, d_fn, d_and, IE.den, LE.den, AL.den, lenV, true_and, and_true] at hp
  obtain ⟨q18, q17, q16, q15, q14, q13, q12, q11, q10, q9, q8, q7, q6, q5, q4, q3, q2, q1⟩ := hp
  exfalso
  obtain ⟨h1, h2, h3⟩ := hi
  have hx := hr5.2
  first
    | (have e := pend_end (R := ρ.z.rl 0) (J := ρ.i .i64 11489) (by assumption) (by assumption)
       rw [← e, ← h1] at h2
       first
         | omega
         | exact ⟨⟨h1, by simp [pendL]⟩, by omega⟩)
    | (obtain ⟨a, b, c⟩ := pend_step h1 h2 hx (by assumption) (by omega) (by omega) (by assumption)
       first
         | omega
         | exact ⟨⟨h1, c.symm⟩, by omega⟩
         | exact ⟨⟨h1, c.symm, by omega⟩, by omega⟩
         | exact ⟨⟨h1, by simp [pendL]⟩, by omega⟩)
    | (have c := pend_skip (R := ρ.z.rl 0) (J := ρ.i .i64 11489) (by assumption) (by assumption)
       rw [← c] at h2
       first
         | exact ⟨⟨h1, h2⟩, by omega⟩
         | exact ⟨⟨h1, h2, by omega⟩, by omega⟩)
theorem vclaw5_15 : VC (T pend.Φ cLaw.roms [cWorks]) invlaw mslaw 5 tlaw5 wlaw5_15 := by
  intro ρ kn hi hp
  have hi : (ρ.l 1002) = pendL (ρ.z.rl 0) (ρ.z.rl 0).length ∧ (ρ.i .i64 11490) = ((pendL (ρ.z.rl 0) (ρ.i .i64 11489).toNat).length : Int) ∧ ((ρ.i .i64 11490) = 0 ∨ (ρ.i .i64 11490) < (ρ.i .i64 1)) := hi
  have hF : ρ.z.F = pend.Φ := kn.F
  have hr8 : Typed [(CK.int .i64), CK.bool, (CK.int .i64), (CK.int .i64)] (ρ.z.rl 0) ∧ (((ρ.z.rl 0).length : Nat) : Int) = (((ρ.z.rl 0)).length : Int) := kn.rows 8 _ _ _ _ _ _ rfl
  have hr5 : Typed [(CK.int .i64)] (ρ.l 1002) ∧ (ρ.i .i64 1003) = (((ρ.l 1002)).length : Int) := kn.rows 5 _ _ _ _ _ _ rfl
  simp only [h_nil, h_cons, d_le, d_eq, d_not, d_var, d_lit, d_cel, d_leq, d_fn, d_and, IE.den, LE.den, AL.den, lenV, true_and, and_true] at hp
  obtain ⟨q15, q14, q13, q12, q11, q10, q9, q8, q7, q6, q5, q4, q3, q2, q1⟩ := hp
  refine (show ((ρ.l 1002) = pendL (ρ.z.rl 0) (ρ.z.rl 0).length ∧ ((ρ.i .i64 11490) + (1 : Int)) = ((pendL (ρ.z.rl 0) ((ρ.i .i64 11489) + (1 : Int)).toNat).length : Int) ∧ (((ρ.i .i64 11490) + (1 : Int)) = 0 ∨ ((ρ.i .i64 11490) + (1 : Int)) < (ρ.i .i64 1))) ∧ ((2 * ((ρ.z.rl 0).length + 1) + ((ρ.z.rl 0).length - ((ρ.i .i64 11489) + (1 : Int)).toNat) : Nat) < 2 * ((ρ.z.rl 0).length + 1) + ((ρ.z.rl 0).length - (ρ.i .i64 11489).toNat)) from ?_)
  obtain ⟨h1, h2, h3⟩ := hi
  have hx := hr5.2
  first
    | (have e := pend_end (R := ρ.z.rl 0) (J := ρ.i .i64 11489) (by assumption) (by assumption)
       rw [← e, ← h1] at h2
       first
         | omega
         | exact ⟨⟨h1, by simp [pendL]⟩, by omega⟩)
    | (obtain ⟨a, b, c⟩ := pend_step h1 h2 hx (by assumption) (by omega) (by omega) (by assumption)
       first
         | omega
         | exact ⟨⟨h1, c.symm⟩, by omega⟩
         | exact ⟨⟨h1, c.symm, by omega⟩, by omega⟩
         | exact ⟨⟨h1, by simp [pendL]⟩, by omega⟩)
    | (have c := pend_skip (R := ρ.z.rl 0) (J := ρ.i .i64 11489) (by assumption) (by assumption)
       rw [← c] at h2
       first
         | exact ⟨⟨h1, h2⟩, by omega⟩
         | exact ⟨⟨h1, h2, by omega⟩, by omega⟩)
theorem vclaw5_16 : VC (T pend.Φ cLaw.roms [cWorks]) invlaw mslaw 5 tlaw5 wlaw5_16 := by
  intro ρ kn hi hp
  have hi : (ρ.l 1002) = pendL (ρ.z.rl 0) (ρ.z.rl 0).length ∧ (ρ.i .i64 11490) = ((pendL (ρ.z.rl 0) (ρ.i .i64 11489).toNat).length : Int) ∧ ((ρ.i .i64 11490) = 0 ∨ (ρ.i .i64 11490) < (ρ.i .i64 1)) := hi
  have hF : ρ.z.F = pend.Φ := kn.F
  have hr8 : Typed [(CK.int .i64), CK.bool, (CK.int .i64), (CK.int .i64)] (ρ.z.rl 0) ∧ (((ρ.z.rl 0).length : Nat) : Int) = (((ρ.z.rl 0)).length : Int) := kn.rows 8 _ _ _ _ _ _ rfl
  have hr5 : Typed [(CK.int .i64)] (ρ.l 1002) ∧ (ρ.i .i64 1003) = (((ρ.l 1002)).length : Int) := kn.rows 5 _ _ _ _ _ _ rfl
  simp only [h_nil, h_cons, d_le, d_eq, d_not, d_var, d_lit, d_cel, d_leq, d_fn, d_and, IE.den, LE.den, AL.den, lenV, true_and, and_true] at hp
  obtain ⟨q14, q13, q12, q11, q10, q9, q8, q7, q6, q5, q4, q3, q2, q1⟩ := hp
  exfalso
  obtain ⟨h1, h2, h3⟩ := hi
  have hx := hr5.2
  first
    | (have e := pend_end (R := ρ.z.rl 0) (J := ρ.i .i64 11489) (by assumption) (by assumption)
       rw [← e, ← h1] at h2
       first
         | omega
         | exact ⟨⟨h1, by simp [pendL]⟩, by omega⟩)
    | (obtain ⟨a, b, c⟩ := pend_step h1 h2 hx (by assumption) (by omega) (by omega) (by assumption)
       first
         | omega
         | exact ⟨⟨h1, c.symm⟩, by omega⟩
         | exact ⟨⟨h1, c.symm, by omega⟩, by omega⟩
         | exact ⟨⟨h1, by simp [pendL]⟩, by omega⟩)
    | (have c := pend_skip (R := ρ.z.rl 0) (J := ρ.i .i64 11489) (by assumption) (by assumption)
       rw [← c] at h2
       first
         | exact ⟨⟨h1, h2⟩, by omega⟩
         | exact ⟨⟨h1, h2, by omega⟩, by omega⟩)
theorem vclaw5_17 : VC (T pend.Φ cLaw.roms [cWorks]) invlaw mslaw 5 tlaw5 wlaw5_17 := by
  intro ρ kn hi hp
  have hi : (ρ.l 1002) = pendL (ρ.z.rl 0) (ρ.z.rl 0).length ∧ (ρ.i .i64 11490) = ((pendL (ρ.z.rl 0) (ρ.i .i64 11489).toNat).length : Int) ∧ ((ρ.i .i64 11490) = 0 ∨ (ρ.i .i64 11490) < (ρ.i .i64 1)) := hi
  have hF : ρ.z.F = pend.Φ := kn.F
  have hr8 : Typed [(CK.int .i64), CK.bool, (CK.int .i64), (CK.int .i64)] (ρ.z.rl 0) ∧ (((ρ.z.rl 0).length : Nat) : Int) = (((ρ.z.rl 0)).length : Int) := kn.rows 8 _ _ _ _ _ _ rfl
  have hr5 : Typed [(CK.int .i64)] (ρ.l 1002) ∧ (ρ.i .i64 1003) = (((ρ.l 1002)).length : Int) := kn.rows 5 _ _ _ _ _ _ rfl
  simp only [h_nil, h_cons, d_le, d_eq, d_not, d_var, d_lit, d_cel, d_leq, d_fn, d_and, IE.den, LE.den, AL.den, lenV, true_and, and_true] at hp
  obtain ⟨q12, q11, q10, q9, q8, q7, q6, q5, q4, q3, q2, q1⟩ := hp
  refine (show ((ρ.l 1002) = pendL (ρ.z.rl 0) (ρ.z.rl 0).length ∧ (ρ.i .i64 11490) = ((pendL (ρ.z.rl 0) ((ρ.i .i64 11489) + (1 : Int)).toNat).length : Int) ∧ ((ρ.i .i64 11490) = 0 ∨ (ρ.i .i64 11490) < (ρ.i .i64 1))) ∧ ((2 * ((ρ.z.rl 0).length + 1) + ((ρ.z.rl 0).length - ((ρ.i .i64 11489) + (1 : Int)).toNat) : Nat) < 2 * ((ρ.z.rl 0).length + 1) + ((ρ.z.rl 0).length - (ρ.i .i64 11489).toNat)) from ?_)
  obtain ⟨h1, h2, h3⟩ := hi
  have hx := hr5.2
  first
    | (have e := pend_end (R := ρ.z.rl 0) (J := ρ.i .i64 11489) (by assumption) (by assumption)
       rw [← e, ← h1] at h2
       first
         | omega
         | exact ⟨⟨h1, by simp [pendL]⟩, by omega⟩)
    | (obtain ⟨a, b, c⟩ := pend_step h1 h2 hx (by assumption) (by omega) (by omega) (by assumption)
       first
         | omega
         | exact ⟨⟨h1, c.symm⟩, by omega⟩
         | exact ⟨⟨h1, c.symm, by omega⟩, by omega⟩
         | exact ⟨⟨h1, by simp [pendL]⟩, by omega⟩)
    | (have c := pend_skip (R := ρ.z.rl 0) (J := ρ.i .i64 11489) (by assumption) (by assumption)
       rw [← c] at h2
       first
         | exact ⟨⟨h1, h2⟩, by omega⟩
         | exact ⟨⟨h1, h2, by omega⟩, by omega⟩)
theorem vclaw6_0 : VC (T pend.Φ cLaw.roms [cWorks]) invlaw mslaw 6 tlaw6 wlaw6_0 := by
  intro ρ kn hi hp
  exact all_nil
theorem vclaw6_1 : VC (T pend.Φ cLaw.roms [cWorks]) invlaw mslaw 6 tlaw6 wlaw6_1 := by
  intro ρ kn hi hp
  have hi : (ρ.l 1002) = pendL (ρ.z.rl 0) (ρ.z.rl 0).length ∧ (ρ.i .i64 281490) = ((pendL (ρ.z.rl 0) (ρ.i .i64 281489).toNat).length : Int) := hi
  have hF : ρ.z.F = pend.Φ := kn.F
  have hr8 : Typed [(CK.int .i64), CK.bool, (CK.int .i64), (CK.int .i64)] (ρ.z.rl 0) ∧ (((ρ.z.rl 0).length : Nat) : Int) = (((ρ.z.rl 0)).length : Int) := kn.rows 8 _ _ _ _ _ _ rfl
  have hr5 : Typed [(CK.int .i64)] (ρ.l 1002) ∧ (ρ.i .i64 1003) = (((ρ.l 1002)).length : Int) := kn.rows 5 _ _ _ _ _ _ rfl
  simp only [h_nil, h_cons, d_le, d_eq, d_not, d_var, d_lit, d_cel, d_leq, d_fn, d_and, IE.den, LE.den, AL.den, lenV, true_and, and_true] at hp
  obtain ⟨q12, q11, q10, q9, q8, q7, q6, q5, q4, q3, q2, q1⟩ := hp
  exfalso
  obtain ⟨h1, h2⟩ := hi
  have hx := hr5.2
  first
    | (have e := pend_end (R := ρ.z.rl 0) (J := ρ.i .i64 281489) (by assumption) (by assumption)
       rw [← e, ← h1] at h2
       first
         | omega
         | exact ⟨⟨h1, by simp [pendL]⟩, by omega⟩)
    | (obtain ⟨a, b, c⟩ := pend_step h1 h2 hx (by assumption) (by omega) (by omega) (by assumption)
       first
         | omega
         | exact ⟨⟨h1, c.symm⟩, by omega⟩
         | exact ⟨⟨h1, c.symm, by omega⟩, by omega⟩
         | exact ⟨⟨h1, by simp [pendL]⟩, by omega⟩)
    | (have c := pend_skip (R := ρ.z.rl 0) (J := ρ.i .i64 281489) (by assumption) (by assumption)
       rw [← c] at h2
       first
         | exact ⟨⟨h1, h2⟩, by omega⟩
         | exact ⟨⟨h1, h2, by omega⟩, by omega⟩)
theorem vclaw6_2 : VC (T pend.Φ cLaw.roms [cWorks]) invlaw mslaw 6 tlaw6 wlaw6_2 := by
  intro ρ kn hi hp
  have hi : (ρ.l 1002) = pendL (ρ.z.rl 0) (ρ.z.rl 0).length ∧ (ρ.i .i64 281490) = ((pendL (ρ.z.rl 0) (ρ.i .i64 281489).toNat).length : Int) := hi
  have hF : ρ.z.F = pend.Φ := kn.F
  have hr8 : Typed [(CK.int .i64), CK.bool, (CK.int .i64), (CK.int .i64)] (ρ.z.rl 0) ∧ (((ρ.z.rl 0).length : Nat) : Int) = (((ρ.z.rl 0)).length : Int) := kn.rows 8 _ _ _ _ _ _ rfl
  have hr5 : Typed [(CK.int .i64)] (ρ.l 1002) ∧ (ρ.i .i64 1003) = (((ρ.l 1002)).length : Int) := kn.rows 5 _ _ _ _ _ _ rfl
  simp only [h_nil, h_cons, d_le, d_eq, d_not, d_var, d_lit, d_cel, d_leq, d_fn, d_and, IE.den, LE.den, AL.den, lenV, true_and, and_true] at hp
  obtain ⟨q13, q12, q11, q10, q9, q8, q7, q6, q5, q4, q3, q2, q1⟩ := hp
  exfalso
  obtain ⟨h1, h2⟩ := hi
  have hx := hr5.2
  first
    | (have e := pend_end (R := ρ.z.rl 0) (J := ρ.i .i64 281489) (by assumption) (by assumption)
       rw [← e, ← h1] at h2
       first
         | omega
         | exact ⟨⟨h1, by simp [pendL]⟩, by omega⟩)
    | (obtain ⟨a, b, c⟩ := pend_step h1 h2 hx (by assumption) (by omega) (by omega) (by assumption)
       first
         | omega
         | exact ⟨⟨h1, c.symm⟩, by omega⟩
         | exact ⟨⟨h1, c.symm, by omega⟩, by omega⟩
         | exact ⟨⟨h1, by simp [pendL]⟩, by omega⟩)
    | (have c := pend_skip (R := ρ.z.rl 0) (J := ρ.i .i64 281489) (by assumption) (by assumption)
       rw [← c] at h2
       first
         | exact ⟨⟨h1, h2⟩, by omega⟩
         | exact ⟨⟨h1, h2, by omega⟩, by omega⟩)
theorem vclaw6_3 : VC (T pend.Φ cLaw.roms [cWorks]) invlaw mslaw 6 tlaw6 wlaw6_3 := by
  intro ρ kn hi hp
  have hi : (ρ.l 1002) = pendL (ρ.z.rl 0) (ρ.z.rl 0).length ∧ (ρ.i .i64 281490) = ((pendL (ρ.z.rl 0) (ρ.i .i64 281489).toNat).length : Int) := hi
  have hF : ρ.z.F = pend.Φ := kn.F
  have hr8 : Typed [(CK.int .i64), CK.bool, (CK.int .i64), (CK.int .i64)] (ρ.z.rl 0) ∧ (((ρ.z.rl 0).length : Nat) : Int) = (((ρ.z.rl 0)).length : Int) := kn.rows 8 _ _ _ _ _ _ rfl
  have hr5 : Typed [(CK.int .i64)] (ρ.l 1002) ∧ (ρ.i .i64 1003) = (((ρ.l 1002)).length : Int) := kn.rows 5 _ _ _ _ _ _ rfl
  simp only [h_nil, h_cons, d_le, d_eq, d_not, d_var, d_lit, d_cel, d_leq, d_fn, d_and, IE.den, LE.den, AL.den, lenV, true_and, and_true] at hp
  obtain ⟨q14, q13, q12, q11, q10, q9, q8, q7, q6, q5, q4, q3, q2, q1⟩ := hp
  refine (show ((ρ.l 1002) = pendL (ρ.z.rl 0) (ρ.z.rl 0).length ∧ ((ρ.i .i64 281490) + (1 : Int)) = ((pendL (ρ.z.rl 0) ((ρ.i .i64 281489) + (1 : Int)).toNat).length : Int)) ∧ (((ρ.z.rl 0).length + 1 + ((ρ.z.rl 0).length - ((ρ.i .i64 281489) + (1 : Int)).toNat) : Nat) < (ρ.z.rl 0).length + 1 + ((ρ.z.rl 0).length - (ρ.i .i64 281489).toNat)) from ?_)
  obtain ⟨h1, h2⟩ := hi
  have hx := hr5.2
  first
    | (have e := pend_end (R := ρ.z.rl 0) (J := ρ.i .i64 281489) (by assumption) (by assumption)
       rw [← e, ← h1] at h2
       first
         | omega
         | exact ⟨⟨h1, by simp [pendL]⟩, by omega⟩)
    | (obtain ⟨a, b, c⟩ := pend_step h1 h2 hx (by assumption) (by omega) (by omega) (by assumption)
       first
         | omega
         | exact ⟨⟨h1, c.symm⟩, by omega⟩
         | exact ⟨⟨h1, c.symm, by omega⟩, by omega⟩
         | exact ⟨⟨h1, by simp [pendL]⟩, by omega⟩)
    | (have c := pend_skip (R := ρ.z.rl 0) (J := ρ.i .i64 281489) (by assumption) (by assumption)
       rw [← c] at h2
       first
         | exact ⟨⟨h1, h2⟩, by omega⟩
         | exact ⟨⟨h1, h2, by omega⟩, by omega⟩)
theorem vclaw6_4 : VC (T pend.Φ cLaw.roms [cWorks]) invlaw mslaw 6 tlaw6 wlaw6_4 := by
  intro ρ kn hi hp
  have hi : (ρ.l 1002) = pendL (ρ.z.rl 0) (ρ.z.rl 0).length ∧ (ρ.i .i64 281490) = ((pendL (ρ.z.rl 0) (ρ.i .i64 281489).toNat).length : Int) := hi
  have hF : ρ.z.F = pend.Φ := kn.F
  have hr8 : Typed [(CK.int .i64), CK.bool, (CK.int .i64), (CK.int .i64)] (ρ.z.rl 0) ∧ (((ρ.z.rl 0).length : Nat) : Int) = (((ρ.z.rl 0)).length : Int) := kn.rows 8 _ _ _ _ _ _ rfl
  have hr5 : Typed [(CK.int .i64)] (ρ.l 1002) ∧ (ρ.i .i64 1003) = (((ρ.l 1002)).length : Int) := kn.rows 5 _ _ _ _ _ _ rfl
  simp only [h_nil, h_cons, d_le, d_eq, d_not, d_var, d_lit, d_cel, d_leq, d_fn, d_and, IE.den, LE.den, AL.den, lenV, true_and, and_true] at hp
  obtain ⟨q14, q13, q12, q11, q10, q9, q8, q7, q6, q5, q4, q3, q2, q1⟩ := hp
  exfalso
  obtain ⟨h1, h2⟩ := hi
  have hx := hr5.2
  first
    | (have e := pend_end (R := ρ.z.rl 0) (J := ρ.i .i64 281489) (by assumption) (by assumption)
       rw [← e, ← h1] at h2
       first
         | omega
         | exact ⟨⟨h1, by simp [pendL]⟩, by omega⟩)
    | (obtain ⟨a, b, c⟩ := pend_step h1 h2 hx (by assumption) (by omega) (by omega) (by assumption)
       first
         | omega
         | exact ⟨⟨h1, c.symm⟩, by omega⟩
         | exact ⟨⟨h1, c.symm, by omega⟩, by omega⟩
         | exact ⟨⟨h1, by simp [pendL]⟩, by omega⟩)
    | (have c := pend_skip (R := ρ.z.rl 0) (J := ρ.i .i64 281489) (by assumption) (by assumption)
       rw [← c] at h2
       first
         | exact ⟨⟨h1, h2⟩, by omega⟩
         | exact ⟨⟨h1, h2, by omega⟩, by omega⟩)
theorem vclaw6_5 : VC (T pend.Φ cLaw.roms [cWorks]) invlaw mslaw 6 tlaw6 wlaw6_5 := by
  intro ρ kn hi hp
  have hi : (ρ.l 1002) = pendL (ρ.z.rl 0) (ρ.z.rl 0).length ∧ (ρ.i .i64 281490) = ((pendL (ρ.z.rl 0) (ρ.i .i64 281489).toNat).length : Int) := hi
  have hF : ρ.z.F = pend.Φ := kn.F
  have hr8 : Typed [(CK.int .i64), CK.bool, (CK.int .i64), (CK.int .i64)] (ρ.z.rl 0) ∧ (((ρ.z.rl 0).length : Nat) : Int) = (((ρ.z.rl 0)).length : Int) := kn.rows 8 _ _ _ _ _ _ rfl
  have hr5 : Typed [(CK.int .i64)] (ρ.l 1002) ∧ (ρ.i .i64 1003) = (((ρ.l 1002)).length : Int) := kn.rows 5 _ _ _ _ _ _ rfl
  simp only [h_nil, h_cons, d_le, d_eq, d_not, d_var, d_lit, d_cel, d_leq, d_fn, d_and, IE.den, LE.den, AL.den, lenV, true_and, and_true] at hp
  obtain ⟨q12, q11, q10, q9, q8, q7, q6, q5, q4, q3, q2, q1⟩ := hp
  refine (show ((ρ.l 1002) = pendL (ρ.z.rl 0) (ρ.z.rl 0).length ∧ (ρ.i .i64 281490) = ((pendL (ρ.z.rl 0) ((ρ.i .i64 281489) + (1 : Int)).toNat).length : Int)) ∧ (((ρ.z.rl 0).length + 1 + ((ρ.z.rl 0).length - ((ρ.i .i64 281489) + (1 : Int)).toNat) : Nat) < (ρ.z.rl 0).length + 1 + ((ρ.z.rl 0).length - (ρ.i .i64 281489).toNat)) from ?_)
  obtain ⟨h1, h2⟩ := hi
  have hx := hr5.2
  first
    | (have e := pend_end (R := ρ.z.rl 0) (J := ρ.i .i64 281489) (by assumption) (by assumption)
       rw [← e, ← h1] at h2
       first
         | omega
         | exact ⟨⟨h1, by simp [pendL]⟩, by omega⟩)
    | (obtain ⟨a, b, c⟩ := pend_step h1 h2 hx (by assumption) (by omega) (by omega) (by assumption)
       first
         | omega
         | exact ⟨⟨h1, c.symm⟩, by omega⟩
         | exact ⟨⟨h1, c.symm, by omega⟩, by omega⟩
         | exact ⟨⟨h1, by simp [pendL]⟩, by omega⟩)
    | (have c := pend_skip (R := ρ.z.rl 0) (J := ρ.i .i64 281489) (by assumption) (by assumption)
       rw [← c] at h2
       first
         | exact ⟨⟨h1, h2⟩, by omega⟩
         | exact ⟨⟨h1, h2, by omega⟩, by omega⟩)
theorem vcslaw0 : ∀ v ∈ vwlaw 0, VC (T pend.Φ cLaw.roms [cWorks]) invlaw mslaw 0 (startF 6 cLaw.pat (.lit true :: cLaw.pre)) v := all_cons vclaw0_0 (all_cons vclaw0_1 (all_nil))
theorem oklaw0 : cfgOk (startF 6 cLaw.pat (.lit true :: cLaw.pre)) = true := by kernel_rfl
theorem sglaw0 : segL cLaw.roms cLaw (seg (T pend.Φ cLaw.roms [cWorks]) sellaw 3000 tmlaw (startF 6 cLaw.pat (.lit true :: cLaw.pre))) = (true, codesR tmlaw (views (seg (T pend.Φ cLaw.roms [cWorks]) sellaw 3000 tmlaw (startF 6 cLaw.pat (.lit true :: cLaw.pre)))), vwlaw 0) := by kernel_rfl
theorem vcslaw1 : ∀ v ∈ vwlaw 1, VC (T pend.Φ cLaw.roms [cWorks]) invlaw mslaw 1 tlaw1 v := all_cons vclaw1_0 (all_cons vclaw1_1 (all_cons vclaw1_2 (all_nil)))
theorem oklaw1 : cfgOk tlaw1 = true := by kernel_rfl
theorem sglaw1 : segL cLaw.roms cLaw (seg (T pend.Φ cLaw.roms [cWorks]) sellaw 3000 tmlaw tlaw1) = (true, codesR tmlaw (views (seg (T pend.Φ cLaw.roms [cWorks]) sellaw 3000 tmlaw tlaw1)), vwlaw 1) := by kernel_rfl
theorem vcslaw2 : ∀ v ∈ vwlaw 2, VC (T pend.Φ cLaw.roms [cWorks]) invlaw mslaw 2 tlaw2 v := all_cons vclaw2_0 (all_cons vclaw2_1 (all_cons vclaw2_2 (all_nil)))
theorem oklaw2 : cfgOk tlaw2 = true := by kernel_rfl
theorem sglaw2 : segL cLaw.roms cLaw (seg (T pend.Φ cLaw.roms [cWorks]) sellaw 3000 tmlaw tlaw2) = (true, codesR tmlaw (views (seg (T pend.Φ cLaw.roms [cWorks]) sellaw 3000 tmlaw tlaw2)), vwlaw 2) := by kernel_rfl
theorem vcslaw3 : ∀ v ∈ vwlaw 3, VC (T pend.Φ cLaw.roms [cWorks]) invlaw mslaw 3 tlaw3 v := all_cons vclaw3_0 (all_cons vclaw3_1 (all_cons vclaw3_2 (all_cons vclaw3_3 (all_nil))))
theorem oklaw3 : cfgOk tlaw3 = true := by kernel_rfl
theorem sglaw3 : segL cLaw.roms cLaw (seg (T pend.Φ cLaw.roms [cWorks]) sellaw 3000 tmlaw tlaw3) = (true, codesR tmlaw (views (seg (T pend.Φ cLaw.roms [cWorks]) sellaw 3000 tmlaw tlaw3)), vwlaw 3) := by kernel_rfl
theorem vcslaw4 : ∀ v ∈ vwlaw 4, VC (T pend.Φ cLaw.roms [cWorks]) invlaw mslaw 4 tlaw4 v := all_cons vclaw4_0 (all_cons vclaw4_1 (all_cons vclaw4_2 (all_nil)))
theorem oklaw4 : cfgOk tlaw4 = true := by kernel_rfl
theorem sglaw4 : segL cLaw.roms cLaw (seg (T pend.Φ cLaw.roms [cWorks]) sellaw 3000 tmlaw tlaw4) = (true, codesR tmlaw (views (seg (T pend.Φ cLaw.roms [cWorks]) sellaw 3000 tmlaw tlaw4)), vwlaw 4) := by kernel_rfl
theorem vcslaw5 : ∀ v ∈ vwlaw 5, VC (T pend.Φ cLaw.roms [cWorks]) invlaw mslaw 5 tlaw5 v := all_cons vclaw5_0 (all_cons vclaw5_1 (all_cons vclaw5_2 (all_cons vclaw5_3 (all_cons vclaw5_4 (all_cons vclaw5_5 (all_cons vclaw5_6 (all_cons vclaw5_7 (all_cons vclaw5_8 (all_cons vclaw5_9 (all_cons vclaw5_10 (all_cons vclaw5_11 (all_cons vclaw5_12 (all_cons vclaw5_13 (all_cons vclaw5_14 (all_cons vclaw5_15 (all_cons vclaw5_16 (all_cons vclaw5_17 (all_nil))))))))))))))))))
theorem oklaw5 : cfgOk tlaw5 = true := by kernel_rfl
theorem sglaw5 : segL cLaw.roms cLaw (seg (T pend.Φ cLaw.roms [cWorks]) sellaw 3000 tmlaw tlaw5) = (true, codesR tmlaw (views (seg (T pend.Φ cLaw.roms [cWorks]) sellaw 3000 tmlaw tlaw5)), vwlaw 5) := by kernel_rfl
theorem vcslaw6 : ∀ v ∈ vwlaw 6, VC (T pend.Φ cLaw.roms [cWorks]) invlaw mslaw 6 tlaw6 v := all_cons vclaw6_0 (all_cons vclaw6_1 (all_cons vclaw6_2 (all_cons vclaw6_3 (all_cons vclaw6_4 (all_cons vclaw6_5 (all_nil))))))
theorem oklaw6 : cfgOk tlaw6 = true := by kernel_rfl
theorem sglaw6 : segL cLaw.roms cLaw (seg (T pend.Φ cLaw.roms [cWorks]) sellaw 3000 tmlaw tlaw6) = (true, codesR tmlaw (views (seg (T pend.Φ cLaw.roms [cWorks]) sellaw 3000 tmlaw tlaw6)), vwlaw 6) := by kernel_rfl
theorem told_law : Sx.Told pend.Φ cLaw := by
  refine told_of (cs := [cWorks]) (all_cons told_works (all_nil)) (sel := sellaw) 3000 tmlaw invlaw mslaw vwlaw 0 (pc0 := (.lit true :: cLaw.pre)) (by kernel_rfl) (by kernel_rfl) (by kernel_rfl) (post_nil rfl) ?_ ?_ ?_ rfl (fun ρ _ h => h.cons (p := .lit true) (by simp only [BE.den])) (fun _ _ _ _ => trivial)
  · intro k C h
    have := lk_mem h
    simp only [tmlaw, List.mem_cons, Prod.mk.injEq, List.not_mem_nil, or_false] at this
    rcases this with ⟨rfl, rfl⟩ | ⟨rfl, rfl⟩ | ⟨rfl, rfl⟩ | ⟨rfl, rfl⟩ | ⟨rfl, rfl⟩ | ⟨rfl, rfl⟩ | ⟨rfl, rfl⟩
    · exact oklaw0
    · exact oklaw1
    · exact oklaw2
    · exact oklaw3
    · exact oklaw4
    · exact oklaw5
    · exact oklaw6
  · intro k C h
    have := lk_mem h
    simp only [tmlaw, List.mem_cons, Prod.mk.injEq, List.not_mem_nil, or_false] at this
    rcases this with ⟨rfl, rfl⟩ | ⟨rfl, rfl⟩ | ⟨rfl, rfl⟩ | ⟨rfl, rfl⟩ | ⟨rfl, rfl⟩ | ⟨rfl, rfl⟩ | ⟨rfl, rfl⟩
    · exact sglaw0
    · exact sglaw1
    · exact sglaw2
    · exact sglaw3
    · exact sglaw4
    · exact sglaw5
    · exact sglaw6
  · intro k C h
    have := lk_mem h
    simp only [tmlaw, List.mem_cons, Prod.mk.injEq, List.not_mem_nil, or_false] at this
    rcases this with ⟨rfl, rfl⟩ | ⟨rfl, rfl⟩ | ⟨rfl, rfl⟩ | ⟨rfl, rfl⟩ | ⟨rfl, rfl⟩ | ⟨rfl, rfl⟩ | ⟨rfl, rfl⟩
    · exact vcslaw0
    · exact vcslaw1
    · exact vcslaw2
    · exact vcslaw3
    · exact vcslaw4
    · exact vcslaw5
    · exact vcslaw6
end Go.Proofs.Ytjgkaimgocnkmab.pend
