/- Layer call: the law CallEach. No condition. -/
import Derived.Test.YthenenacmiiphaaVb0
import Derived.Test.YthenenacmiiphaaCj
import Derived.Test.YthenenacmiiphaaDn
import Derived.Test.YthenenacmiiphaaDo
set_option linter.unusedVariables false
set_option linter.unusedSimpArgs false
set_option linter.deprecated false
namespace Go.Proofs.Ythenenacmiiphaa.oct
open Go Go.Proofs.Ythenenacmiiphaa.Sx
noncomputable section
abbrev TTleach : Tab := T oct.Φ cLEach.roms [cWorks19, (rdC 37 []), (rdC 38 [])]
def tleach1 : Cfg := { top := ⟨45, over (opqS 10000 36) [(1, (SV.rom 0 (IE.lit 0) (IE.len (LE.rom 0)) none)), (2, (SV.ptr 3 0)), (6, (SV.const (Go.Value.slice none 0 0))), (7, (SV.const (Go.Value.slice none 0 0))), (8, (SV.int .i64 (IE.var .i64 1000)))], ogt (loopTodo (bodyOf (T oct.Φ [] []) 45) 0), [], false, none⟩, rest := [⟨10, over (opqS 30000 88) [(1, (SV.rom 0 (IE.lit 0) (IE.len (LE.rom 0)) none)), (3, (SV.ptr 0 0)), (5, (SV.ptr 1 0)), (6, (SV.ptr 2 0))], ogt (callTodo (bodyOf (T oct.Φ [] []) 10) 3 [2, 3, 4, 5, 6, 7, 8, 9]), [], false, none⟩], heap := [(3, .cells [(SV.int .i64 (IE.var .i64 1)), (SV.int .i64 (IE.var .i64 2)), (SV.int .i64 (IE.var .i64 3))] 23), (0, .cells [(SV.int .i64 (IE.var .i64 1)), (SV.int .i64 (IE.var .i64 2)), (SV.int .i64 (IE.var .i64 3))] 23), (1, .cells [(SV.int .i64 (IE.var .i64 4))] 3), (2, .cells [(SV.bool (BE.lit false))] 4)], next := 4, pc := .lit true :: ([] ++ [(BE.le (IE.lit 1) (IE.len (LE.rom 0))), (BE.le (IE.len (LE.rom 0)) (IE.lit 500)), (BE.le (IE.lit 0) (IE.var .i64 1000)), (BE.not (BE.le (IE.len (LE.rom 0)) (IE.var .i64 1000)))]) }
def tleach2 : Cfg := { top := ⟨45, over (opqS 10000 36) [(1, (SV.rom 0 (IE.lit 0) (IE.len (LE.rom 0)) none)), (2, (SV.ptr 3 0)), (6, (SV.sll 6 7 1 (IE.lit 0) (IE.var .i64 1005) none)), (7, (SV.sll 9 10 8 (IE.lit 0) (IE.var .i64 1005) none)), (8, (SV.int .i64 (IE.var .i64 1001)))], ogt (loopTodo (bodyOf (T oct.Φ [] []) 45) 0), [], false, none⟩, rest := [⟨10, over (opqS 30000 88) [(1, (SV.rom 0 (IE.lit 0) (IE.len (LE.rom 0)) none)), (3, (SV.ptr 0 0)), (5, (SV.ptr 1 0)), (6, (SV.ptr 2 0))], ogt (callTodo (bodyOf (T oct.Φ [] []) 10) 3 [2, 3, 4, 5, 6, 7, 8, 9]), [], false, none⟩], heap := [(3, .cells [(SV.int .i64 (IE.var .i64 1)), (SV.int .i64 (IE.var .i64 2)), (SV.int .i64 (IE.var .i64 3))] 23), (6, .rowl (LE.var 1002) (IE.var .i64 1005) [(CK.int .i64)] 3 7 1), (9, .rowl (LE.var 1004) (IE.var .i64 1005) [(CK.int .i64), (CK.int .i64), (CK.int .i64), (CK.int .i64), (CK.int .i64), (CK.int .i64), (CK.int .i64), (CK.int .i64)] 71 10 8), (0, .cells [(SV.int .i64 (IE.var .i64 1)), (SV.int .i64 (IE.var .i64 2)), (SV.int .i64 (IE.var .i64 3))] 23), (1, .cells [(SV.int .i64 (IE.var .i64 4))] 3), (2, .cells [(SV.bool (BE.lit false))] 4)], next := 11, pc := .lit true :: ([] ++ [(BE.le (IE.len (LE.rom 0)) (IE.lit 500)), (BE.le (IE.lit 1) (IE.len (LE.rom 0))), (BE.le (IE.lit 0) (IE.var .i64 1001)), (BE.le (IE.var .i64 1001) (IE.len (LE.rom 0))), (BE.le (IE.lit 0) (IE.var .i64 1005))] ++ (.and (.lit true) (.lit true)) :: [.le (.var .i64 1005) (.lit 500)]) }
def tleach3 : Cfg := { top := ⟨125, over (opqS 10000 29) [(0, (SV.func (Go.Fn.yield 27) [] [])), (1, (SV.ptr 24 0)), (2, (SV.ptr 25 0)), (4, (SV.int .i64 (IE.var .i64 31393)))], ogt (loopTodo (bodyOf (T oct.Φ [] []) 125) 0), [], false, none⟩, rest := [⟨93, over (opqS 30000 16) [], ogt (rangeTodo (bodyOf (T oct.Φ [] []) 93) 0 27), [26], false, none⟩, ⟨10, over (opqS 50000 88) [(5, (SV.ptr 1 0)), (6, (SV.ptr 2 0)), (7, (SV.ptr 12 0)), (8, (SV.ptr 13 0)), (9, (SV.func (Go.Fn.func 93) [] [(SV.ptr 14 0), (SV.ptr 18 0)])), (10, (SV.ptr 19 0)), (11, (SV.ptr 20 0))], ogt (rangeTodo (bodyOf (T oct.Φ [] []) 10) 0 22), [21], false, none⟩], heap := [(27, .loop .ready none 93 (over (opqS 200000 16) [(3, (SV.ptr 23 0))]) [9, 10] ((rangeCode (bodyOf (T oct.Φ [] []) 93) 0).getD (.skip, .skip)).1 ((rangeCode (bodyOf (T oct.Φ [] []) 93) 0).getD (.skip, .skip)).2 26), (24, .cells [(SV.int .i64 (IE.var .i64 1)), (SV.int .i64 (IE.var .i64 2)), (SV.int .i64 (IE.var .i64 3))] 23), (25, .cells [(SV.sll 16 17 1 (IE.lit 0) (IE.len (LE.rom 0)) none)] 72), (26, .defd true), (21, .defd true), (22, .loop .ready none 10 (over (opqS 300000 88) [(5, (SV.ptr 1 0)), (6, (SV.ptr 2 0)), (7, (SV.ptr 12 0)), (8, (SV.ptr 13 0)), (10, (SV.ptr 19 0)), (11, (SV.ptr 20 0))]) [34, 35] ((rangeCode (bodyOf (T oct.Φ [] []) 10) 0).getD (.skip, .skip)).1 ((rangeCode (bodyOf (T oct.Φ [] []) 10) 0).getD (.skip, .skip)).2 21), (1, .cells [(SV.int .i64 (IE.var .i64 4))] 3), (2, .cells [(SV.bool (BE.lit false))] 4), (12, .cells [(SV.sll 6 7 1 (IE.lit 0) (IE.var .i64 1005) none)] 56), (13, .cells [(SV.sll 9 10 8 (IE.lit 0) (IE.var .i64 1005) none)] 97), (14, .cells [(SV.int .i64 (IE.var .i64 1)), (SV.int .i64 (IE.var .i64 2)), (SV.int .i64 (IE.var .i64 3))] 23), (18, .cells [(SV.sll 16 17 1 (IE.lit 0) (IE.len (LE.rom 0)) none)] 72), (19, .cells [(SV.int .i64 (IE.lit 0))] 3), (20, .cells [(SV.int .i64 (IE.var .i64 31394))] 3), (23, .cells [(SV.func (Go.Fn.yield 22) [] [])] 159), (16, .rowl (LE.rom 0) (IE.len (LE.rom 0)) [(CK.int .u8)] 5 17 1), (6, .rowl (LE.var 1002) (IE.var .i64 1005) [(CK.int .i64)] 3 7 1), (9, .rowl (LE.var 1004) (IE.var .i64 1005) [(CK.int .i64), (CK.int .i64), (CK.int .i64), (CK.int .i64), (CK.int .i64), (CK.int .i64), (CK.int .i64), (CK.int .i64)] 71 10 8)], next := 28, pc := .lit true :: ([] ++ [(BE.le (IE.lit 1) (IE.len (LE.rom 0))), (BE.le (IE.len (LE.rom 0)) (IE.lit 500)), (BE.le (IE.lit 0) (IE.var .i64 1005)), (BE.le (IE.var .i64 1005) (IE.lit 500)), (BE.le (IE.lit 0) (IE.var .i64 31393)), (BE.le (IE.var .i64 31393) (IE.len (LE.rom 0))), (BE.le (IE.lit 0) (IE.var .i64 31394))]) }
def tleach4 : Cfg := { top := ⟨10, over (opqS 10000 88) [(5, (SV.ptr 1 0)), (6, (SV.ptr 2 0)), (7, (SV.ptr 12 0)), (8, (SV.ptr 13 0)), (9, (SV.func (Go.Fn.func 93) [] [(SV.ptr 14 0), (SV.ptr 18 0)])), (10, (SV.ptr 19 0))], ogt (atTodo (bodyOf (T oct.Φ [] []) 10) 20), [21], false, none⟩, rest := [], heap := [(21, .defd true), (1, .cells [(SV.int .i64 (IE.var .i64 4))] 3), (2, .cells [(SV.bool (BE.lit false))] 4), (12, .cells [(SV.sll 6 7 1 (IE.lit 0) (IE.var .i64 1005) none)] 56), (13, .cells [(SV.sll 9 10 8 (IE.lit 0) (IE.var .i64 1005) none)] 97), (14, .cells [(SV.int .i64 (IE.var .i64 1)), (SV.int .i64 (IE.var .i64 2)), (SV.int .i64 (IE.var .i64 3))] 23), (18, .cells [(SV.sll 16 17 1 (IE.lit 0) (IE.len (LE.rom 0)) none)] 72), (19, .cells [(SV.int .i64 (IE.lit 0))] 3), (6, .rowl (LE.var 1002) (IE.var .i64 1005) [(CK.int .i64)] 3 7 1), (9, .rowl (LE.var 1004) (IE.var .i64 1005) [(CK.int .i64), (CK.int .i64), (CK.int .i64), (CK.int .i64), (CK.int .i64), (CK.int .i64), (CK.int .i64), (CK.int .i64)] 71 10 8), (16, .rowl (LE.rom 0) (IE.len (LE.rom 0)) [(CK.int .u8)] 5 17 1)], next := 22, pc := .lit true :: ([] ++ [(BE.le (IE.len (LE.rom 0)) (IE.lit 500)), (BE.le (IE.lit 1) (IE.len (LE.rom 0))), (BE.le (IE.lit 0) (IE.var .i64 1005)), (BE.le (IE.var .i64 1005) (IE.lit 500))]) }
def tleach5 : Cfg := { top := ⟨125, over (opqS 10000 29) [(0, (SV.func (Go.Fn.yield 30) [] [])), (1, (SV.ptr 27 0)), (2, (SV.ptr 28 0)), (4, (SV.int .i64 (IE.var .i64 11393)))], ogt (loopTodo (bodyOf (T oct.Φ [] []) 125) 0), [], false, none⟩, rest := [⟨93, over (opqS 30000 16) [], ogt (rangeTodo (bodyOf (T oct.Φ [] []) 93) 0 30), [29], false, none⟩, ⟨10, over (opqS 50000 88) [(5, (SV.ptr 1 0)), (6, (SV.ptr 2 0)), (7, (SV.ptr 12 0)), (8, (SV.ptr 13 0)), (9, (SV.func (Go.Fn.func 93) [] [(SV.ptr 14 0), (SV.ptr 18 0)])), (10, (SV.ptr 22 0)), (11, (SV.ptr 23 0))], ogt (rangeTodo (bodyOf (T oct.Φ [] []) 10) 0 25), [24, 21], false, none⟩], heap := [(30, .loop .ready none 93 (over (opqS 200000 16) [(3, (SV.ptr 26 0))]) [9, 10] ((rangeCode (bodyOf (T oct.Φ [] []) 93) 0).getD (.skip, .skip)).1 ((rangeCode (bodyOf (T oct.Φ [] []) 93) 0).getD (.skip, .skip)).2 29), (27, .cells [(SV.int .i64 (IE.var .i64 1)), (SV.int .i64 (IE.var .i64 2)), (SV.int .i64 (IE.var .i64 3))] 23), (28, .cells [(SV.sll 16 17 1 (IE.lit 0) (IE.len (LE.rom 0)) none)] 72), (29, .defd true), (24, .defd true), (21, .defd true), (25, .loop .ready none 10 (over (opqS 320000 88) [(5, (SV.ptr 1 0)), (6, (SV.ptr 2 0)), (7, (SV.ptr 12 0)), (8, (SV.ptr 13 0)), (10, (SV.ptr 22 0)), (11, (SV.ptr 23 0))]) [34, 35] ((rangeCode (bodyOf (T oct.Φ [] []) 10) 0).getD (.skip, .skip)).1 ((rangeCode (bodyOf (T oct.Φ [] []) 10) 0).getD (.skip, .skip)).2 24), (1, .cells [(SV.int .i64 (IE.var .i64 4))] 3), (2, .cells [(SV.bool (BE.lit false))] 4), (12, .cells [(SV.sll 6 7 1 (IE.lit 0) (IE.var .i64 1005) none)] 56), (13, .cells [(SV.sll 9 10 8 (IE.lit 0) (IE.var .i64 1005) none)] 97), (14, .cells [(SV.int .i64 (IE.var .i64 1)), (SV.int .i64 (IE.var .i64 2)), (SV.int .i64 (IE.var .i64 3))] 23), (18, .cells [(SV.sll 16 17 1 (IE.lit 0) (IE.len (LE.rom 0)) none)] 72), (22, .cells [(SV.int .i64 (IE.lit 1))] 3), (23, .cells [(SV.int .i64 (IE.var .i64 11394))] 3), (26, .cells [(SV.func (Go.Fn.yield 25) [] [])] 159), (16, .rowl (LE.rom 0) (IE.len (LE.rom 0)) [(CK.int .u8)] 5 17 1), (6, .rowl (LE.var 1002) (IE.var .i64 1005) [(CK.int .i64)] 3 7 1), (9, .rowl (LE.var 1004) (IE.var .i64 1005) [(CK.int .i64), (CK.int .i64), (CK.int .i64), (CK.int .i64), (CK.int .i64), (CK.int .i64), (CK.int .i64), (CK.int .i64)] 71 10 8)], next := 31, pc := .lit true :: ([] ++ [(BE.le (IE.lit 1) (IE.len (LE.rom 0))), (BE.le (IE.len (LE.rom 0)) (IE.lit 500)), (BE.le (IE.lit 0) (IE.var .i64 1005)), (BE.le (IE.var .i64 1005) (IE.lit 500)), (BE.le (IE.lit 0) (IE.var .i64 11393)), (BE.le (IE.var .i64 11393) (IE.len (LE.rom 0))), (BE.le (IE.lit 0) (IE.var .i64 11394))]) }
def tleach6 : Cfg := { top := ⟨125, over (opqS 10000 29) [(0, (SV.func (Go.Fn.yield 20) [] [])), (1, (SV.ptr 17 0)), (2, (SV.ptr 18 0)), (4, (SV.int .i64 (IE.lit 0)))], ogt (loopTodo (bodyOf (T oct.Φ [] []) 125) 0), [], false, none⟩, rest := [⟨93, over (opqS 30000 16) [], ogt (rangeTodo (bodyOf (T oct.Φ [] []) 93) 0 20), [19], false, none⟩, ⟨10, over (opqS 50000 88) [(5, (SV.ptr 1 0)), (6, (SV.ptr 2 0)), (7, (SV.ptr 5 0)), (8, (SV.ptr 6 0)), (9, (SV.func (Go.Fn.func 93) [] [(SV.ptr 7 0), (SV.ptr 11 0)])), (10, (SV.ptr 12 0)), (11, (SV.ptr 13 0))], ogt (rangeTodo (bodyOf (T oct.Φ [] []) 10) 0 15), [14], false, none⟩], heap := [(20, .loop .ready none 93 (over (opqS 200000 16) [(3, (SV.ptr 16 0))]) [9, 10] ((rangeCode (bodyOf (T oct.Φ [] []) 93) 0).getD (.skip, .skip)).1 ((rangeCode (bodyOf (T oct.Φ [] []) 93) 0).getD (.skip, .skip)).2 19), (17, .cells [(SV.int .i64 (IE.var .i64 1)), (SV.int .i64 (IE.var .i64 2)), (SV.int .i64 (IE.var .i64 3))] 23), (18, .cells [(SV.sll 9 10 1 (IE.lit 0) (IE.len (LE.rom 0)) none)] 72), (19, .defd true), (14, .defd true), (15, .loop .ready none 10 (over (opqS 300000 88) [(5, (SV.ptr 1 0)), (6, (SV.ptr 2 0)), (7, (SV.ptr 5 0)), (8, (SV.ptr 6 0)), (10, (SV.ptr 12 0)), (11, (SV.ptr 13 0))]) [34, 35] ((rangeCode (bodyOf (T oct.Φ [] []) 10) 0).getD (.skip, .skip)).1 ((rangeCode (bodyOf (T oct.Φ [] []) 10) 0).getD (.skip, .skip)).2 14), (1, .cells [(SV.int .i64 (IE.var .i64 4))] 3), (2, .cells [(SV.bool (BE.lit false))] 4), (5, .cells [(SV.const (Go.Value.slice none 0 0))] 56), (6, .cells [(SV.const (Go.Value.slice none 0 0))] 97), (7, .cells [(SV.int .i64 (IE.var .i64 1)), (SV.int .i64 (IE.var .i64 2)), (SV.int .i64 (IE.var .i64 3))] 23), (11, .cells [(SV.sll 9 10 1 (IE.lit 0) (IE.len (LE.rom 0)) none)] 72), (12, .cells [(SV.int .i64 (IE.lit 0))] 3), (13, .cells [(SV.int .i64 (IE.lit 0))] 3), (16, .cells [(SV.func (Go.Fn.yield 15) [] [])] 159), (9, .rowl (LE.rom 0) (IE.len (LE.rom 0)) [(CK.int .u8)] 5 10 1)], next := 21, pc := .lit true :: ([] ++ [(BE.le (IE.len (LE.rom 0)) (IE.lit 500)), (BE.le (IE.lit 1) (IE.len (LE.rom 0)))]) }
def tleach7 : Cfg := { top := ⟨125, over (opqS 10000 29) [(0, (SV.func (Go.Fn.yield 30) [] [])), (1, (SV.ptr 27 0)), (2, (SV.ptr 28 0)), (4, (SV.int .i64 (IE.lit 0)))], ogt (loopTodo (bodyOf (T oct.Φ [] []) 125) 0), [], false, none⟩, rest := [⟨93, over (opqS 30000 16) [], ogt (rangeTodo (bodyOf (T oct.Φ [] []) 93) 0 30), [29], false, none⟩, ⟨10, over (opqS 50000 88) [(5, (SV.ptr 1 0)), (6, (SV.ptr 2 0)), (7, (SV.ptr 5 0)), (8, (SV.ptr 6 0)), (9, (SV.func (Go.Fn.func 93) [] [(SV.ptr 7 0), (SV.ptr 11 0)])), (10, (SV.ptr 22 0)), (11, (SV.ptr 23 0))], ogt (rangeTodo (bodyOf (T oct.Φ [] []) 10) 0 25), [24, 14], false, none⟩], heap := [(30, .loop .ready none 93 (over (opqS 200000 16) [(3, (SV.ptr 26 0))]) [9, 10] ((rangeCode (bodyOf (T oct.Φ [] []) 93) 0).getD (.skip, .skip)).1 ((rangeCode (bodyOf (T oct.Φ [] []) 93) 0).getD (.skip, .skip)).2 29), (27, .cells [(SV.int .i64 (IE.var .i64 1)), (SV.int .i64 (IE.var .i64 2)), (SV.int .i64 (IE.var .i64 3))] 23), (28, .cells [(SV.sll 9 10 1 (IE.lit 0) (IE.len (LE.rom 0)) none)] 72), (29, .defd true), (24, .defd true), (14, .defd true), (25, .loop .ready none 10 (over (opqS 320000 88) [(5, (SV.ptr 1 0)), (6, (SV.ptr 2 0)), (7, (SV.ptr 5 0)), (8, (SV.ptr 6 0)), (10, (SV.ptr 22 0)), (11, (SV.ptr 23 0))]) [34, 35] ((rangeCode (bodyOf (T oct.Φ [] []) 10) 0).getD (.skip, .skip)).1 ((rangeCode (bodyOf (T oct.Φ [] []) 10) 0).getD (.skip, .skip)).2 24), (1, .cells [(SV.int .i64 (IE.var .i64 4))] 3), (2, .cells [(SV.bool (BE.lit false))] 4), (5, .cells [(SV.const (Go.Value.slice none 0 0))] 56), (6, .cells [(SV.const (Go.Value.slice none 0 0))] 97), (7, .cells [(SV.int .i64 (IE.var .i64 1)), (SV.int .i64 (IE.var .i64 2)), (SV.int .i64 (IE.var .i64 3))] 23), (11, .cells [(SV.sll 9 10 1 (IE.lit 0) (IE.len (LE.rom 0)) none)] 72), (22, .cells [(SV.int .i64 (IE.lit 1))] 3), (23, .cells [(SV.int .i64 (IE.lit 0))] 3), (26, .cells [(SV.func (Go.Fn.yield 25) [] [])] 159), (9, .rowl (LE.rom 0) (IE.len (LE.rom 0)) [(CK.int .u8)] 5 10 1)], next := 31, pc := .lit true :: ([] ++ [(BE.le (IE.lit 1) (IE.len (LE.rom 0))), (BE.le (IE.len (LE.rom 0)) (IE.lit 500)), (BE.le (IE.fn .i64 29 (AL.int .i64 (IE.var .i64 1) (AL.int .i64 (IE.var .i64 2) (AL.int .i64 (IE.var .i64 3) (AL.lst (LE.rom 0) AL.nil))))) (IE.lit 50)), (BE.le (IE.fn .i64 29 (AL.int .i64 (IE.var .i64 1) (AL.int .i64 (IE.var .i64 2) (AL.int .i64 (IE.var .i64 3) (AL.lst (LE.rom 0) AL.nil))))) (IE.len (LE.rom 0))), (BE.le (IE.lit 0) (IE.fn .i64 29 (AL.int .i64 (IE.var .i64 1) (AL.int .i64 (IE.var .i64 2) (AL.int .i64 (IE.var .i64 3) (AL.lst (LE.rom 0) AL.nil)))))), (BE.not (BE.eq (IE.fn .i64 20 (AL.int .i64 (IE.var .i64 1) (AL.int .i64 (IE.var .i64 2) (AL.int .i64 (IE.var .i64 3) (AL.lst (LE.rom 0) AL.nil))))) (IE.lit 0)))]) }
def tmleach : List (Nat × Cfg) := [(0, startF 10 cLEach.pat (.lit true :: cLEach.pre)), (1, tleach1), (2, tleach2), (3, tleach3), (4, tleach4), (5, tleach5), (6, tleach6), (7, tleach7)]
def selleach : Sel := [(45, 1, 769001, 1), (45, 1, 770001, 2), (125, 1, 2020066436002, 3), (10, 1020, 20000900000, 4), (125, 1, 2030066436002, 5), (125, 1, 2020066435002, 6), (125, 1, 2030066435002, 7)]
abbrev eleachx0 : AL := AL.int .i64 (IE.var .i64 1) (AL.int .i64 (IE.var .i64 2) (AL.int .i64 (IE.var .i64 3) (AL.lst LE.nil AL.nil)))
abbrev eleachx1 : AL := AL.int .i64 (IE.var .i64 1) (AL.int .i64 (IE.var .i64 2) (AL.int .i64 (IE.var .i64 3) (AL.lst (LE.drop (LE.rom 0) (IE.var .i64 31393)) AL.nil)))
abbrev eleachx2 : AL := AL.int .i64 (IE.var .i64 1) (AL.int .i64 (IE.var .i64 2) (AL.int .i64 (IE.var .i64 3) (AL.lst (LE.drop (LE.rom 0) (IE.var .i64 11393)) AL.nil)))
abbrev eleachx3 : AL := AL.int .i64 (IE.var .i64 1) (AL.int .i64 (IE.var .i64 2) (AL.int .i64 (IE.var .i64 3) (AL.lst (LE.drop (LE.rom 0) (IE.var .i64 1000)) AL.nil)))
abbrev eleachx4 : AL := AL.int .i64 (IE.var .i64 1) (AL.int .i64 (IE.var .i64 2) (AL.int .i64 (IE.var .i64 3) (AL.lst (LE.drop (LE.rom 0) (IE.var .i64 1001)) AL.nil)))
abbrev eleachx5 : AL := AL.int .i64 (IE.var .i64 1) (AL.int .i64 (IE.var .i64 2) (AL.int .i64 (IE.var .i64 3) (AL.lst (LE.rom 0) AL.nil)))
abbrev eleachx6 : IE := IE.add (IE.var .i64 31394) (IE.lit 1)
abbrev eleachx7 : BE := BE.eq (IE.var .i64 31394) (IE.var .i64 1005)
abbrev eleachx8 : BE := BE.le (IE.len (LE.rom 0)) (IE.lit 500)
abbrev eleachx9 : BE := BE.le (IE.lit 1) (IE.var .i64 4)
abbrev eleachx10 : BE := BE.le (IE.var .i64 1005) (IE.var .i64 4)
abbrev eleachx11 : BE := BE.le (IE.lit 1) (IE.len (LE.rom 0))
abbrev eleachx12 : BE := BE.le (IE.var .i64 1005) (IE.lit 1)
abbrev eleachx13 : BE := BE.eq (IE.var .i64 31393) (IE.cel .i64 (LE.var 1002) (IE.var .i64 31394) 0)
abbrev eleachx14 : BE := BE.eq (IE.var .i64 11393) (IE.cel .i64 (LE.var 1002) (IE.var .i64 11394) 0)
abbrev eleachx15 : IE := IE.cel .i64 (LE.var 1004) (IE.var .i64 31394) 0
abbrev eleachx16 : IE := IE.cel .i64 (LE.var 1004) (IE.var .i64 31394) 1
abbrev eleachx17 : IE := IE.cel .i64 (LE.var 1004) (IE.var .i64 31394) 2
abbrev eleachx18 : IE := IE.cel .i64 (LE.var 1004) (IE.var .i64 31394) 3
abbrev eleachx19 : IE := IE.cel .i64 (LE.var 1004) (IE.var .i64 31394) 4
abbrev eleachx20 : IE := IE.cel .i64 (LE.var 1004) (IE.var .i64 31394) 5
abbrev eleachx21 : IE := IE.cel .i64 (LE.var 1004) (IE.var .i64 31394) 6
abbrev eleachx22 : IE := IE.cel .i64 (LE.var 1004) (IE.var .i64 31394) 7
abbrev eleachx23 : IE := IE.cel .i64 (LE.var 1004) (IE.var .i64 11394) 0
abbrev eleachx24 : IE := IE.cel .i64 (LE.var 1004) (IE.var .i64 11394) 1
abbrev eleachx25 : IE := IE.cel .i64 (LE.var 1004) (IE.var .i64 11394) 2
abbrev eleachx26 : IE := IE.cel .i64 (LE.var 1004) (IE.var .i64 11394) 3
abbrev eleachx27 : IE := IE.cel .i64 (LE.var 1004) (IE.var .i64 11394) 4
abbrev eleachx28 : IE := IE.cel .i64 (LE.var 1004) (IE.var .i64 11394) 5
abbrev eleachx29 : IE := IE.cel .i64 (LE.var 1004) (IE.var .i64 11394) 6
abbrev eleachx30 : IE := IE.cel .i64 (LE.var 1004) (IE.var .i64 11394) 7
abbrev eleachx31 : BE := BE.le (IE.var .i64 1005) (IE.var .i64 31394)
abbrev eleachx32 : BE := BE.le (IE.var .i64 1005) (IE.var .i64 11394)
abbrev eleachx33 : BE := BE.eq (IE.var .i64 11394) (IE.var .i64 1005)
abbrev eleachx34 : BE := BE.eq (IE.fn .i64 20 eleachx0) (IE.lit 0)
abbrev eleachx35 : BE := BE.eq (IE.var .i64 31394) (IE.var .i64 4)
abbrev pcleach0_0 : List BE := [(BE.lit true), eleachx11]
def wleach0_0 : VW := (VW.cut 1 (eleachx8 :: pcleach0_0) (Sx.Sub.mk [(.i64, (1000, (IE.lit 0)))] [] [] [] [] []))
def wleach0_1 : VW := (VW.done ((BE.not eleachx8) :: pcleach0_0) (some []))
def vwleach0 : List VW := [wleach0_0, wleach0_1]
abbrev pcleach1_0 : List BE := [(BE.le (IE.lit 0) (IE.fn .i64 29 eleachx3)), (BE.le (IE.fn .i64 29 eleachx3) (IE.sub (IE.len (LE.rom 0)) (IE.var .i64 1000))), (BE.le (IE.fn .i64 29 eleachx3) (IE.lit 50)), (BE.lit true), eleachx11, eleachx8, (BE.le (IE.lit 0) (IE.var .i64 1000)), (BE.not (BE.le (IE.len (LE.rom 0)) (IE.var .i64 1000)))]
def wleach1_0 : VW := (VW.cut 2 ((BE.eq (IE.fn .i64 20 eleachx3) (IE.lit 0)) :: pcleach1_0) (Sx.Sub.mk [(.i64, (1001, (IE.add (IE.var .i64 1000) (IE.fn .i64 29 eleachx3)))), (.i64, (1005, (IE.lit 1)))] [] [(1004, (LE.one (AL.int .i64 (IE.fn .i64 21 eleachx3) (AL.int .i64 (IE.fn .i64 22 eleachx3) (AL.int .i64 (IE.fn .i64 23 eleachx3) (AL.int .i64 (IE.fn .i64 24 eleachx3) (AL.int .i64 (IE.fn .i64 25 eleachx3) (AL.int .i64 (IE.fn .i64 26 eleachx3) (AL.int .i64 (IE.fn .i64 27 eleachx3) (AL.int .i64 (IE.fn .i64 28 eleachx3) AL.nil)))))))))), (1002, (LE.one (AL.int .i64 (IE.var .i64 1000) AL.nil)))] [] [] []))
def wleach1_1 : VW := (VW.cut 6 ((BE.not (BE.eq (IE.fn .i64 20 eleachx3) (IE.lit 0))) :: pcleach1_0) (Sx.Sub.mk [] [] [] [] [] []))
def vwleach1 : List VW := [wleach1_0, wleach1_1]
abbrev pcleach2_0 : List BE := [(BE.le (IE.lit 0) (IE.fn .i64 29 eleachx4)), (BE.le (IE.fn .i64 29 eleachx4) (IE.sub (IE.len (LE.rom 0)) (IE.var .i64 1001))), (BE.le (IE.fn .i64 29 eleachx4) (IE.lit 50)), (BE.lit true), eleachx8, eleachx11, (BE.le (IE.lit 0) (IE.var .i64 1001)), (BE.le (IE.var .i64 1001) (IE.len (LE.rom 0))), (BE.le (IE.lit 0) (IE.var .i64 1005)), (BE.and (BE.lit true) (BE.lit true)), (BE.le (IE.var .i64 1005) (IE.lit 500))]
def wleach2_0 : VW := (VW.cut 2 ((BE.eq (IE.fn .i64 20 eleachx4) (IE.lit 0)) :: pcleach2_0) (Sx.Sub.mk [(.i64, (1001, (IE.add (IE.var .i64 1001) (IE.fn .i64 29 eleachx4)))), (.i64, (1005, (IE.add (IE.var .i64 1005) (IE.lit 1))))] [] [(1004, (LE.cat (LE.var 1004) (LE.one (AL.int .i64 (IE.fn .i64 21 eleachx4) (AL.int .i64 (IE.fn .i64 22 eleachx4) (AL.int .i64 (IE.fn .i64 23 eleachx4) (AL.int .i64 (IE.fn .i64 24 eleachx4) (AL.int .i64 (IE.fn .i64 25 eleachx4) (AL.int .i64 (IE.fn .i64 26 eleachx4) (AL.int .i64 (IE.fn .i64 27 eleachx4) (AL.int .i64 (IE.fn .i64 28 eleachx4) AL.nil))))))))))), (1002, (LE.cat (LE.var 1002) (LE.one (AL.int .i64 (IE.var .i64 1001) AL.nil))))] [] [] []))
def wleach2_1 : VW := (VW.cut 3 ((BE.not (BE.eq (IE.fn .i64 20 eleachx4) (IE.lit 0))) :: pcleach2_0) (Sx.Sub.mk [(.i64, (31394, (IE.lit 0))), (.i64, (1005, (IE.var .i64 1005))), (.i64, (31393, (IE.lit 0)))] [] [(1004, (LE.var 1004)), (1002, (LE.var 1002))] [] [] []))
def vwleach2 : List VW := [wleach2_0, wleach2_1]
abbrev pcleach3_0 : List BE := [(BE.lit true), eleachx11, eleachx8, (BE.le (IE.lit 0) (IE.var .i64 1005)), (BE.le (IE.var .i64 1005) (IE.lit 500)), (BE.le (IE.lit 0) (IE.var .i64 31393)), (BE.le (IE.var .i64 31393) (IE.len (LE.rom 0))), (BE.le (IE.lit 0) (IE.var .i64 31394))]
abbrev pcleach3_1 : List BE := ((BE.le (IE.lit 0) (IE.fn .i64 29 eleachx0)) :: (BE.le (IE.fn .i64 29 eleachx0) (IE.lit 0)) :: (BE.le (IE.fn .i64 29 eleachx0) (IE.lit 50)) :: (BE.le (IE.len (LE.rom 0)) (IE.var .i64 31393)) :: pcleach3_0)
abbrev pcleach3_2 : List BE := ((BE.le (IE.lit 0) (IE.fn .i64 29 eleachx1)) :: (BE.le (IE.fn .i64 29 eleachx1) (IE.sub (IE.len (LE.rom 0)) (IE.var .i64 31393))) :: (BE.le (IE.fn .i64 29 eleachx1) (IE.lit 50)) :: (BE.not (BE.le (IE.len (LE.rom 0)) (IE.var .i64 31393))) :: pcleach3_0)
abbrev pcleach3_3 : List BE := (eleachx34 :: pcleach3_1)
abbrev pcleach3_4 : List BE := ((BE.not eleachx34) :: pcleach3_1)
abbrev pcleach3_5 : List BE := ((BE.eq (IE.fn .i64 20 eleachx1) (IE.lit 0)) :: pcleach3_2)
abbrev pcleach3_6 : List BE := ((BE.not (BE.eq (IE.fn .i64 20 eleachx1) (IE.lit 0))) :: pcleach3_2)
abbrev pcleach3_7 : List BE := ((BE.not eleachx31) :: pcleach3_3)
abbrev pcleach3_8 : List BE := (eleachx9 :: pcleach3_4)
abbrev pcleach3_9 : List BE := ((BE.not eleachx9) :: pcleach3_4)
abbrev pcleach3_10 : List BE := ((BE.not eleachx31) :: pcleach3_5)
abbrev pcleach3_11 : List BE := (eleachx9 :: pcleach3_6)
abbrev pcleach3_12 : List BE := ((BE.not eleachx9) :: pcleach3_6)
abbrev pcleach3_13 : List BE := (eleachx13 :: pcleach3_7)
abbrev pcleach3_14 : List BE := (eleachx10 :: pcleach3_8)
abbrev pcleach3_15 : List BE := ((BE.not eleachx10) :: pcleach3_8)
abbrev pcleach3_16 : List BE := (eleachx12 :: pcleach3_9)
abbrev pcleach3_17 : List BE := ((BE.not eleachx12) :: pcleach3_9)
abbrev pcleach3_18 : List BE := (eleachx13 :: pcleach3_10)
abbrev pcleach3_19 : List BE := (eleachx10 :: pcleach3_11)
abbrev pcleach3_20 : List BE := ((BE.not eleachx10) :: pcleach3_11)
abbrev pcleach3_21 : List BE := (eleachx12 :: pcleach3_12)
abbrev pcleach3_22 : List BE := ((BE.not eleachx12) :: pcleach3_12)
abbrev pcleach3_23 : List BE := ((BE.eq (IE.fn .i64 21 eleachx0) eleachx15) :: pcleach3_13)
abbrev pcleach3_24 : List BE := ((BE.eq (IE.fn .i64 21 eleachx1) eleachx15) :: pcleach3_18)
abbrev pcleach3_25 : List BE := ((BE.eq (IE.fn .i64 22 eleachx0) eleachx16) :: pcleach3_23)
abbrev pcleach3_26 : List BE := ((BE.eq (IE.fn .i64 22 eleachx1) eleachx16) :: pcleach3_24)
abbrev pcleach3_27 : List BE := ((BE.eq (IE.fn .i64 23 eleachx0) eleachx17) :: pcleach3_25)
abbrev pcleach3_28 : List BE := ((BE.eq (IE.fn .i64 23 eleachx1) eleachx17) :: pcleach3_26)
abbrev pcleach3_29 : List BE := ((BE.eq (IE.fn .i64 24 eleachx0) eleachx18) :: pcleach3_27)
abbrev pcleach3_30 : List BE := ((BE.eq (IE.fn .i64 24 eleachx1) eleachx18) :: pcleach3_28)
abbrev pcleach3_31 : List BE := ((BE.eq (IE.fn .i64 25 eleachx0) eleachx19) :: pcleach3_29)
abbrev pcleach3_32 : List BE := ((BE.eq (IE.fn .i64 25 eleachx1) eleachx19) :: pcleach3_30)
abbrev pcleach3_33 : List BE := ((BE.eq (IE.fn .i64 26 eleachx0) eleachx20) :: pcleach3_31)
abbrev pcleach3_34 : List BE := ((BE.eq (IE.fn .i64 26 eleachx1) eleachx20) :: pcleach3_32)
abbrev pcleach3_35 : List BE := ((BE.eq (IE.fn .i64 27 eleachx0) eleachx21) :: pcleach3_33)
abbrev pcleach3_36 : List BE := ((BE.eq (IE.fn .i64 27 eleachx1) eleachx21) :: pcleach3_34)
abbrev pcleach3_37 : List BE := ((BE.eq (IE.fn .i64 28 eleachx0) eleachx22) :: pcleach3_35)
abbrev pcleach3_38 : List BE := ((BE.eq (IE.fn .i64 28 eleachx1) eleachx22) :: pcleach3_36)
abbrev pcleach3_39 : List BE := ((BE.le (IE.var .i64 4) eleachx6) :: pcleach3_37)
abbrev pcleach3_40 : List BE := ((BE.le (IE.var .i64 4) eleachx6) :: pcleach3_38)
abbrev pcleach3_41 : List BE := (eleachx9 :: pcleach3_39)
abbrev pcleach3_42 : List BE := ((BE.not eleachx9) :: pcleach3_39)
abbrev pcleach3_43 : List BE := (eleachx9 :: pcleach3_40)
abbrev pcleach3_44 : List BE := ((BE.not eleachx9) :: pcleach3_40)
abbrev pcleach3_45 : List BE := ((BE.not eleachx10) :: pcleach3_41)
abbrev pcleach3_46 : List BE := ((BE.not eleachx12) :: pcleach3_42)
abbrev pcleach3_47 : List BE := ((BE.not eleachx10) :: pcleach3_43)
abbrev pcleach3_48 : List BE := ((BE.not eleachx12) :: pcleach3_44)
def wleach3_0 : VW := (VW.done (eleachx31 :: pcleach3_3) (some [(G.b (BE.lit true) (BE.lit false))]))
def wleach3_1 : VW := (VW.cut 4 (eleachx10 :: pcleach3_41) (Sx.Sub.mk [(.i64, (1005, (IE.var .i64 1005)))] [] [(1004, (LE.var 1004)), (1002, (LE.var 1002))] [] [] []))
def wleach3_2 : VW := (VW.cut 4 ((BE.eq eleachx6 (IE.var .i64 4)) :: pcleach3_45) (Sx.Sub.mk [(.i64, (1005, (IE.var .i64 1005)))] [] [(1004, (LE.var 1004)), (1002, (LE.var 1002))] [] [] []))
def wleach3_3 : VW := (VW.done ((BE.not (BE.eq eleachx6 (IE.var .i64 4))) :: pcleach3_45) (some [(G.b (BE.lit true) (BE.lit false))]))
def wleach3_4 : VW := (VW.cut 4 (eleachx12 :: pcleach3_42) (Sx.Sub.mk [(.i64, (1005, (IE.var .i64 1005)))] [] [(1004, (LE.var 1004)), (1002, (LE.var 1002))] [] [] []))
def wleach3_5 : VW := (VW.cut 4 ((BE.eq eleachx6 (IE.lit 1)) :: pcleach3_46) (Sx.Sub.mk [(.i64, (1005, (IE.var .i64 1005)))] [] [(1004, (LE.var 1004)), (1002, (LE.var 1002))] [] [] []))
def wleach3_6 : VW := (VW.done ((BE.not (BE.eq eleachx6 (IE.lit 1))) :: pcleach3_46) (some [(G.b (BE.lit true) (BE.lit false))]))
def wleach3_7 : VW := (VW.cut 3 ((BE.not (BE.le (IE.var .i64 4) eleachx6)) :: pcleach3_37) (Sx.Sub.mk [(.i64, (31394, eleachx6)), (.i64, (1005, (IE.var .i64 1005))), (.i64, (31393, (IE.add (IE.var .i64 31393) (IE.fn .i64 29 eleachx0))))] [] [(1004, (LE.var 1004)), (1002, (LE.var 1002))] [] [] []))
def wleach3_8 : VW := (VW.done ((BE.not (BE.eq (IE.fn .i64 28 eleachx0) eleachx22)) :: pcleach3_35) (some [(G.b (BE.lit true) (BE.lit false))]))
def wleach3_9 : VW := (VW.done ((BE.not (BE.eq (IE.fn .i64 27 eleachx0) eleachx21)) :: pcleach3_33) (some [(G.b (BE.lit true) (BE.lit false))]))
def wleach3_10 : VW := (VW.done ((BE.not (BE.eq (IE.fn .i64 26 eleachx0) eleachx20)) :: pcleach3_31) (some [(G.b (BE.lit true) (BE.lit false))]))
def wleach3_11 : VW := (VW.done ((BE.not (BE.eq (IE.fn .i64 25 eleachx0) eleachx19)) :: pcleach3_29) (some [(G.b (BE.lit true) (BE.lit false))]))
def wleach3_12 : VW := (VW.done ((BE.not (BE.eq (IE.fn .i64 24 eleachx0) eleachx18)) :: pcleach3_27) (some [(G.b (BE.lit true) (BE.lit false))]))
def wleach3_13 : VW := (VW.done ((BE.not (BE.eq (IE.fn .i64 23 eleachx0) eleachx17)) :: pcleach3_25) (some [(G.b (BE.lit true) (BE.lit false))]))
def wleach3_14 : VW := (VW.done ((BE.not (BE.eq (IE.fn .i64 22 eleachx0) eleachx16)) :: pcleach3_23) (some [(G.b (BE.lit true) (BE.lit false))]))
def wleach3_15 : VW := (VW.done ((BE.not (BE.eq (IE.fn .i64 21 eleachx0) eleachx15)) :: pcleach3_13) (some [(G.b (BE.lit true) (BE.lit false))]))
def wleach3_16 : VW := (VW.done ((BE.not eleachx13) :: pcleach3_7) (some [(G.b (BE.lit true) (BE.lit false))]))
def wleach3_17 : VW := (VW.cut 4 (eleachx7 :: pcleach3_14) (Sx.Sub.mk [(.i64, (1005, (IE.var .i64 1005)))] [] [(1004, (LE.var 1004)), (1002, (LE.var 1002))] [] [] []))
def wleach3_18 : VW := (VW.done ((BE.not eleachx7) :: pcleach3_14) (some [(G.b (BE.lit true) (BE.lit false))]))
def wleach3_19 : VW := (VW.cut 4 (eleachx35 :: pcleach3_15) (Sx.Sub.mk [(.i64, (1005, (IE.var .i64 1005)))] [] [(1004, (LE.var 1004)), (1002, (LE.var 1002))] [] [] []))
def wleach3_20 : VW := (VW.done ((BE.not eleachx35) :: pcleach3_15) (some [(G.b (BE.lit true) (BE.lit false))]))
def wleach3_21 : VW := (VW.cut 4 (eleachx7 :: pcleach3_16) (Sx.Sub.mk [(.i64, (1005, (IE.var .i64 1005)))] [] [(1004, (LE.var 1004)), (1002, (LE.var 1002))] [] [] []))
def wleach3_22 : VW := (VW.done ((BE.not eleachx7) :: pcleach3_16) (some [(G.b (BE.lit true) (BE.lit false))]))
def wleach3_23 : VW := (VW.cut 4 ((BE.eq (IE.var .i64 31394) (IE.lit 1)) :: pcleach3_17) (Sx.Sub.mk [(.i64, (1005, (IE.var .i64 1005)))] [] [(1004, (LE.var 1004)), (1002, (LE.var 1002))] [] [] []))
def wleach3_24 : VW := (VW.done ((BE.not (BE.eq (IE.var .i64 31394) (IE.lit 1))) :: pcleach3_17) (some [(G.b (BE.lit true) (BE.lit false))]))
def wleach3_25 : VW := (VW.done (eleachx31 :: pcleach3_5) (some [(G.b (BE.lit true) (BE.lit false))]))
def wleach3_26 : VW := (VW.cut 4 (eleachx10 :: pcleach3_43) (Sx.Sub.mk [(.i64, (1005, (IE.var .i64 1005)))] [] [(1004, (LE.var 1004)), (1002, (LE.var 1002))] [] [] []))
def wleach3_27 : VW := (VW.cut 4 ((BE.eq eleachx6 (IE.var .i64 4)) :: pcleach3_47) (Sx.Sub.mk [(.i64, (1005, (IE.var .i64 1005)))] [] [(1004, (LE.var 1004)), (1002, (LE.var 1002))] [] [] []))
def wleach3_28 : VW := (VW.done ((BE.not (BE.eq eleachx6 (IE.var .i64 4))) :: pcleach3_47) (some [(G.b (BE.lit true) (BE.lit false))]))
def wleach3_29 : VW := (VW.cut 4 (eleachx12 :: pcleach3_44) (Sx.Sub.mk [(.i64, (1005, (IE.var .i64 1005)))] [] [(1004, (LE.var 1004)), (1002, (LE.var 1002))] [] [] []))
def wleach3_30 : VW := (VW.cut 4 ((BE.eq eleachx6 (IE.lit 1)) :: pcleach3_48) (Sx.Sub.mk [(.i64, (1005, (IE.var .i64 1005)))] [] [(1004, (LE.var 1004)), (1002, (LE.var 1002))] [] [] []))
def wleach3_31 : VW := (VW.done ((BE.not (BE.eq eleachx6 (IE.lit 1))) :: pcleach3_48) (some [(G.b (BE.lit true) (BE.lit false))]))
def wleach3_32 : VW := (VW.cut 3 ((BE.not (BE.le (IE.var .i64 4) eleachx6)) :: pcleach3_38) (Sx.Sub.mk [(.i64, (31394, eleachx6)), (.i64, (1005, (IE.var .i64 1005))), (.i64, (31393, (IE.add (IE.var .i64 31393) (IE.fn .i64 29 eleachx1))))] [] [(1004, (LE.var 1004)), (1002, (LE.var 1002))] [] [] []))
def wleach3_33 : VW := (VW.done ((BE.not (BE.eq (IE.fn .i64 28 eleachx1) eleachx22)) :: pcleach3_36) (some [(G.b (BE.lit true) (BE.lit false))]))
def wleach3_34 : VW := (VW.done ((BE.not (BE.eq (IE.fn .i64 27 eleachx1) eleachx21)) :: pcleach3_34) (some [(G.b (BE.lit true) (BE.lit false))]))
def wleach3_35 : VW := (VW.done ((BE.not (BE.eq (IE.fn .i64 26 eleachx1) eleachx20)) :: pcleach3_32) (some [(G.b (BE.lit true) (BE.lit false))]))
def wleach3_36 : VW := (VW.done ((BE.not (BE.eq (IE.fn .i64 25 eleachx1) eleachx19)) :: pcleach3_30) (some [(G.b (BE.lit true) (BE.lit false))]))
def wleach3_37 : VW := (VW.done ((BE.not (BE.eq (IE.fn .i64 24 eleachx1) eleachx18)) :: pcleach3_28) (some [(G.b (BE.lit true) (BE.lit false))]))
def wleach3_38 : VW := (VW.done ((BE.not (BE.eq (IE.fn .i64 23 eleachx1) eleachx17)) :: pcleach3_26) (some [(G.b (BE.lit true) (BE.lit false))]))
def wleach3_39 : VW := (VW.done ((BE.not (BE.eq (IE.fn .i64 22 eleachx1) eleachx16)) :: pcleach3_24) (some [(G.b (BE.lit true) (BE.lit false))]))
def wleach3_40 : VW := (VW.done ((BE.not (BE.eq (IE.fn .i64 21 eleachx1) eleachx15)) :: pcleach3_18) (some [(G.b (BE.lit true) (BE.lit false))]))
def wleach3_41 : VW := (VW.done ((BE.not eleachx13) :: pcleach3_10) (some [(G.b (BE.lit true) (BE.lit false))]))
def wleach3_42 : VW := (VW.cut 4 (eleachx7 :: pcleach3_19) (Sx.Sub.mk [(.i64, (1005, (IE.var .i64 1005)))] [] [(1004, (LE.var 1004)), (1002, (LE.var 1002))] [] [] []))
def wleach3_43 : VW := (VW.done ((BE.not eleachx7) :: pcleach3_19) (some [(G.b (BE.lit true) (BE.lit false))]))
def wleach3_44 : VW := (VW.cut 4 (eleachx35 :: pcleach3_20) (Sx.Sub.mk [(.i64, (1005, (IE.var .i64 1005)))] [] [(1004, (LE.var 1004)), (1002, (LE.var 1002))] [] [] []))
def wleach3_45 : VW := (VW.done ((BE.not eleachx35) :: pcleach3_20) (some [(G.b (BE.lit true) (BE.lit false))]))
def wleach3_46 : VW := (VW.cut 4 (eleachx7 :: pcleach3_21) (Sx.Sub.mk [(.i64, (1005, (IE.var .i64 1005)))] [] [(1004, (LE.var 1004)), (1002, (LE.var 1002))] [] [] []))
def wleach3_47 : VW := (VW.done ((BE.not eleachx7) :: pcleach3_21) (some [(G.b (BE.lit true) (BE.lit false))]))
def wleach3_48 : VW := (VW.cut 4 ((BE.eq (IE.var .i64 31394) (IE.lit 1)) :: pcleach3_22) (Sx.Sub.mk [(.i64, (1005, (IE.var .i64 1005)))] [] [(1004, (LE.var 1004)), (1002, (LE.var 1002))] [] [] []))
def wleach3_49 : VW := (VW.done ((BE.not (BE.eq (IE.var .i64 31394) (IE.lit 1))) :: pcleach3_22) (some [(G.b (BE.lit true) (BE.lit false))]))
def vwleach3 : List VW := [wleach3_0, wleach3_1, wleach3_2, wleach3_3, wleach3_4, wleach3_5, wleach3_6, wleach3_7, wleach3_8, wleach3_9, wleach3_10, wleach3_11, wleach3_12, wleach3_13, wleach3_14, wleach3_15, wleach3_16, wleach3_17, wleach3_18, wleach3_19, wleach3_20, wleach3_21, wleach3_22, wleach3_23, wleach3_24, wleach3_25, wleach3_26, wleach3_27, wleach3_28, wleach3_29, wleach3_30, wleach3_31, wleach3_32, wleach3_33, wleach3_34, wleach3_35, wleach3_36, wleach3_37, wleach3_38, wleach3_39, wleach3_40, wleach3_41, wleach3_42, wleach3_43, wleach3_44, wleach3_45, wleach3_46, wleach3_47, wleach3_48, wleach3_49]
def wleach4_0 : VW := (VW.cut 5 [(BE.lit true), eleachx8, eleachx11, (BE.le (IE.lit 0) (IE.var .i64 1005)), (BE.le (IE.var .i64 1005) (IE.lit 500))] (Sx.Sub.mk [(.i64, (11394, (IE.lit 0))), (.i64, (1005, (IE.var .i64 1005))), (.i64, (11393, (IE.lit 0)))] [] [(1004, (LE.var 1004)), (1002, (LE.var 1002))] [] [] []))
def vwleach4 : List VW := [wleach4_0]
abbrev pcleach5_0 : List BE := [(BE.lit true), eleachx11, eleachx8, (BE.le (IE.lit 0) (IE.var .i64 1005)), (BE.le (IE.var .i64 1005) (IE.lit 500)), (BE.le (IE.lit 0) (IE.var .i64 11393)), (BE.le (IE.var .i64 11393) (IE.len (LE.rom 0))), (BE.le (IE.lit 0) (IE.var .i64 11394))]
abbrev pcleach5_1 : List BE := ((BE.le (IE.lit 0) (IE.fn .i64 29 eleachx0)) :: (BE.le (IE.fn .i64 29 eleachx0) (IE.lit 0)) :: (BE.le (IE.fn .i64 29 eleachx0) (IE.lit 50)) :: (BE.le (IE.len (LE.rom 0)) (IE.var .i64 11393)) :: pcleach5_0)
abbrev pcleach5_2 : List BE := ((BE.le (IE.lit 0) (IE.fn .i64 29 eleachx2)) :: (BE.le (IE.fn .i64 29 eleachx2) (IE.sub (IE.len (LE.rom 0)) (IE.var .i64 11393))) :: (BE.le (IE.fn .i64 29 eleachx2) (IE.lit 50)) :: (BE.not (BE.le (IE.len (LE.rom 0)) (IE.var .i64 11393))) :: pcleach5_0)
abbrev pcleach5_3 : List BE := (eleachx34 :: pcleach5_1)
abbrev pcleach5_4 : List BE := ((BE.not eleachx34) :: pcleach5_1)
abbrev pcleach5_5 : List BE := ((BE.eq (IE.fn .i64 20 eleachx2) (IE.lit 0)) :: pcleach5_2)
abbrev pcleach5_6 : List BE := ((BE.not (BE.eq (IE.fn .i64 20 eleachx2) (IE.lit 0))) :: pcleach5_2)
abbrev pcleach5_7 : List BE := ((BE.not eleachx32) :: pcleach5_3)
abbrev pcleach5_8 : List BE := ((BE.not eleachx32) :: pcleach5_5)
abbrev pcleach5_9 : List BE := (eleachx14 :: pcleach5_7)
abbrev pcleach5_10 : List BE := (eleachx14 :: pcleach5_8)
abbrev pcleach5_11 : List BE := ((BE.eq (IE.fn .i64 21 eleachx0) eleachx23) :: pcleach5_9)
abbrev pcleach5_12 : List BE := ((BE.eq (IE.fn .i64 21 eleachx2) eleachx23) :: pcleach5_10)
abbrev pcleach5_13 : List BE := ((BE.eq (IE.fn .i64 22 eleachx0) eleachx24) :: pcleach5_11)
abbrev pcleach5_14 : List BE := ((BE.eq (IE.fn .i64 22 eleachx2) eleachx24) :: pcleach5_12)
abbrev pcleach5_15 : List BE := ((BE.eq (IE.fn .i64 23 eleachx0) eleachx25) :: pcleach5_13)
abbrev pcleach5_16 : List BE := ((BE.eq (IE.fn .i64 23 eleachx2) eleachx25) :: pcleach5_14)
abbrev pcleach5_17 : List BE := ((BE.eq (IE.fn .i64 24 eleachx0) eleachx26) :: pcleach5_15)
abbrev pcleach5_18 : List BE := ((BE.eq (IE.fn .i64 24 eleachx2) eleachx26) :: pcleach5_16)
abbrev pcleach5_19 : List BE := ((BE.eq (IE.fn .i64 25 eleachx0) eleachx27) :: pcleach5_17)
abbrev pcleach5_20 : List BE := ((BE.eq (IE.fn .i64 25 eleachx2) eleachx27) :: pcleach5_18)
abbrev pcleach5_21 : List BE := ((BE.eq (IE.fn .i64 26 eleachx0) eleachx28) :: pcleach5_19)
abbrev pcleach5_22 : List BE := ((BE.eq (IE.fn .i64 26 eleachx2) eleachx28) :: pcleach5_20)
abbrev pcleach5_23 : List BE := ((BE.eq (IE.fn .i64 27 eleachx0) eleachx29) :: pcleach5_21)
abbrev pcleach5_24 : List BE := ((BE.eq (IE.fn .i64 27 eleachx2) eleachx29) :: pcleach5_22)
def wleach5_0 : VW := (VW.done (eleachx32 :: pcleach5_3) (some [(G.b (BE.lit true) (BE.lit false))]))
def wleach5_1 : VW := (VW.cut 5 ((BE.eq (IE.fn .i64 28 eleachx0) eleachx30) :: pcleach5_23) (Sx.Sub.mk [(.i64, (11394, (IE.add (IE.var .i64 11394) (IE.lit 1)))), (.i64, (1005, (IE.var .i64 1005))), (.i64, (11393, (IE.add (IE.var .i64 11393) (IE.fn .i64 29 eleachx0))))] [] [(1004, (LE.var 1004)), (1002, (LE.var 1002))] [] [] []))
def wleach5_2 : VW := (VW.done ((BE.not (BE.eq (IE.fn .i64 28 eleachx0) eleachx30)) :: pcleach5_23) (some [(G.b (BE.lit true) (BE.lit false))]))
def wleach5_3 : VW := (VW.done ((BE.not (BE.eq (IE.fn .i64 27 eleachx0) eleachx29)) :: pcleach5_21) (some [(G.b (BE.lit true) (BE.lit false))]))
def wleach5_4 : VW := (VW.done ((BE.not (BE.eq (IE.fn .i64 26 eleachx0) eleachx28)) :: pcleach5_19) (some [(G.b (BE.lit true) (BE.lit false))]))
def wleach5_5 : VW := (VW.done ((BE.not (BE.eq (IE.fn .i64 25 eleachx0) eleachx27)) :: pcleach5_17) (some [(G.b (BE.lit true) (BE.lit false))]))
def wleach5_6 : VW := (VW.done ((BE.not (BE.eq (IE.fn .i64 24 eleachx0) eleachx26)) :: pcleach5_15) (some [(G.b (BE.lit true) (BE.lit false))]))
def wleach5_7 : VW := (VW.done ((BE.not (BE.eq (IE.fn .i64 23 eleachx0) eleachx25)) :: pcleach5_13) (some [(G.b (BE.lit true) (BE.lit false))]))
def wleach5_8 : VW := (VW.done ((BE.not (BE.eq (IE.fn .i64 22 eleachx0) eleachx24)) :: pcleach5_11) (some [(G.b (BE.lit true) (BE.lit false))]))
def wleach5_9 : VW := (VW.done ((BE.not (BE.eq (IE.fn .i64 21 eleachx0) eleachx23)) :: pcleach5_9) (some [(G.b (BE.lit true) (BE.lit false))]))
def wleach5_10 : VW := (VW.done ((BE.not eleachx14) :: pcleach5_7) (some [(G.b (BE.lit true) (BE.lit false))]))
def wleach5_11 : VW := (VW.done (eleachx33 :: pcleach5_4) (some []))
def wleach5_12 : VW := (VW.done ((BE.not eleachx33) :: pcleach5_4) (some [(G.b (BE.lit true) (BE.lit false))]))
def wleach5_13 : VW := (VW.done (eleachx32 :: pcleach5_5) (some [(G.b (BE.lit true) (BE.lit false))]))
def wleach5_14 : VW := (VW.cut 5 ((BE.eq (IE.fn .i64 28 eleachx2) eleachx30) :: pcleach5_24) (Sx.Sub.mk [(.i64, (11394, (IE.add (IE.var .i64 11394) (IE.lit 1)))), (.i64, (1005, (IE.var .i64 1005))), (.i64, (11393, (IE.add (IE.var .i64 11393) (IE.fn .i64 29 eleachx2))))] [] [(1004, (LE.var 1004)), (1002, (LE.var 1002))] [] [] []))
def wleach5_15 : VW := (VW.done ((BE.not (BE.eq (IE.fn .i64 28 eleachx2) eleachx30)) :: pcleach5_24) (some [(G.b (BE.lit true) (BE.lit false))]))
def wleach5_16 : VW := (VW.done ((BE.not (BE.eq (IE.fn .i64 27 eleachx2) eleachx29)) :: pcleach5_22) (some [(G.b (BE.lit true) (BE.lit false))]))
def wleach5_17 : VW := (VW.done ((BE.not (BE.eq (IE.fn .i64 26 eleachx2) eleachx28)) :: pcleach5_20) (some [(G.b (BE.lit true) (BE.lit false))]))
def wleach5_18 : VW := (VW.done ((BE.not (BE.eq (IE.fn .i64 25 eleachx2) eleachx27)) :: pcleach5_18) (some [(G.b (BE.lit true) (BE.lit false))]))
def wleach5_19 : VW := (VW.done ((BE.not (BE.eq (IE.fn .i64 24 eleachx2) eleachx26)) :: pcleach5_16) (some [(G.b (BE.lit true) (BE.lit false))]))
def wleach5_20 : VW := (VW.done ((BE.not (BE.eq (IE.fn .i64 23 eleachx2) eleachx25)) :: pcleach5_14) (some [(G.b (BE.lit true) (BE.lit false))]))
def wleach5_21 : VW := (VW.done ((BE.not (BE.eq (IE.fn .i64 22 eleachx2) eleachx24)) :: pcleach5_12) (some [(G.b (BE.lit true) (BE.lit false))]))
def wleach5_22 : VW := (VW.done ((BE.not (BE.eq (IE.fn .i64 21 eleachx2) eleachx23)) :: pcleach5_10) (some [(G.b (BE.lit true) (BE.lit false))]))
def wleach5_23 : VW := (VW.done ((BE.not eleachx14) :: pcleach5_8) (some [(G.b (BE.lit true) (BE.lit false))]))
def wleach5_24 : VW := (VW.done (eleachx33 :: pcleach5_6) (some []))
def wleach5_25 : VW := (VW.done ((BE.not eleachx33) :: pcleach5_6) (some [(G.b (BE.lit true) (BE.lit false))]))
def vwleach5 : List VW := [wleach5_0, wleach5_1, wleach5_2, wleach5_3, wleach5_4, wleach5_5, wleach5_6, wleach5_7, wleach5_8, wleach5_9, wleach5_10, wleach5_11, wleach5_12, wleach5_13, wleach5_14, wleach5_15, wleach5_16, wleach5_17, wleach5_18, wleach5_19, wleach5_20, wleach5_21, wleach5_22, wleach5_23, wleach5_24, wleach5_25]
abbrev pcleach6_0 : List BE := [(BE.le (IE.lit 0) (IE.fn .i64 29 eleachx5)), (BE.le (IE.fn .i64 29 eleachx5) (IE.len (LE.rom 0))), (BE.le (IE.fn .i64 29 eleachx5) (IE.lit 50)), (BE.lit true), eleachx8, eleachx11]
abbrev pcleach6_1 : List BE := ((BE.not (BE.eq (IE.fn .i64 20 eleachx5) (IE.lit 0))) :: pcleach6_0)
def wleach6_0 : VW := (VW.done ((BE.eq (IE.fn .i64 20 eleachx5) (IE.lit 0)) :: pcleach6_0) (some [(G.b (BE.lit true) (BE.lit false))]))
def wleach6_1 : VW := (VW.cut 7 (eleachx9 :: pcleach6_1) (Sx.Sub.mk [] [] [] [] [] []))
def wleach6_2 : VW := (VW.cut 7 ((BE.not eleachx9) :: pcleach6_1) (Sx.Sub.mk [] [] [] [] [] []))
def vwleach6 : List VW := [wleach6_0, wleach6_1, wleach6_2]
def wleach7_0 : VW := (VW.done [(BE.le (IE.lit 0) (IE.fn .i64 29 eleachx5)), (BE.le (IE.fn .i64 29 eleachx5) (IE.len (LE.rom 0))), (BE.le (IE.fn .i64 29 eleachx5) (IE.lit 50)), (BE.lit true), eleachx11, eleachx8, (BE.le (IE.fn .i64 29 eleachx5) (IE.lit 50)), (BE.le (IE.fn .i64 29 eleachx5) (IE.len (LE.rom 0))), (BE.le (IE.lit 0) (IE.fn .i64 29 eleachx5)), (BE.not (BE.eq (IE.fn .i64 20 eleachx5) (IE.lit 0)))] (some []))
def vwleach7 : List VW := [wleach7_0]
def vwleach : Nat → List VW
 | 0 => vwleach0
 | 1 => vwleach1
 | 2 => vwleach2
 | 3 => vwleach3
 | 4 => vwleach4
 | 5 => vwleach5
 | 6 => vwleach6
 | 7 => vwleach7
 | _ => []
end
def invleach : Nat → Lt → Prop
 | 1, l => (l.i .i64 1000) = 0 ∧ ((l.z.rl 0).length : Int) ≤ 500
 | 2, l => Gath (l.i .i64 1) (l.i .i64 2) (l.i .i64 3) (l.z.rl 0) (l.l 1002) (l.l 1004) (l.i .i64 1001) ∧ ((l.l 1004).length : Int) = (l.i .i64 1005) ∧ ((l.z.rl 0).length : Int) ≤ 500
 | 3, l => Und (l.i .i64 1) (l.i .i64 2) (l.i .i64 3) (l.z.rl 0) (l.l 1002) (l.l 1004) (l.i .i64 31394) (l.i .i64 31393) ∧ ((l.l 1004).length : Int) = (l.i .i64 1005) ∧ ((l.z.rl 0).length : Int) ≤ 500 ∧ ((l.i .i64 31394) = 0 ∨ (l.i .i64 31394) < (l.i .i64 4))
 | 4, l => Whole (l.i .i64 1) (l.i .i64 2) (l.i .i64 3) (l.z.rl 0) (l.l 1002) (l.l 1004) ∧ ((l.l 1004).length : Int) = (l.i .i64 1005) ∧ ((l.z.rl 0).length : Int) ≤ 500
 | 5, l => Und (l.i .i64 1) (l.i .i64 2) (l.i .i64 3) (l.z.rl 0) (l.l 1002) (l.l 1004) (l.i .i64 11394) (l.i .i64 11393) ∧ ((l.l 1004).length : Int) = (l.i .i64 1005) ∧ ((l.z.rl 0).length : Int) ≤ 500
 | 6, l => ((l.z.rl 0).length : Int) ≤ 500 ∧ ¬ eA (l.i .i64 1) (l.i .i64 2) (l.i .i64 3) (l.z.rl 0) = 0
 | 7, l => ((l.z.rl 0).length : Int) ≤ 500 ∧ ¬ eA (l.i .i64 1) (l.i .i64 2) (l.i .i64 3) (l.z.rl 0) = 0
 | _, _ => True
def msleach : Nat → Lt → Nat
 | 0, l => 3 * (l.z.rl 0).length + 30
 | 1, l => 3 * (l.z.rl 0).length + 20
 | 2, l => 2 * (l.z.rl 0).length + 10 + ((l.z.rl 0).length - (l.i .i64 1001).toNat)
 | 3, l => (l.z.rl 0).length + 6 + ((l.z.rl 0).length - (l.i .i64 31393).toNat)
 | 4, l => (l.z.rl 0).length + 5
 | 5, l => (l.z.rl 0).length - (l.i .i64 11393).toNat
 | 6, l => 3
 | 7, l => 2
 | _, _ => 0
theorem vcleach0_0 : VC TTleach invleach msleach 0 (startF 10 cLEach.pat (.lit true :: cLEach.pre)) wleach0_0 := by
 intro ρ kn hi hp
 have hF : ρ.z.F = oct.Φ := kn.F
 simp only [h_nil, h_cons, d_le, d_eq, d_not, d_var, d_lit, d_cel, d_leq, d_fn, d_and, d_iff, IE.den, LE.den, AL.den, lenV, true_and, and_true, hF, pr20, pr21, pr22, pr23, pr24, pr25, pr26, pr27, pr28, pr29, eA_is, cA_is, fA_0, fA_1, fA_2, fA_3, fA_4, fA_5, fA_6, fA_7] at hp
 obtain ⟨p1, p2⟩ := hp
 refine (show ((0 : Int) = 0 ∧ ((ρ.z.rl 0).length : Int) ≤ 500) ∧ ((3 * (ρ.z.rl 0).length + 20 : Nat) < 3 * (ρ.z.rl 0).length + 30) from ?_)
 exact ⟨⟨rfl, by omega⟩, by omega⟩
def ivleach1 (ρ : Rho) : Prop := (ρ.i .i64 1000) = 0 ∧ ((ρ.z.rl 0).length : Int) ≤ 500
theorem vcleach1_0 : VC TTleach invleach msleach 1 tleach1 wleach1_0 := by
 intro ρ kn hi hp
 have hi : ivleach1 ρ := hi
 unfold ivleach1 at hi
 have hF : ρ.z.F = oct.Φ := kn.F
 simp only [h_nil, h_cons, d_le, d_eq, d_not, d_var, d_lit, d_cel, d_leq, d_fn, d_and, d_iff, IE.den, LE.den, AL.den, lenV, true_and, and_true, hF, pr20, pr21, pr22, pr23, pr24, pr25, pr26, pr27, pr28, pr29, eA_is, cA_is, fA_0, fA_1, fA_2, fA_3, fA_4, fA_5, fA_6, fA_7] at hp
 obtain ⟨p1, p2, p3, p4, p5, p6, p7, p8⟩ := hp
 refine (show (Gath (ρ.i .i64 1) (ρ.i .i64 2) (ρ.i .i64 3) (ρ.z.rl 0) ([[Go.Value.int .i64 (ρ.i .i64 1000)]] : LV) ([[Go.Value.int .i64 (clampK .i64 (ρ.z.F.i 21 [.int .i64 (ρ.i .i64 1), .int .i64 (ρ.i .i64 2), .int .i64 (ρ.i .i64 3), .lst ((ρ.z.rl 0).drop (ρ.i .i64 1000).toNat)])), Go.Value.int .i64 (clampK .i64 (ρ.z.F.i 22 [.int .i64 (ρ.i .i64 1), .int .i64 (ρ.i .i64 2), .int .i64 (ρ.i .i64 3), .lst ((ρ.z.rl 0).drop (ρ.i .i64 1000).toNat)])), Go.Value.int .i64 (clampK .i64 (ρ.z.F.i 23 [.int .i64 (ρ.i .i64 1), .int .i64 (ρ.i .i64 2), .int .i64 (ρ.i .i64 3), .lst ((ρ.z.rl 0).drop (ρ.i .i64 1000).toNat)])), Go.Value.int .i64 (clampK .i64 (ρ.z.F.i 24 [.int .i64 (ρ.i .i64 1), .int .i64 (ρ.i .i64 2), .int .i64 (ρ.i .i64 3), .lst ((ρ.z.rl 0).drop (ρ.i .i64 1000).toNat)])), Go.Value.int .i64 (clampK .i64 (ρ.z.F.i 25 [.int .i64 (ρ.i .i64 1), .int .i64 (ρ.i .i64 2), .int .i64 (ρ.i .i64 3), .lst ((ρ.z.rl 0).drop (ρ.i .i64 1000).toNat)])), Go.Value.int .i64 (clampK .i64 (ρ.z.F.i 26 [.int .i64 (ρ.i .i64 1), .int .i64 (ρ.i .i64 2), .int .i64 (ρ.i .i64 3), .lst ((ρ.z.rl 0).drop (ρ.i .i64 1000).toNat)])), Go.Value.int .i64 (clampK .i64 (ρ.z.F.i 27 [.int .i64 (ρ.i .i64 1), .int .i64 (ρ.i .i64 2), .int .i64 (ρ.i .i64 3), .lst ((ρ.z.rl 0).drop (ρ.i .i64 1000).toNat)])), Go.Value.int .i64 (clampK .i64 (ρ.z.F.i 28 [.int .i64 (ρ.i .i64 1), .int .i64 (ρ.i .i64 2), .int .i64 (ρ.i .i64 3), .lst ((ρ.z.rl 0).drop (ρ.i .i64 1000).toNat)]))]] : LV) ((ρ.i .i64 1000) + (clampK .i64 (ρ.z.F.i 29 [.int .i64 (ρ.i .i64 1), .int .i64 (ρ.i .i64 2), .int .i64 (ρ.i .i64 3), .lst ((ρ.z.rl 0).drop (ρ.i .i64 1000).toNat)]))) ∧ (([[Go.Value.int .i64 (clampK .i64 (ρ.z.F.i 21 [.int .i64 (ρ.i .i64 1), .int .i64 (ρ.i .i64 2), .int .i64 (ρ.i .i64 3), .lst ((ρ.z.rl 0).drop (ρ.i .i64 1000).toNat)])), Go.Value.int .i64 (clampK .i64 (ρ.z.F.i 22 [.int .i64 (ρ.i .i64 1), .int .i64 (ρ.i .i64 2), .int .i64 (ρ.i .i64 3), .lst ((ρ.z.rl 0).drop (ρ.i .i64 1000).toNat)])), Go.Value.int .i64 (clampK .i64 (ρ.z.F.i 23 [.int .i64 (ρ.i .i64 1), .int .i64 (ρ.i .i64 2), .int .i64 (ρ.i .i64 3), .lst ((ρ.z.rl 0).drop (ρ.i .i64 1000).toNat)])), Go.Value.int .i64 (clampK .i64 (ρ.z.F.i 24 [.int .i64 (ρ.i .i64 1), .int .i64 (ρ.i .i64 2), .int .i64 (ρ.i .i64 3), .lst ((ρ.z.rl 0).drop (ρ.i .i64 1000).toNat)])), Go.Value.int .i64 (clampK .i64 (ρ.z.F.i 25 [.int .i64 (ρ.i .i64 1), .int .i64 (ρ.i .i64 2), .int .i64 (ρ.i .i64 3), .lst ((ρ.z.rl 0).drop (ρ.i .i64 1000).toNat)])), Go.Value.int .i64 (clampK .i64 (ρ.z.F.i 26 [.int .i64 (ρ.i .i64 1), .int .i64 (ρ.i .i64 2), .int .i64 (ρ.i .i64 3), .lst ((ρ.z.rl 0).drop (ρ.i .i64 1000).toNat)])), Go.Value.int .i64 (clampK .i64 (ρ.z.F.i 27 [.int .i64 (ρ.i .i64 1), .int .i64 (ρ.i .i64 2), .int .i64 (ρ.i .i64 3), .lst ((ρ.z.rl 0).drop (ρ.i .i64 1000).toNat)])), Go.Value.int .i64 (clampK .i64 (ρ.z.F.i 28 [.int .i64 (ρ.i .i64 1), .int .i64 (ρ.i .i64 2), .int .i64 (ρ.i .i64 3), .lst ((ρ.z.rl 0).drop (ρ.i .i64 1000).toNat)]))]] : LV).length : Int) = (1 : Int) ∧ ((ρ.z.rl 0).length : Int) ≤ 500) ∧ ((2 * (ρ.z.rl 0).length + 10 + ((ρ.z.rl 0).length - ((ρ.i .i64 1000) + (clampK .i64 (ρ.z.F.i 29 [.int .i64 (ρ.i .i64 1), .int .i64 (ρ.i .i64 2), .int .i64 (ρ.i .i64 3), .lst ((ρ.z.rl 0).drop (ρ.i .i64 1000).toNat)]))).toNat) : Nat) < 3 * (ρ.z.rl 0).length + 20) from ?_)
 simp only [hF, pr20, pr21, pr22, pr23, pr24, pr25, pr26, pr27, pr28, pr29, eA_is, cA_is, fA_0, fA_1, fA_2, fA_3, fA_4, fA_5, fA_6, fA_7]
 obtain ⟨h0, hb⟩ := hi
 have g : Gath (ρ.i .i64 1) (ρ.i .i64 2) (ρ.i .i64 3) (ρ.z.rl 0) [] [] (ρ.i .i64 1000) := gathA0 h0
 exact ⟨⟨gathA (by omega) g (by assumption), rfl, hb⟩, by omega⟩
theorem vcleach1_1 : VC TTleach invleach msleach 1 tleach1 wleach1_1 := by
 intro ρ kn hi hp
 have hi : ivleach1 ρ := hi
 unfold ivleach1 at hi
 have hF : ρ.z.F = oct.Φ := kn.F
 simp only [h_nil, h_cons, d_le, d_eq, d_not, d_var, d_lit, d_cel, d_leq, d_fn, d_and, d_iff, IE.den, LE.den, AL.den, lenV, true_and, and_true, hF, pr20, pr21, pr22, pr23, pr24, pr25, pr26, pr27, pr28, pr29, eA_is, cA_is, fA_0, fA_1, fA_2, fA_3, fA_4, fA_5, fA_6, fA_7] at hp
 obtain ⟨p1, p2, p3, p4, p5, p6, p7, p8⟩ := hp
 refine (show (((ρ.z.rl 0).length : Int) ≤ 500 ∧ ¬ eA (ρ.i .i64 1) (ρ.i .i64 2) (ρ.i .i64 3) (ρ.z.rl 0) = 0) ∧ ((3 : Nat) < 3 * (ρ.z.rl 0).length + 20) from ?_)
 obtain ⟨h0, hb⟩ := hi
 have e : ρ.z.rl 0 = List.drop (ρ.i .i64 1000).toNat (ρ.z.rl 0) := by rw [h0]; rfl
 refine ⟨⟨hb, ?_⟩, by omega⟩
 rw [e]
 assumption
def ivleach2 (ρ : Rho) : Prop := Gath (ρ.i .i64 1) (ρ.i .i64 2) (ρ.i .i64 3) (ρ.z.rl 0) (ρ.l 1002) (ρ.l 1004) (ρ.i .i64 1001) ∧ ((ρ.l 1004).length : Int) = (ρ.i .i64 1005) ∧ ((ρ.z.rl 0).length : Int) ≤ 500
theorem vcleach2_0 : VC TTleach invleach msleach 2 tleach2 wleach2_0 := by
 intro ρ kn hi hp
 have hi : ivleach2 ρ := hi
 unfold ivleach2 at hi
 have hF : ρ.z.F = oct.Φ := kn.F
 simp only [h_nil, h_cons, d_le, d_eq, d_not, d_var, d_lit, d_cel, d_leq, d_fn, d_and, d_iff, IE.den, LE.den, AL.den, lenV, true_and, and_true, hF, pr20, pr21, pr22, pr23, pr24, pr25, pr26, pr27, pr28, pr29, eA_is, cA_is, fA_0, fA_1, fA_2, fA_3, fA_4, fA_5, fA_6, fA_7] at hp
 obtain ⟨p1, p2, p3, p4, p5, p6, p7, p8, p9, p10⟩ := hp
 refine (show (Gath (ρ.i .i64 1) (ρ.i .i64 2) (ρ.i .i64 3) (ρ.z.rl 0) ((ρ.l 1002) ++ ([[Go.Value.int .i64 (ρ.i .i64 1001)]] : LV)) ((ρ.l 1004) ++ ([[Go.Value.int .i64 (clampK .i64 (ρ.z.F.i 21 [.int .i64 (ρ.i .i64 1), .int .i64 (ρ.i .i64 2), .int .i64 (ρ.i .i64 3), .lst ((ρ.z.rl 0).drop (ρ.i .i64 1001).toNat)])), Go.Value.int .i64 (clampK .i64 (ρ.z.F.i 22 [.int .i64 (ρ.i .i64 1), .int .i64 (ρ.i .i64 2), .int .i64 (ρ.i .i64 3), .lst ((ρ.z.rl 0).drop (ρ.i .i64 1001).toNat)])), Go.Value.int .i64 (clampK .i64 (ρ.z.F.i 23 [.int .i64 (ρ.i .i64 1), .int .i64 (ρ.i .i64 2), .int .i64 (ρ.i .i64 3), .lst ((ρ.z.rl 0).drop (ρ.i .i64 1001).toNat)])), Go.Value.int .i64 (clampK .i64 (ρ.z.F.i 24 [.int .i64 (ρ.i .i64 1), .int .i64 (ρ.i .i64 2), .int .i64 (ρ.i .i64 3), .lst ((ρ.z.rl 0).drop (ρ.i .i64 1001).toNat)])), Go.Value.int .i64 (clampK .i64 (ρ.z.F.i 25 [.int .i64 (ρ.i .i64 1), .int .i64 (ρ.i .i64 2), .int .i64 (ρ.i .i64 3), .lst ((ρ.z.rl 0).drop (ρ.i .i64 1001).toNat)])), Go.Value.int .i64 (clampK .i64 (ρ.z.F.i 26 [.int .i64 (ρ.i .i64 1), .int .i64 (ρ.i .i64 2), .int .i64 (ρ.i .i64 3), .lst ((ρ.z.rl 0).drop (ρ.i .i64 1001).toNat)])), Go.Value.int .i64 (clampK .i64 (ρ.z.F.i 27 [.int .i64 (ρ.i .i64 1), .int .i64 (ρ.i .i64 2), .int .i64 (ρ.i .i64 3), .lst ((ρ.z.rl 0).drop (ρ.i .i64 1001).toNat)])), Go.Value.int .i64 (clampK .i64 (ρ.z.F.i 28 [.int .i64 (ρ.i .i64 1), .int .i64 (ρ.i .i64 2), .int .i64 (ρ.i .i64 3), .lst ((ρ.z.rl 0).drop (ρ.i .i64 1001).toNat)]))]] : LV)) ((ρ.i .i64 1001) + (clampK .i64 (ρ.z.F.i 29 [.int .i64 (ρ.i .i64 1), .int .i64 (ρ.i .i64 2), .int .i64 (ρ.i .i64 3), .lst ((ρ.z.rl 0).drop (ρ.i .i64 1001).toNat)]))) ∧ (((ρ.l 1004) ++ ([[Go.Value.int .i64 (clampK .i64 (ρ.z.F.i 21 [.int .i64 (ρ.i .i64 1), .int .i64 (ρ.i .i64 2), .int .i64 (ρ.i .i64 3), .lst ((ρ.z.rl 0).drop (ρ.i .i64 1001).toNat)])), Go.Value.int .i64 (clampK .i64 (ρ.z.F.i 22 [.int .i64 (ρ.i .i64 1), .int .i64 (ρ.i .i64 2), .int .i64 (ρ.i .i64 3), .lst ((ρ.z.rl 0).drop (ρ.i .i64 1001).toNat)])), Go.Value.int .i64 (clampK .i64 (ρ.z.F.i 23 [.int .i64 (ρ.i .i64 1), .int .i64 (ρ.i .i64 2), .int .i64 (ρ.i .i64 3), .lst ((ρ.z.rl 0).drop (ρ.i .i64 1001).toNat)])), Go.Value.int .i64 (clampK .i64 (ρ.z.F.i 24 [.int .i64 (ρ.i .i64 1), .int .i64 (ρ.i .i64 2), .int .i64 (ρ.i .i64 3), .lst ((ρ.z.rl 0).drop (ρ.i .i64 1001).toNat)])), Go.Value.int .i64 (clampK .i64 (ρ.z.F.i 25 [.int .i64 (ρ.i .i64 1), .int .i64 (ρ.i .i64 2), .int .i64 (ρ.i .i64 3), .lst ((ρ.z.rl 0).drop (ρ.i .i64 1001).toNat)])), Go.Value.int .i64 (clampK .i64 (ρ.z.F.i 26 [.int .i64 (ρ.i .i64 1), .int .i64 (ρ.i .i64 2), .int .i64 (ρ.i .i64 3), .lst ((ρ.z.rl 0).drop (ρ.i .i64 1001).toNat)])), Go.Value.int .i64 (clampK .i64 (ρ.z.F.i 27 [.int .i64 (ρ.i .i64 1), .int .i64 (ρ.i .i64 2), .int .i64 (ρ.i .i64 3), .lst ((ρ.z.rl 0).drop (ρ.i .i64 1001).toNat)])), Go.Value.int .i64 (clampK .i64 (ρ.z.F.i 28 [.int .i64 (ρ.i .i64 1), .int .i64 (ρ.i .i64 2), .int .i64 (ρ.i .i64 3), .lst ((ρ.z.rl 0).drop (ρ.i .i64 1001).toNat)]))]] : LV)).length : Int) = ((ρ.i .i64 1005) + (1 : Int)) ∧ ((ρ.z.rl 0).length : Int) ≤ 500) ∧ ((2 * (ρ.z.rl 0).length + 10 + ((ρ.z.rl 0).length - ((ρ.i .i64 1001) + (clampK .i64 (ρ.z.F.i 29 [.int .i64 (ρ.i .i64 1), .int .i64 (ρ.i .i64 2), .int .i64 (ρ.i .i64 3), .lst ((ρ.z.rl 0).drop (ρ.i .i64 1001).toNat)]))).toNat) : Nat) < 2 * (ρ.z.rl 0).length + 10 + ((ρ.z.rl 0).length - (ρ.i .i64 1001).toNat)) from ?_)
 simp only [hF, pr20, pr21, pr22, pr23, pr24, pr25, pr26, pr27, pr28, pr29, eA_is, cA_is, fA_0, fA_1, fA_2, fA_3, fA_4, fA_5, fA_6, fA_7]
 obtain ⟨g, hl, hb⟩ := hi
 have q := gath_less g (by assumption)
 exact ⟨⟨gathA (by omega) g (by assumption), by rw [List.length_append, List.length_cons, List.length_nil]; omega, hb⟩, by omega⟩
theorem vcleach2_1 : VC TTleach invleach msleach 2 tleach2 wleach2_1 := by
 intro ρ kn hi hp
 have hi : ivleach2 ρ := hi
 unfold ivleach2 at hi
 have hF : ρ.z.F = oct.Φ := kn.F
 simp only [h_nil, h_cons, d_le, d_eq, d_not, d_var, d_lit, d_cel, d_leq, d_fn, d_and, d_iff, IE.den, LE.den, AL.den, lenV, true_and, and_true, hF, pr20, pr21, pr22, pr23, pr24, pr25, pr26, pr27, pr28, pr29, eA_is, cA_is, fA_0, fA_1, fA_2, fA_3, fA_4, fA_5, fA_6, fA_7] at hp
 obtain ⟨p1, p2, p3, p4, p5, p6, p7, p8, p9, p10⟩ := hp
 refine (show (Und (ρ.i .i64 1) (ρ.i .i64 2) (ρ.i .i64 3) (ρ.z.rl 0) (ρ.l 1002) (ρ.l 1004) (0 : Int) (0 : Int) ∧ ((ρ.l 1004).length : Int) = (ρ.i .i64 1005) ∧ ((ρ.z.rl 0).length : Int) ≤ 500 ∧ ((0 : Int) = 0 ∨ (0 : Int) < (ρ.i .i64 4))) ∧ (((ρ.z.rl 0).length + 6 + ((ρ.z.rl 0).length - (0 : Int).toNat) : Nat) < 2 * (ρ.z.rl 0).length + 10 + ((ρ.z.rl 0).length - (ρ.i .i64 1001).toNat)) from ?_)
 obtain ⟨g, hl, hb⟩ := hi
 exact ⟨⟨undA0 (whole_of g (by assumption)) rfl rfl, hl, hb, .inl rfl⟩, by omega⟩
def ivleach3 (ρ : Rho) : Prop := Und (ρ.i .i64 1) (ρ.i .i64 2) (ρ.i .i64 3) (ρ.z.rl 0) (ρ.l 1002) (ρ.l 1004) (ρ.i .i64 31394) (ρ.i .i64 31393) ∧ ((ρ.l 1004).length : Int) = (ρ.i .i64 1005) ∧ ((ρ.z.rl 0).length : Int) ≤ 500 ∧ ((ρ.i .i64 31394) = 0 ∨ (ρ.i .i64 31394) < (ρ.i .i64 4))
theorem vcgleach3_0 : VC TTleach invleach msleach 3 tleach3 wleach3_0 ∧ VC TTleach invleach msleach 3 tleach3 wleach3_3 ∧ VC TTleach invleach msleach 3 tleach3 wleach3_6 ∧ VC TTleach invleach msleach 3 tleach3 wleach3_8 ∧ VC TTleach invleach msleach 3 tleach3 wleach3_9 ∧ VC TTleach invleach msleach 3 tleach3 wleach3_10 ∧ VC TTleach invleach msleach 3 tleach3 wleach3_11 ∧ VC TTleach invleach msleach 3 tleach3 wleach3_12 ∧ VC TTleach invleach msleach 3 tleach3 wleach3_13 ∧ VC TTleach invleach msleach 3 tleach3 wleach3_14 ∧ VC TTleach invleach msleach 3 tleach3 wleach3_15 ∧ VC TTleach invleach msleach 3 tleach3 wleach3_16 ∧ VC TTleach invleach msleach 3 tleach3 wleach3_18 ∧ VC TTleach invleach msleach 3 tleach3 wleach3_20 ∧ VC TTleach invleach msleach 3 tleach3 wleach3_22 ∧ VC TTleach invleach msleach 3 tleach3 wleach3_24 ∧ VC TTleach invleach msleach 3 tleach3 wleach3_25 ∧ VC TTleach invleach msleach 3 tleach3 wleach3_28 ∧ VC TTleach invleach msleach 3 tleach3 wleach3_31 ∧ VC TTleach invleach msleach 3 tleach3 wleach3_33 ∧ VC TTleach invleach msleach 3 tleach3 wleach3_34 ∧ VC TTleach invleach msleach 3 tleach3 wleach3_35 ∧ VC TTleach invleach msleach 3 tleach3 wleach3_36 ∧ VC TTleach invleach msleach 3 tleach3 wleach3_37 ∧ VC TTleach invleach msleach 3 tleach3 wleach3_38 ∧ VC TTleach invleach msleach 3 tleach3 wleach3_39 ∧ VC TTleach invleach msleach 3 tleach3 wleach3_40 ∧ VC TTleach invleach msleach 3 tleach3 wleach3_41 ∧ VC TTleach invleach msleach 3 tleach3 wleach3_43 ∧ VC TTleach invleach msleach 3 tleach3 wleach3_45 ∧ VC TTleach invleach msleach 3 tleach3 wleach3_47 ∧ VC TTleach invleach msleach 3 tleach3 wleach3_49 := by
  refine ⟨?_, ?_, ?_, ?_, ?_, ?_, ?_, ?_, ?_, ?_, ?_, ?_, ?_, ?_, ?_, ?_, ?_, ?_, ?_, ?_, ?_, ?_, ?_, ?_, ?_, ?_, ?_, ?_, ?_, ?_, ?_, ?_⟩
  all_goals
    intro ρ kn hi hp
    have hi : ivleach3 ρ := hi
    unfold ivleach3 at hi
    have hF : ρ.z.F = oct.Φ := kn.F
    simp only [h_nil, h_cons, d_le, d_eq, d_not, d_var, d_lit, d_cel, d_leq, d_fn, d_and, d_iff, IE.den, LE.den, AL.den, lenV, true_and, and_true, hF, pr20, pr21, pr22, pr23, pr24, pr25, pr26, pr27, pr28, pr29, eA_is, cA_is, fA_0, fA_1, fA_2, fA_3, fA_4, fA_5, fA_6, fA_7] at hp
    have p1 := And.left hp
    replace hp := And.right hp
    repeat (have _ := And.left hp; replace hp := And.right hp)
    exfalso
    all_goals
      obtain ⟨u, hl, hb, hm⟩ := hi
      have hf := und_f u
      have hk0 := u.k0
      have hk1 := u.k1
      first
        | omega
        | (exfalso; exact eA_nil (by assumption))
        | (have k := und_end u (by first | assumption | (rw [drop_nil (by omega)]; assumption))
           omega)
        | (have hlt := und_lt u (by assumption)
           have ha := und_at u (by assumption)
           first
             | omega
             | exact absurd ha.symm (by assumption)
             | exact absurd (und_x u (by assumption) 0 (by omega)).symm (by assumption)
             | exact absurd (und_x u (by assumption) 1 (by omega)).symm (by assumption)
             | exact absurd (und_x u (by assumption) 2 (by omega)).symm (by assumption)
             | exact absurd (und_x u (by assumption) 3 (by omega)).symm (by assumption)
             | exact absurd (und_x u (by assumption) 4 (by omega)).symm (by assumption)
             | exact absurd (und_x u (by assumption) 5 (by omega)).symm (by assumption)
             | exact absurd (und_x u (by assumption) 6 (by omega)).symm (by assumption)
             | exact absurd (und_x u (by assumption) 7 (by omega)).symm (by assumption))
theorem vcleach3_1 : VC TTleach invleach msleach 3 tleach3 wleach3_1 := by
 intro ρ kn hi hp
 have hi : ivleach3 ρ := hi
 unfold ivleach3 at hi
 have hF : ρ.z.F = oct.Φ := kn.F
 simp only [h_nil, h_cons, d_le, d_eq, d_not, d_var, d_lit, d_cel, d_leq, d_fn, d_and, d_iff, IE.den, LE.den, AL.den, lenV, true_and, and_true, hF, pr20, pr21, pr22, pr23, pr24, pr25, pr26, pr27, pr28, pr29, eA_is, cA_is, fA_0, fA_1, fA_2, fA_3, fA_4, fA_5, fA_6, fA_7] at hp
 obtain ⟨p1, p2, p3, p4, p5, p6, p7, p8, p9, p10, p11, p12, p13, p14, p15, p16, p17, p18, p19, p20, p21, p22, p23, p24, p25⟩ := hp
 refine (show (Whole (ρ.i .i64 1) (ρ.i .i64 2) (ρ.i .i64 3) (ρ.z.rl 0) (ρ.l 1002) (ρ.l 1004) ∧ ((ρ.l 1004).length : Int) = (ρ.i .i64 1005) ∧ ((ρ.z.rl 0).length : Int) ≤ 500) ∧ (((ρ.z.rl 0).length + 5 : Nat) < (ρ.z.rl 0).length + 6 + ((ρ.z.rl 0).length - (ρ.i .i64 31393).toNat)) from ?_)
 obtain ⟨u, hl, hb, hm⟩ := hi
 exact ⟨⟨u.w, hl, hb⟩, by omega⟩
theorem vcleach3_2 : VC TTleach invleach msleach 3 tleach3 wleach3_2 := by
 intro ρ kn hi hp
 have hi : ivleach3 ρ := hi
 unfold ivleach3 at hi
 have hF : ρ.z.F = oct.Φ := kn.F
 simp only [h_nil, h_cons, d_le, d_eq, d_not, d_var, d_lit, d_cel, d_leq, d_fn, d_and, d_iff, IE.den, LE.den, AL.den, lenV, true_and, and_true, hF, pr20, pr21, pr22, pr23, pr24, pr25, pr26, pr27, pr28, pr29, eA_is, cA_is, fA_0, fA_1, fA_2, fA_3, fA_4, fA_5, fA_6, fA_7] at hp
 obtain ⟨p1, p2, p3, p4, p5, p6, p7, p8, p9, p10, p11, p12, p13, p14, p15, p16, p17, p18, p19, p20, p21, p22, p23, p24, p25, p26⟩ := hp
 refine (show (Whole (ρ.i .i64 1) (ρ.i .i64 2) (ρ.i .i64 3) (ρ.z.rl 0) (ρ.l 1002) (ρ.l 1004) ∧ ((ρ.l 1004).length : Int) = (ρ.i .i64 1005) ∧ ((ρ.z.rl 0).length : Int) ≤ 500) ∧ (((ρ.z.rl 0).length + 5 : Nat) < (ρ.z.rl 0).length + 6 + ((ρ.z.rl 0).length - (ρ.i .i64 31393).toNat)) from ?_)
 obtain ⟨u, hl, hb, hm⟩ := hi
 exact ⟨⟨u.w, hl, hb⟩, by omega⟩
theorem vcleach3_4 : VC TTleach invleach msleach 3 tleach3 wleach3_4 := by
 intro ρ kn hi hp
 have hi : ivleach3 ρ := hi
 unfold ivleach3 at hi
 have hF : ρ.z.F = oct.Φ := kn.F
 simp only [h_nil, h_cons, d_le, d_eq, d_not, d_var, d_lit, d_cel, d_leq, d_fn, d_and, d_iff, IE.den, LE.den, AL.den, lenV, true_and, and_true, hF, pr20, pr21, pr22, pr23, pr24, pr25, pr26, pr27, pr28, pr29, eA_is, cA_is, fA_0, fA_1, fA_2, fA_3, fA_4, fA_5, fA_6, fA_7] at hp
 obtain ⟨p1, p2, p3, p4, p5, p6, p7, p8, p9, p10, p11, p12, p13, p14, p15, p16, p17, p18, p19, p20, p21, p22, p23, p24, p25⟩ := hp
 refine (show (Whole (ρ.i .i64 1) (ρ.i .i64 2) (ρ.i .i64 3) (ρ.z.rl 0) (ρ.l 1002) (ρ.l 1004) ∧ ((ρ.l 1004).length : Int) = (ρ.i .i64 1005) ∧ ((ρ.z.rl 0).length : Int) ≤ 500) ∧ (((ρ.z.rl 0).length + 5 : Nat) < (ρ.z.rl 0).length + 6 + ((ρ.z.rl 0).length - (ρ.i .i64 31393).toNat)) from ?_)
 obtain ⟨u, hl, hb, hm⟩ := hi
 exact ⟨⟨u.w, hl, hb⟩, by omega⟩
theorem vcleach3_5 : VC TTleach invleach msleach 3 tleach3 wleach3_5 := by
 intro ρ kn hi hp
 have hi : ivleach3 ρ := hi
 unfold ivleach3 at hi
 have hF : ρ.z.F = oct.Φ := kn.F
 simp only [h_nil, h_cons, d_le, d_eq, d_not, d_var, d_lit, d_cel, d_leq, d_fn, d_and, d_iff, IE.den, LE.den, AL.den, lenV, true_and, and_true, hF, pr20, pr21, pr22, pr23, pr24, pr25, pr26, pr27, pr28, pr29, eA_is, cA_is, fA_0, fA_1, fA_2, fA_3, fA_4, fA_5, fA_6, fA_7] at hp
 obtain ⟨p1, p2, p3, p4, p5, p6, p7, p8, p9, p10, p11, p12, p13, p14, p15, p16, p17, p18, p19, p20, p21, p22, p23, p24, p25, p26⟩ := hp
 refine (show (Whole (ρ.i .i64 1) (ρ.i .i64 2) (ρ.i .i64 3) (ρ.z.rl 0) (ρ.l 1002) (ρ.l 1004) ∧ ((ρ.l 1004).length : Int) = (ρ.i .i64 1005) ∧ ((ρ.z.rl 0).length : Int) ≤ 500) ∧ (((ρ.z.rl 0).length + 5 : Nat) < (ρ.z.rl 0).length + 6 + ((ρ.z.rl 0).length - (ρ.i .i64 31393).toNat)) from ?_)
 obtain ⟨u, hl, hb, hm⟩ := hi
 exact ⟨⟨u.w, hl, hb⟩, by omega⟩
theorem vcleach3_7 : VC TTleach invleach msleach 3 tleach3 wleach3_7 := by
  intro ρ kn hi hp
  have hi : ivleach3 ρ := hi
  unfold ivleach3 at hi
  have hF : ρ.z.F = oct.Φ := kn.F
  simp only [h_nil, h_cons, d_le, d_eq, d_not, d_var, d_lit, d_cel, d_leq, d_fn, d_and, d_iff, IE.den, LE.den, AL.den, lenV, true_and, and_true, hF, pr20, pr21, pr22, pr23, pr24, pr25, pr26, pr27, pr28, pr29, eA_is, cA_is, fA_0, fA_1, fA_2, fA_3, fA_4, fA_5, fA_6, fA_7] at hp
  obtain ⟨p1, p2, p3, p4, p5, p6, p7, p8, p9, p10, p11, p12, p13, p14, p15, p16, p17, p18, p19, p20, p21, p22, p23⟩ := hp
  refine (show (Und (ρ.i .i64 1) (ρ.i .i64 2) (ρ.i .i64 3) (ρ.z.rl 0) (ρ.l 1002) (ρ.l 1004) ((ρ.i .i64 31394) + (1 : Int)) ((ρ.i .i64 31393) + (clampK .i64 (ρ.z.F.i 29 [.int .i64 (ρ.i .i64 1), .int .i64 (ρ.i .i64 2), .int .i64 (ρ.i .i64 3), .lst ([] : LV)]))) ∧ ((ρ.l 1004).length : Int) = (ρ.i .i64 1005) ∧ ((ρ.z.rl 0).length : Int) ≤ 500 ∧ (((ρ.i .i64 31394) + (1 : Int)) = 0 ∨ ((ρ.i .i64 31394) + (1 : Int)) < (ρ.i .i64 4))) ∧ (((ρ.z.rl 0).length + 6 + ((ρ.z.rl 0).length - ((ρ.i .i64 31393) + (clampK .i64 (ρ.z.F.i 29 [.int .i64 (ρ.i .i64 1), .int .i64 (ρ.i .i64 2), .int .i64 (ρ.i .i64 3), .lst ([] : LV)]))).toNat) : Nat) < (ρ.z.rl 0).length + 6 + ((ρ.z.rl 0).length - (ρ.i .i64 31393).toNat)) from ?_)
  simp only [hF, pr20, pr21, pr22, pr23, pr24, pr25, pr26, pr27, pr28, pr29, eA_is, cA_is, fA_0, fA_1, fA_2, fA_3, fA_4, fA_5, fA_6, fA_7]
  obtain ⟨u, hl, hb, hm⟩ := hi
  first
    | (exfalso; exact eA_nil (by assumption))
    | (have q := und_less u (by assumption)
       exact ⟨⟨und_next u (by assumption), hl, hb, by omega⟩, by omega⟩)
theorem vcleach3_17 : VC TTleach invleach msleach 3 tleach3 wleach3_17 := by
 intro ρ kn hi hp
 have hi : ivleach3 ρ := hi
 unfold ivleach3 at hi
 have hF : ρ.z.F = oct.Φ := kn.F
 simp only [h_nil, h_cons, d_le, d_eq, d_not, d_var, d_lit, d_cel, d_leq, d_fn, d_and, d_iff, IE.den, LE.den, AL.den, lenV, true_and, and_true, hF, pr20, pr21, pr22, pr23, pr24, pr25, pr26, pr27, pr28, pr29, eA_is, cA_is, fA_0, fA_1, fA_2, fA_3, fA_4, fA_5, fA_6, fA_7] at hp
 obtain ⟨p1, p2, p3, p4, p5, p6, p7, p8, p9, p10, p11, p12, p13, p14, p15⟩ := hp
 refine (show (Whole (ρ.i .i64 1) (ρ.i .i64 2) (ρ.i .i64 3) (ρ.z.rl 0) (ρ.l 1002) (ρ.l 1004) ∧ ((ρ.l 1004).length : Int) = (ρ.i .i64 1005) ∧ ((ρ.z.rl 0).length : Int) ≤ 500) ∧ (((ρ.z.rl 0).length + 5 : Nat) < (ρ.z.rl 0).length + 6 + ((ρ.z.rl 0).length - (ρ.i .i64 31393).toNat)) from ?_)
 obtain ⟨u, hl, hb, hm⟩ := hi
 exact ⟨⟨u.w, hl, hb⟩, by omega⟩
theorem vcleach3_19 : VC TTleach invleach msleach 3 tleach3 wleach3_19 := by
 intro ρ kn hi hp
 have hi : ivleach3 ρ := hi
 unfold ivleach3 at hi
 have hF : ρ.z.F = oct.Φ := kn.F
 simp only [h_nil, h_cons, d_le, d_eq, d_not, d_var, d_lit, d_cel, d_leq, d_fn, d_and, d_iff, IE.den, LE.den, AL.den, lenV, true_and, and_true, hF, pr20, pr21, pr22, pr23, pr24, pr25, pr26, pr27, pr28, pr29, eA_is, cA_is, fA_0, fA_1, fA_2, fA_3, fA_4, fA_5, fA_6, fA_7] at hp
 obtain ⟨p1, p2, p3, p4, p5, p6, p7, p8, p9, p10, p11, p12, p13, p14, p15⟩ := hp
 refine (show (Whole (ρ.i .i64 1) (ρ.i .i64 2) (ρ.i .i64 3) (ρ.z.rl 0) (ρ.l 1002) (ρ.l 1004) ∧ ((ρ.l 1004).length : Int) = (ρ.i .i64 1005) ∧ ((ρ.z.rl 0).length : Int) ≤ 500) ∧ (((ρ.z.rl 0).length + 5 : Nat) < (ρ.z.rl 0).length + 6 + ((ρ.z.rl 0).length - (ρ.i .i64 31393).toNat)) from ?_)
 obtain ⟨u, hl, hb, hm⟩ := hi
 exact ⟨⟨u.w, hl, hb⟩, by omega⟩
theorem vcleach3_21 : VC TTleach invleach msleach 3 tleach3 wleach3_21 := by
 intro ρ kn hi hp
 have hi : ivleach3 ρ := hi
 unfold ivleach3 at hi
 have hF : ρ.z.F = oct.Φ := kn.F
 simp only [h_nil, h_cons, d_le, d_eq, d_not, d_var, d_lit, d_cel, d_leq, d_fn, d_and, d_iff, IE.den, LE.den, AL.den, lenV, true_and, and_true, hF, pr20, pr21, pr22, pr23, pr24, pr25, pr26, pr27, pr28, pr29, eA_is, cA_is, fA_0, fA_1, fA_2, fA_3, fA_4, fA_5, fA_6, fA_7] at hp
 obtain ⟨p1, p2, p3, p4, p5, p6, p7, p8, p9, p10, p11, p12, p13, p14, p15⟩ := hp
 refine (show (Whole (ρ.i .i64 1) (ρ.i .i64 2) (ρ.i .i64 3) (ρ.z.rl 0) (ρ.l 1002) (ρ.l 1004) ∧ ((ρ.l 1004).length : Int) = (ρ.i .i64 1005) ∧ ((ρ.z.rl 0).length : Int) ≤ 500) ∧ (((ρ.z.rl 0).length + 5 : Nat) < (ρ.z.rl 0).length + 6 + ((ρ.z.rl 0).length - (ρ.i .i64 31393).toNat)) from ?_)
 obtain ⟨u, hl, hb, hm⟩ := hi
 exact ⟨⟨u.w, hl, hb⟩, by omega⟩
theorem vcleach3_23 : VC TTleach invleach msleach 3 tleach3 wleach3_23 := by
 intro ρ kn hi hp
 have hi : ivleach3 ρ := hi
 unfold ivleach3 at hi
 have hF : ρ.z.F = oct.Φ := kn.F
 simp only [h_nil, h_cons, d_le, d_eq, d_not, d_var, d_lit, d_cel, d_leq, d_fn, d_and, d_iff, IE.den, LE.den, AL.den, lenV, true_and, and_true, hF, pr20, pr21, pr22, pr23, pr24, pr25, pr26, pr27, pr28, pr29, eA_is, cA_is, fA_0, fA_1, fA_2, fA_3, fA_4, fA_5, fA_6, fA_7] at hp
 obtain ⟨p1, p2, p3, p4, p5, p6, p7, p8, p9, p10, p11, p12, p13, p14, p15⟩ := hp
 refine (show (Whole (ρ.i .i64 1) (ρ.i .i64 2) (ρ.i .i64 3) (ρ.z.rl 0) (ρ.l 1002) (ρ.l 1004) ∧ ((ρ.l 1004).length : Int) = (ρ.i .i64 1005) ∧ ((ρ.z.rl 0).length : Int) ≤ 500) ∧ (((ρ.z.rl 0).length + 5 : Nat) < (ρ.z.rl 0).length + 6 + ((ρ.z.rl 0).length - (ρ.i .i64 31393).toNat)) from ?_)
 obtain ⟨u, hl, hb, hm⟩ := hi
 exact ⟨⟨u.w, hl, hb⟩, by omega⟩
theorem vcleach3_26 : VC TTleach invleach msleach 3 tleach3 wleach3_26 := by
 intro ρ kn hi hp
 have hi : ivleach3 ρ := hi
 unfold ivleach3 at hi
 have hF : ρ.z.F = oct.Φ := kn.F
 simp only [h_nil, h_cons, d_le, d_eq, d_not, d_var, d_lit, d_cel, d_leq, d_fn, d_and, d_iff, IE.den, LE.den, AL.den, lenV, true_and, and_true, hF, pr20, pr21, pr22, pr23, pr24, pr25, pr26, pr27, pr28, pr29, eA_is, cA_is, fA_0, fA_1, fA_2, fA_3, fA_4, fA_5, fA_6, fA_7] at hp
 obtain ⟨p1, p2, p3, p4, p5, p6, p7, p8, p9, p10, p11, p12, p13, p14, p15, p16, p17, p18, p19, p20, p21, p22, p23, p24, p25⟩ := hp
 refine (show (Whole (ρ.i .i64 1) (ρ.i .i64 2) (ρ.i .i64 3) (ρ.z.rl 0) (ρ.l 1002) (ρ.l 1004) ∧ ((ρ.l 1004).length : Int) = (ρ.i .i64 1005) ∧ ((ρ.z.rl 0).length : Int) ≤ 500) ∧ (((ρ.z.rl 0).length + 5 : Nat) < (ρ.z.rl 0).length + 6 + ((ρ.z.rl 0).length - (ρ.i .i64 31393).toNat)) from ?_)
 obtain ⟨u, hl, hb, hm⟩ := hi
 exact ⟨⟨u.w, hl, hb⟩, by omega⟩
theorem vcleach3_27 : VC TTleach invleach msleach 3 tleach3 wleach3_27 := by
 intro ρ kn hi hp
 have hi : ivleach3 ρ := hi
 unfold ivleach3 at hi
 have hF : ρ.z.F = oct.Φ := kn.F
 simp only [h_nil, h_cons, d_le, d_eq, d_not, d_var, d_lit, d_cel, d_leq, d_fn, d_and, d_iff, IE.den, LE.den, AL.den, lenV, true_and, and_true, hF, pr20, pr21, pr22, pr23, pr24, pr25, pr26, pr27, pr28, pr29, eA_is, cA_is, fA_0, fA_1, fA_2, fA_3, fA_4, fA_5, fA_6, fA_7] at hp
 obtain ⟨p1, p2, p3, p4, p5, p6, p7, p8, p9, p10, p11, p12, p13, p14, p15, p16, p17, p18, p19, p20, p21, p22, p23, p24, p25, p26⟩ := hp
 refine (show (Whole (ρ.i .i64 1) (ρ.i .i64 2) (ρ.i .i64 3) (ρ.z.rl 0) (ρ.l 1002) (ρ.l 1004) ∧ ((ρ.l 1004).length : Int) = (ρ.i .i64 1005) ∧ ((ρ.z.rl 0).length : Int) ≤ 500) ∧ (((ρ.z.rl 0).length + 5 : Nat) < (ρ.z.rl 0).length + 6 + ((ρ.z.rl 0).length - (ρ.i .i64 31393).toNat)) from ?_)
 obtain ⟨u, hl, hb, hm⟩ := hi
 exact ⟨⟨u.w, hl, hb⟩, by omega⟩
theorem vcleach3_29 : VC TTleach invleach msleach 3 tleach3 wleach3_29 := by
 intro ρ kn hi hp
 have hi : ivleach3 ρ := hi
 unfold ivleach3 at hi
 have hF : ρ.z.F = oct.Φ := kn.F
 simp only [h_nil, h_cons, d_le, d_eq, d_not, d_var, d_lit, d_cel, d_leq, d_fn, d_and, d_iff, IE.den, LE.den, AL.den, lenV, true_and, and_true, hF, pr20, pr21, pr22, pr23, pr24, pr25, pr26, pr27, pr28, pr29, eA_is, cA_is, fA_0, fA_1, fA_2, fA_3, fA_4, fA_5, fA_6, fA_7] at hp
 obtain ⟨p1, p2, p3, p4, p5, p6, p7, p8, p9, p10, p11, p12, p13, p14, p15, p16, p17, p18, p19, p20, p21, p22, p23, p24, p25⟩ := hp
 refine (show (Whole (ρ.i .i64 1) (ρ.i .i64 2) (ρ.i .i64 3) (ρ.z.rl 0) (ρ.l 1002) (ρ.l 1004) ∧ ((ρ.l 1004).length : Int) = (ρ.i .i64 1005) ∧ ((ρ.z.rl 0).length : Int) ≤ 500) ∧ (((ρ.z.rl 0).length + 5 : Nat) < (ρ.z.rl 0).length + 6 + ((ρ.z.rl 0).length - (ρ.i .i64 31393).toNat)) from ?_)
 obtain ⟨u, hl, hb, hm⟩ := hi
 exact ⟨⟨u.w, hl, hb⟩, by omega⟩
theorem vcleach3_30 : VC TTleach invleach msleach 3 tleach3 wleach3_30 := by
 intro ρ kn hi hp
 have hi : ivleach3 ρ := hi
 unfold ivleach3 at hi
 have hF : ρ.z.F = oct.Φ := kn.F
 simp only [h_nil, h_cons, d_le, d_eq, d_not, d_var, d_lit, d_cel, d_leq, d_fn, d_and, d_iff, IE.den, LE.den, AL.den, lenV, true_and, and_true, hF, pr20, pr21, pr22, pr23, pr24, pr25, pr26, pr27, pr28, pr29, eA_is, cA_is, fA_0, fA_1, fA_2, fA_3, fA_4, fA_5, fA_6, fA_7] at hp
 obtain ⟨p1, p2, p3, p4, p5, p6, p7, p8, p9, p10, p11, p12, p13, p14, p15, p16, p17, p18, p19, p20, p21, p22, p23, p24, p25, p26⟩ := hp
 refine (show (Whole (ρ.i .i64 1) (ρ.i .i64 2) (ρ.i .i64 3) (ρ.z.rl 0) (ρ.l 1002) (ρ.l 1004) ∧ ((ρ.l 1004).length : Int) = (ρ.i .i64 1005) ∧ ((ρ.z.rl 0).length : Int) ≤ 500) ∧ (((ρ.z.rl 0).length + 5 : Nat) < (ρ.z.rl 0).length + 6 + ((ρ.z.rl 0).length - (ρ.i .i64 31393).toNat)) from ?_)
 obtain ⟨u, hl, hb, hm⟩ := hi
 exact ⟨⟨u.w, hl, hb⟩, by omega⟩
theorem vcleach3_32 : VC TTleach invleach msleach 3 tleach3 wleach3_32 := by
  intro ρ kn hi hp
  have hi : ivleach3 ρ := hi
  unfold ivleach3 at hi
  have hF : ρ.z.F = oct.Φ := kn.F
  simp only [h_nil, h_cons, d_le, d_eq, d_not, d_var, d_lit, d_cel, d_leq, d_fn, d_and, d_iff, IE.den, LE.den, AL.den, lenV, true_and, and_true, hF, pr20, pr21, pr22, pr23, pr24, pr25, pr26, pr27, pr28, pr29, eA_is, cA_is, fA_0, fA_1, fA_2, fA_3, fA_4, fA_5, fA_6, fA_7] at hp
  obtain ⟨p1, p2, p3, p4, p5, p6, p7, p8, p9, p10, p11, p12, p13, p14, p15, p16, p17, p18, p19, p20, p21, p22, p23⟩ := hp
  refine (show (Und (ρ.i .i64 1) (ρ.i .i64 2) (ρ.i .i64 3) (ρ.z.rl 0) (ρ.l 1002) (ρ.l 1004) ((ρ.i .i64 31394) + (1 : Int)) ((ρ.i .i64 31393) + (clampK .i64 (ρ.z.F.i 29 [.int .i64 (ρ.i .i64 1), .int .i64 (ρ.i .i64 2), .int .i64 (ρ.i .i64 3), .lst ((ρ.z.rl 0).drop (ρ.i .i64 31393).toNat)]))) ∧ ((ρ.l 1004).length : Int) = (ρ.i .i64 1005) ∧ ((ρ.z.rl 0).length : Int) ≤ 500 ∧ (((ρ.i .i64 31394) + (1 : Int)) = 0 ∨ ((ρ.i .i64 31394) + (1 : Int)) < (ρ.i .i64 4))) ∧ (((ρ.z.rl 0).length + 6 + ((ρ.z.rl 0).length - ((ρ.i .i64 31393) + (clampK .i64 (ρ.z.F.i 29 [.int .i64 (ρ.i .i64 1), .int .i64 (ρ.i .i64 2), .int .i64 (ρ.i .i64 3), .lst ((ρ.z.rl 0).drop (ρ.i .i64 31393).toNat)]))).toNat) : Nat) < (ρ.z.rl 0).length + 6 + ((ρ.z.rl 0).length - (ρ.i .i64 31393).toNat)) from ?_)
  simp only [hF, pr20, pr21, pr22, pr23, pr24, pr25, pr26, pr27, pr28, pr29, eA_is, cA_is, fA_0, fA_1, fA_2, fA_3, fA_4, fA_5, fA_6, fA_7]
  obtain ⟨u, hl, hb, hm⟩ := hi
  first
    | (exfalso; exact eA_nil (by assumption))
    | (have q := und_less u (by assumption)
       exact ⟨⟨und_next u (by assumption), hl, hb, by omega⟩, by omega⟩)
theorem vcleach3_42 : VC TTleach invleach msleach 3 tleach3 wleach3_42 := by
 intro ρ kn hi hp
 have hi : ivleach3 ρ := hi
 unfold ivleach3 at hi
 have hF : ρ.z.F = oct.Φ := kn.F
 simp only [h_nil, h_cons, d_le, d_eq, d_not, d_var, d_lit, d_cel, d_leq, d_fn, d_and, d_iff, IE.den, LE.den, AL.den, lenV, true_and, and_true, hF, pr20, pr21, pr22, pr23, pr24, pr25, pr26, pr27, pr28, pr29, eA_is, cA_is, fA_0, fA_1, fA_2, fA_3, fA_4, fA_5, fA_6, fA_7] at hp
 obtain ⟨p1, p2, p3, p4, p5, p6, p7, p8, p9, p10, p11, p12, p13, p14, p15⟩ := hp
 refine (show (Whole (ρ.i .i64 1) (ρ.i .i64 2) (ρ.i .i64 3) (ρ.z.rl 0) (ρ.l 1002) (ρ.l 1004) ∧ ((ρ.l 1004).length : Int) = (ρ.i .i64 1005) ∧ ((ρ.z.rl 0).length : Int) ≤ 500) ∧ (((ρ.z.rl 0).length + 5 : Nat) < (ρ.z.rl 0).length + 6 + ((ρ.z.rl 0).length - (ρ.i .i64 31393).toNat)) from ?_)
 obtain ⟨u, hl, hb, hm⟩ := hi
 exact ⟨⟨u.w, hl, hb⟩, by omega⟩
theorem vcleach3_44 : VC TTleach invleach msleach 3 tleach3 wleach3_44 := by
 intro ρ kn hi hp
 have hi : ivleach3 ρ := hi
 unfold ivleach3 at hi
 have hF : ρ.z.F = oct.Φ := kn.F
 simp only [h_nil, h_cons, d_le, d_eq, d_not, d_var, d_lit, d_cel, d_leq, d_fn, d_and, d_iff, IE.den, LE.den, AL.den, lenV, true_and, and_true, hF, pr20, pr21, pr22, pr23, pr24, pr25, pr26, pr27, pr28, pr29, eA_is, cA_is, fA_0, fA_1, fA_2, fA_3, fA_4, fA_5, fA_6, fA_7] at hp
 obtain ⟨p1, p2, p3, p4, p5, p6, p7, p8, p9, p10, p11, p12, p13, p14, p15⟩ := hp
 refine (show (Whole (ρ.i .i64 1) (ρ.i .i64 2) (ρ.i .i64 3) (ρ.z.rl 0) (ρ.l 1002) (ρ.l 1004) ∧ ((ρ.l 1004).length : Int) = (ρ.i .i64 1005) ∧ ((ρ.z.rl 0).length : Int) ≤ 500) ∧ (((ρ.z.rl 0).length + 5 : Nat) < (ρ.z.rl 0).length + 6 + ((ρ.z.rl 0).length - (ρ.i .i64 31393).toNat)) from ?_)
 obtain ⟨u, hl, hb, hm⟩ := hi
 exact ⟨⟨u.w, hl, hb⟩, by omega⟩
theorem vcleach3_46 : VC TTleach invleach msleach 3 tleach3 wleach3_46 := by
 intro ρ kn hi hp
 have hi : ivleach3 ρ := hi
 unfold ivleach3 at hi
 have hF : ρ.z.F = oct.Φ := kn.F
 simp only [h_nil, h_cons, d_le, d_eq, d_not, d_var, d_lit, d_cel, d_leq, d_fn, d_and, d_iff, IE.den, LE.den, AL.den, lenV, true_and, and_true, hF, pr20, pr21, pr22, pr23, pr24, pr25, pr26, pr27, pr28, pr29, eA_is, cA_is, fA_0, fA_1, fA_2, fA_3, fA_4, fA_5, fA_6, fA_7] at hp
 obtain ⟨p1, p2, p3, p4, p5, p6, p7, p8, p9, p10, p11, p12, p13, p14, p15⟩ := hp
 refine (show (Whole (ρ.i .i64 1) (ρ.i .i64 2) (ρ.i .i64 3) (ρ.z.rl 0) (ρ.l 1002) (ρ.l 1004) ∧ ((ρ.l 1004).length : Int) = (ρ.i .i64 1005) ∧ ((ρ.z.rl 0).length : Int) ≤ 500) ∧ (((ρ.z.rl 0).length + 5 : Nat) < (ρ.z.rl 0).length + 6 + ((ρ.z.rl 0).length - (ρ.i .i64 31393).toNat)) from ?_)
 obtain ⟨u, hl, hb, hm⟩ := hi
 exact ⟨⟨u.w, hl, hb⟩, by omega⟩
theorem vcleach3_48 : VC TTleach invleach msleach 3 tleach3 wleach3_48 := by
 intro ρ kn hi hp
 have hi : ivleach3 ρ := hi
 unfold ivleach3 at hi
 have hF : ρ.z.F = oct.Φ := kn.F
 simp only [h_nil, h_cons, d_le, d_eq, d_not, d_var, d_lit, d_cel, d_leq, d_fn, d_and, d_iff, IE.den, LE.den, AL.den, lenV, true_and, and_true, hF, pr20, pr21, pr22, pr23, pr24, pr25, pr26, pr27, pr28, pr29, eA_is, cA_is, fA_0, fA_1, fA_2, fA_3, fA_4, fA_5, fA_6, fA_7] at hp
 obtain ⟨p1, p2, p3, p4, p5, p6, p7, p8, p9, p10, p11, p12, p13, p14, p15⟩ := hp
 refine (show (Whole (ρ.i .i64 1) (ρ.i .i64 2) (ρ.i .i64 3) (ρ.z.rl 0) (ρ.l 1002) (ρ.l 1004) ∧ ((ρ.l 1004).length : Int) = (ρ.i .i64 1005) ∧ ((ρ.z.rl 0).length : Int) ≤ 500) ∧ (((ρ.z.rl 0).length + 5 : Nat) < (ρ.z.rl 0).length + 6 + ((ρ.z.rl 0).length - (ρ.i .i64 31393).toNat)) from ?_)
 obtain ⟨u, hl, hb, hm⟩ := hi
 exact ⟨⟨u.w, hl, hb⟩, by omega⟩
def ivleach4 (ρ : Rho) : Prop := Whole (ρ.i .i64 1) (ρ.i .i64 2) (ρ.i .i64 3) (ρ.z.rl 0) (ρ.l 1002) (ρ.l 1004) ∧ ((ρ.l 1004).length : Int) = (ρ.i .i64 1005) ∧ ((ρ.z.rl 0).length : Int) ≤ 500
theorem vcleach4_0 : VC TTleach invleach msleach 4 tleach4 wleach4_0 := by
 intro ρ kn hi hp
 have hi : ivleach4 ρ := hi
 unfold ivleach4 at hi
 have hF : ρ.z.F = oct.Φ := kn.F
 simp only [h_nil, h_cons, d_le, d_eq, d_not, d_var, d_lit, d_cel, d_leq, d_fn, d_and, d_iff, IE.den, LE.den, AL.den, lenV, true_and, and_true, hF, pr20, pr21, pr22, pr23, pr24, pr25, pr26, pr27, pr28, pr29, eA_is, cA_is, fA_0, fA_1, fA_2, fA_3, fA_4, fA_5, fA_6, fA_7] at hp
 obtain ⟨p1, p2, p3, p4⟩ := hp
 refine (show (Und (ρ.i .i64 1) (ρ.i .i64 2) (ρ.i .i64 3) (ρ.z.rl 0) (ρ.l 1002) (ρ.l 1004) (0 : Int) (0 : Int) ∧ ((ρ.l 1004).length : Int) = (ρ.i .i64 1005) ∧ ((ρ.z.rl 0).length : Int) ≤ 500) ∧ (((ρ.z.rl 0).length - (0 : Int).toNat : Nat) < (ρ.z.rl 0).length + 5) from ?_)
 obtain ⟨w, hl, hb⟩ := hi
 exact ⟨⟨undA0 w rfl rfl, hl, hb⟩, by omega⟩
def ivleach5 (ρ : Rho) : Prop := Und (ρ.i .i64 1) (ρ.i .i64 2) (ρ.i .i64 3) (ρ.z.rl 0) (ρ.l 1002) (ρ.l 1004) (ρ.i .i64 11394) (ρ.i .i64 11393) ∧ ((ρ.l 1004).length : Int) = (ρ.i .i64 1005) ∧ ((ρ.z.rl 0).length : Int) ≤ 500
theorem vcgleach5_0 : VC TTleach invleach msleach 5 tleach5 wleach5_0 ∧ VC TTleach invleach msleach 5 tleach5 wleach5_2 ∧ VC TTleach invleach msleach 5 tleach5 wleach5_3 ∧ VC TTleach invleach msleach 5 tleach5 wleach5_4 ∧ VC TTleach invleach msleach 5 tleach5 wleach5_5 ∧ VC TTleach invleach msleach 5 tleach5 wleach5_6 ∧ VC TTleach invleach msleach 5 tleach5 wleach5_7 ∧ VC TTleach invleach msleach 5 tleach5 wleach5_8 ∧ VC TTleach invleach msleach 5 tleach5 wleach5_9 ∧ VC TTleach invleach msleach 5 tleach5 wleach5_10 ∧ VC TTleach invleach msleach 5 tleach5 wleach5_12 ∧ VC TTleach invleach msleach 5 tleach5 wleach5_13 ∧ VC TTleach invleach msleach 5 tleach5 wleach5_15 ∧ VC TTleach invleach msleach 5 tleach5 wleach5_16 ∧ VC TTleach invleach msleach 5 tleach5 wleach5_17 ∧ VC TTleach invleach msleach 5 tleach5 wleach5_18 ∧ VC TTleach invleach msleach 5 tleach5 wleach5_19 ∧ VC TTleach invleach msleach 5 tleach5 wleach5_20 ∧ VC TTleach invleach msleach 5 tleach5 wleach5_21 ∧ VC TTleach invleach msleach 5 tleach5 wleach5_22 ∧ VC TTleach invleach msleach 5 tleach5 wleach5_23 ∧ VC TTleach invleach msleach 5 tleach5 wleach5_25 := by
  refine ⟨?_, ?_, ?_, ?_, ?_, ?_, ?_, ?_, ?_, ?_, ?_, ?_, ?_, ?_, ?_, ?_, ?_, ?_, ?_, ?_, ?_, ?_⟩
  all_goals
    intro ρ kn hi hp
    have hi : ivleach5 ρ := hi
    unfold ivleach5 at hi
    have hF : ρ.z.F = oct.Φ := kn.F
    simp only [h_nil, h_cons, d_le, d_eq, d_not, d_var, d_lit, d_cel, d_leq, d_fn, d_and, d_iff, IE.den, LE.den, AL.den, lenV, true_and, and_true, hF, pr20, pr21, pr22, pr23, pr24, pr25, pr26, pr27, pr28, pr29, eA_is, cA_is, fA_0, fA_1, fA_2, fA_3, fA_4, fA_5, fA_6, fA_7] at hp
    have p1 := And.left hp
    replace hp := And.right hp
    repeat (have _ := And.left hp; replace hp := And.right hp)
    exfalso
    all_goals
      obtain ⟨u, hl, hb⟩ := hi
      have hf := und_f u
      have hk0 := u.k0
      have hk1 := u.k1
      first
        | omega
        | (exfalso; exact eA_nil (by assumption))
        | (have k := und_end u (by first | assumption | (rw [drop_nil (by omega)]; assumption))
           omega)
        | (have hlt := und_lt u (by assumption)
           have ha := und_at u (by assumption)
           first
             | omega
             | exact absurd ha.symm (by assumption)
             | exact absurd (und_x u (by assumption) 0 (by omega)).symm (by assumption)
             | exact absurd (und_x u (by assumption) 1 (by omega)).symm (by assumption)
             | exact absurd (und_x u (by assumption) 2 (by omega)).symm (by assumption)
             | exact absurd (und_x u (by assumption) 3 (by omega)).symm (by assumption)
             | exact absurd (und_x u (by assumption) 4 (by omega)).symm (by assumption)
             | exact absurd (und_x u (by assumption) 5 (by omega)).symm (by assumption)
             | exact absurd (und_x u (by assumption) 6 (by omega)).symm (by assumption)
             | exact absurd (und_x u (by assumption) 7 (by omega)).symm (by assumption))
theorem vcleach5_1 : VC TTleach invleach msleach 5 tleach5 wleach5_1 := by
  intro ρ kn hi hp
  have hi : ivleach5 ρ := hi
  unfold ivleach5 at hi
  have hF : ρ.z.F = oct.Φ := kn.F
  simp only [h_nil, h_cons, d_le, d_eq, d_not, d_var, d_lit, d_cel, d_leq, d_fn, d_and, d_iff, IE.den, LE.den, AL.den, lenV, true_and, and_true, hF, pr20, pr21, pr22, pr23, pr24, pr25, pr26, pr27, pr28, pr29, eA_is, cA_is, fA_0, fA_1, fA_2, fA_3, fA_4, fA_5, fA_6, fA_7] at hp
  obtain ⟨p1, p2, p3, p4, p5, p6, p7, p8, p9, p10, p11, p12, p13, p14, p15, p16, p17, p18, p19, p20, p21, p22⟩ := hp
  refine (show (Und (ρ.i .i64 1) (ρ.i .i64 2) (ρ.i .i64 3) (ρ.z.rl 0) (ρ.l 1002) (ρ.l 1004) ((ρ.i .i64 11394) + (1 : Int)) ((ρ.i .i64 11393) + (clampK .i64 (ρ.z.F.i 29 [.int .i64 (ρ.i .i64 1), .int .i64 (ρ.i .i64 2), .int .i64 (ρ.i .i64 3), .lst ([] : LV)]))) ∧ ((ρ.l 1004).length : Int) = (ρ.i .i64 1005) ∧ ((ρ.z.rl 0).length : Int) ≤ 500) ∧ (((ρ.z.rl 0).length - ((ρ.i .i64 11393) + (clampK .i64 (ρ.z.F.i 29 [.int .i64 (ρ.i .i64 1), .int .i64 (ρ.i .i64 2), .int .i64 (ρ.i .i64 3), .lst ([] : LV)]))).toNat : Nat) < (ρ.z.rl 0).length - (ρ.i .i64 11393).toNat) from ?_)
  simp only [hF, pr20, pr21, pr22, pr23, pr24, pr25, pr26, pr27, pr28, pr29, eA_is, cA_is, fA_0, fA_1, fA_2, fA_3, fA_4, fA_5, fA_6, fA_7]
  obtain ⟨u, hl, hb⟩ := hi
  first
    | (exfalso; exact eA_nil (by assumption))
    | (have q := und_less u (by assumption)
       exact ⟨⟨und_next u (by assumption), hl, hb⟩, by omega⟩)
theorem vcleach5_14 : VC TTleach invleach msleach 5 tleach5 wleach5_14 := by
  intro ρ kn hi hp
  have hi : ivleach5 ρ := hi
  unfold ivleach5 at hi
  have hF : ρ.z.F = oct.Φ := kn.F
  simp only [h_nil, h_cons, d_le, d_eq, d_not, d_var, d_lit, d_cel, d_leq, d_fn, d_and, d_iff, IE.den, LE.den, AL.den, lenV, true_and, and_true, hF, pr20, pr21, pr22, pr23, pr24, pr25, pr26, pr27, pr28, pr29, eA_is, cA_is, fA_0, fA_1, fA_2, fA_3, fA_4, fA_5, fA_6, fA_7] at hp
  obtain ⟨p1, p2, p3, p4, p5, p6, p7, p8, p9, p10, p11, p12, p13, p14, p15, p16, p17, p18, p19, p20, p21, p22⟩ := hp
  refine (show (Und (ρ.i .i64 1) (ρ.i .i64 2) (ρ.i .i64 3) (ρ.z.rl 0) (ρ.l 1002) (ρ.l 1004) ((ρ.i .i64 11394) + (1 : Int)) ((ρ.i .i64 11393) + (clampK .i64 (ρ.z.F.i 29 [.int .i64 (ρ.i .i64 1), .int .i64 (ρ.i .i64 2), .int .i64 (ρ.i .i64 3), .lst ((ρ.z.rl 0).drop (ρ.i .i64 11393).toNat)]))) ∧ ((ρ.l 1004).length : Int) = (ρ.i .i64 1005) ∧ ((ρ.z.rl 0).length : Int) ≤ 500) ∧ (((ρ.z.rl 0).length - ((ρ.i .i64 11393) + (clampK .i64 (ρ.z.F.i 29 [.int .i64 (ρ.i .i64 1), .int .i64 (ρ.i .i64 2), .int .i64 (ρ.i .i64 3), .lst ((ρ.z.rl 0).drop (ρ.i .i64 11393).toNat)]))).toNat : Nat) < (ρ.z.rl 0).length - (ρ.i .i64 11393).toNat) from ?_)
  simp only [hF, pr20, pr21, pr22, pr23, pr24, pr25, pr26, pr27, pr28, pr29, eA_is, cA_is, fA_0, fA_1, fA_2, fA_3, fA_4, fA_5, fA_6, fA_7]
  obtain ⟨u, hl, hb⟩ := hi
  first
    | (exfalso; exact eA_nil (by assumption))
    | (have q := und_less u (by assumption)
       exact ⟨⟨und_next u (by assumption), hl, hb⟩, by omega⟩)
def ivleach6 (ρ : Rho) : Prop := ((ρ.z.rl 0).length : Int) ≤ 500 ∧ ¬ eA (ρ.i .i64 1) (ρ.i .i64 2) (ρ.i .i64 3) (ρ.z.rl 0) = 0
theorem vcleach6_0 : VC TTleach invleach msleach 6 tleach6 wleach6_0 := by
 intro ρ kn hi hp
 have hi : ivleach6 ρ := hi
 unfold ivleach6 at hi
 have hF : ρ.z.F = oct.Φ := kn.F
 simp only [h_nil, h_cons, d_le, d_eq, d_not, d_var, d_lit, d_cel, d_leq, d_fn, d_and, d_iff, IE.den, LE.den, AL.den, lenV, true_and, and_true, hF, pr20, pr21, pr22, pr23, pr24, pr25, pr26, pr27, pr28, pr29, eA_is, cA_is, fA_0, fA_1, fA_2, fA_3, fA_4, fA_5, fA_6, fA_7] at hp
 obtain ⟨p1, p2, p3, p4, p5, p6⟩ := hp
 exfalso
 all_goals exact absurd (by assumption) hi.2
theorem vcleach6_1 : VC TTleach invleach msleach 6 tleach6 wleach6_1 := by
 intro ρ kn hi hp
 have hi : ivleach6 ρ := hi
 unfold ivleach6 at hi
 have hF : ρ.z.F = oct.Φ := kn.F
 simp only [h_nil, h_cons, d_le, d_eq, d_not, d_var, d_lit, d_cel, d_leq, d_fn, d_and, d_iff, IE.den, LE.den, AL.den, lenV, true_and, and_true, hF, pr20, pr21, pr22, pr23, pr24, pr25, pr26, pr27, pr28, pr29, eA_is, cA_is, fA_0, fA_1, fA_2, fA_3, fA_4, fA_5, fA_6, fA_7] at hp
 obtain ⟨p1, p2, p3, p4, p5, p6, p7⟩ := hp
 refine (show (((ρ.z.rl 0).length : Int) ≤ 500 ∧ ¬ eA (ρ.i .i64 1) (ρ.i .i64 2) (ρ.i .i64 3) (ρ.z.rl 0) = 0) ∧ ((2 : Nat) < 3) from ?_)
 exact ⟨hi, by omega⟩
theorem vcleach6_2 : VC TTleach invleach msleach 6 tleach6 wleach6_2 := by
 intro ρ kn hi hp
 have hi : ivleach6 ρ := hi
 unfold ivleach6 at hi
 have hF : ρ.z.F = oct.Φ := kn.F
 simp only [h_nil, h_cons, d_le, d_eq, d_not, d_var, d_lit, d_cel, d_leq, d_fn, d_and, d_iff, IE.den, LE.den, AL.den, lenV, true_and, and_true, hF, pr20, pr21, pr22, pr23, pr24, pr25, pr26, pr27, pr28, pr29, eA_is, cA_is, fA_0, fA_1, fA_2, fA_3, fA_4, fA_5, fA_6, fA_7] at hp
 obtain ⟨p1, p2, p3, p4, p5, p6, p7⟩ := hp
 refine (show (((ρ.z.rl 0).length : Int) ≤ 500 ∧ ¬ eA (ρ.i .i64 1) (ρ.i .i64 2) (ρ.i .i64 3) (ρ.z.rl 0) = 0) ∧ ((2 : Nat) < 3) from ?_)
 exact ⟨hi, by omega⟩
def ivleach7 (ρ : Rho) : Prop := ((ρ.z.rl 0).length : Int) ≤ 500 ∧ ¬ eA (ρ.i .i64 1) (ρ.i .i64 2) (ρ.i .i64 3) (ρ.z.rl 0) = 0
theorem vcsleach0 : ∀ v ∈ vwleach 0, VC TTleach invleach msleach 0 (startF 10 cLEach.pat (.lit true :: cLEach.pre)) v := all_cons vcleach0_0 (all_cons (fun _ _ _ _ => all_nil) (all_nil))
theorem okleach0 : cfgOk (startF 10 cLEach.pat (.lit true :: cLEach.pre)) = true := by kernel_rfl
theorem sgleach0 : segL cLEach.roms cLEach (seg TTleach selleach 3000 tmleach (startF 10 cLEach.pat (.lit true :: cLEach.pre))) = (true, codesR tmleach (views (seg TTleach selleach 3000 tmleach (startF 10 cLEach.pat (.lit true :: cLEach.pre)))), vwleach 0) := by kernel_rfl
theorem vcsleach1 : ∀ v ∈ vwleach 1, VC TTleach invleach msleach 1 tleach1 v := all_cons vcleach1_0 (all_cons vcleach1_1 (all_nil))
theorem okleach1 : cfgOk tleach1 = true := by kernel_rfl
theorem sgleach1 : segL cLEach.roms cLEach (seg TTleach selleach 3000 tmleach tleach1) = (true, codesR tmleach (views (seg TTleach selleach 3000 tmleach tleach1)), vwleach 1) := by kernel_rfl
theorem vcsleach2 : ∀ v ∈ vwleach 2, VC TTleach invleach msleach 2 tleach2 v := all_cons vcleach2_0 (all_cons vcleach2_1 (all_nil))
theorem okleach2 : cfgOk tleach2 = true := by kernel_rfl
theorem sgleach2 : segL cLEach.roms cLEach (seg TTleach selleach 3000 tmleach tleach2) = (true, codesR tmleach (views (seg TTleach selleach 3000 tmleach tleach2)), vwleach 2) := by kernel_rfl
theorem vcsleach3 : ∀ v ∈ vwleach 3, VC TTleach invleach msleach 3 tleach3 v := all_cons vcgleach3_0.1 (all_cons vcleach3_1 (all_cons vcleach3_2 (all_cons vcgleach3_0.2.1 (all_cons vcleach3_4 (all_cons vcleach3_5 (all_cons vcgleach3_0.2.2.1 (all_cons vcleach3_7 (all_cons vcgleach3_0.2.2.2.1 (all_cons vcgleach3_0.2.2.2.2.1 (all_cons vcgleach3_0.2.2.2.2.2.1 (all_cons vcgleach3_0.2.2.2.2.2.2.1 (all_cons vcgleach3_0.2.2.2.2.2.2.2.1 (all_cons vcgleach3_0.2.2.2.2.2.2.2.2.1 (all_cons vcgleach3_0.2.2.2.2.2.2.2.2.2.1 (all_cons vcgleach3_0.2.2.2.2.2.2.2.2.2.2.1 (all_cons vcgleach3_0.2.2.2.2.2.2.2.2.2.2.2.1 (all_cons vcleach3_17 (all_cons vcgleach3_0.2.2.2.2.2.2.2.2.2.2.2.2.1 (all_cons vcleach3_19 (all_cons vcgleach3_0.2.2.2.2.2.2.2.2.2.2.2.2.2.1 (all_cons vcleach3_21 (all_cons vcgleach3_0.2.2.2.2.2.2.2.2.2.2.2.2.2.2.1 (all_cons vcleach3_23 (all_cons vcgleach3_0.2.2.2.2.2.2.2.2.2.2.2.2.2.2.2.1 (all_cons vcgleach3_0.2.2.2.2.2.2.2.2.2.2.2.2.2.2.2.2.1 (all_cons vcleach3_26 (all_cons vcleach3_27 (all_cons vcgleach3_0.2.2.2.2.2.2.2.2.2.2.2.2.2.2.2.2.2.1 (all_cons vcleach3_29 (all_cons vcleach3_30 (all_cons vcgleach3_0.2.2.2.2.2.2.2.2.2.2.2.2.2.2.2.2.2.2.1 (all_cons vcleach3_32 (all_cons vcgleach3_0.2.2.2.2.2.2.2.2.2.2.2.2.2.2.2.2.2.2.2.1 (all_cons vcgleach3_0.2.2.2.2.2.2.2.2.2.2.2.2.2.2.2.2.2.2.2.2.1 (all_cons vcgleach3_0.2.2.2.2.2.2.2.2.2.2.2.2.2.2.2.2.2.2.2.2.2.1 (all_cons vcgleach3_0.2.2.2.2.2.2.2.2.2.2.2.2.2.2.2.2.2.2.2.2.2.2.1 (all_cons vcgleach3_0.2.2.2.2.2.2.2.2.2.2.2.2.2.2.2.2.2.2.2.2.2.2.2.1 (all_cons vcgleach3_0.2.2.2.2.2.2.2.2.2.2.2.2.2.2.2.2.2.2.2.2.2.2.2.2.1 (all_cons vcgleach3_0.2.2.2.2.2.2.2.2.2.2.2.2.2.2.2.2.2.2.2.2.2.2.2.2.2.1 (all_cons vcgleach3_0.2.2.2.2.2.2.2.2.2.2.2.2.2.2.2.2.2.2.2.2.2.2.2.2.2.2.1 (all_cons vcgleach3_0.2.2.2.2.2.2.2.2.2.2.2.2.2.2.2.2.2.2.2.2.2.2.2.2.2.2.2.1 (all_cons vcleach3_42 (all_cons vcgleach3_0.2.2.2.2.2.2.2.2.2.2.2.2.2.2.2.2.2.2.2.2.2.2.2.2.2.2.2.2.1 (all_cons vcleach3_44 (all_cons vcgleach3_0.2.2.2.2.2.2.2.2.2.2.2.2.2.2.2.2.2.2.2.2.2.2.2.2.2.2.2.2.2.1 (all_cons vcleach3_46 (all_cons vcgleach3_0.2.2.2.2.2.2.2.2.2.2.2.2.2.2.2.2.2.2.2.2.2.2.2.2.2.2.2.2.2.2.1 (all_cons vcleach3_48 (all_cons vcgleach3_0.2.2.2.2.2.2.2.2.2.2.2.2.2.2.2.2.2.2.2.2.2.2.2.2.2.2.2.2.2.2.2 (all_nil))))))))))))))))))))))))))))))))))))))))))))))))))
theorem okleach3 : cfgOk tleach3 = true := by kernel_rfl
theorem sgleach3 : segL cLEach.roms cLEach (seg TTleach selleach 3000 tmleach tleach3) = (true, codesR tmleach (views (seg TTleach selleach 3000 tmleach tleach3)), vwleach 3) := by kernel_rfl
theorem vcsleach4 : ∀ v ∈ vwleach 4, VC TTleach invleach msleach 4 tleach4 v := all_cons vcleach4_0 (all_nil)
theorem okleach4 : cfgOk tleach4 = true := by kernel_rfl
theorem sgleach4 : segL cLEach.roms cLEach (seg TTleach selleach 3000 tmleach tleach4) = (true, codesR tmleach (views (seg TTleach selleach 3000 tmleach tleach4)), vwleach 4) := by kernel_rfl
theorem vcsleach5 : ∀ v ∈ vwleach 5, VC TTleach invleach msleach 5 tleach5 v := all_cons vcgleach5_0.1 (all_cons vcleach5_1 (all_cons vcgleach5_0.2.1 (all_cons vcgleach5_0.2.2.1 (all_cons vcgleach5_0.2.2.2.1 (all_cons vcgleach5_0.2.2.2.2.1 (all_cons vcgleach5_0.2.2.2.2.2.1 (all_cons vcgleach5_0.2.2.2.2.2.2.1 (all_cons vcgleach5_0.2.2.2.2.2.2.2.1 (all_cons vcgleach5_0.2.2.2.2.2.2.2.2.1 (all_cons vcgleach5_0.2.2.2.2.2.2.2.2.2.1 (all_cons (fun _ _ _ _ => all_nil) (all_cons vcgleach5_0.2.2.2.2.2.2.2.2.2.2.1 (all_cons vcgleach5_0.2.2.2.2.2.2.2.2.2.2.2.1 (all_cons vcleach5_14 (all_cons vcgleach5_0.2.2.2.2.2.2.2.2.2.2.2.2.1 (all_cons vcgleach5_0.2.2.2.2.2.2.2.2.2.2.2.2.2.1 (all_cons vcgleach5_0.2.2.2.2.2.2.2.2.2.2.2.2.2.2.1 (all_cons vcgleach5_0.2.2.2.2.2.2.2.2.2.2.2.2.2.2.2.1 (all_cons vcgleach5_0.2.2.2.2.2.2.2.2.2.2.2.2.2.2.2.2.1 (all_cons vcgleach5_0.2.2.2.2.2.2.2.2.2.2.2.2.2.2.2.2.2.1 (all_cons vcgleach5_0.2.2.2.2.2.2.2.2.2.2.2.2.2.2.2.2.2.2.1 (all_cons vcgleach5_0.2.2.2.2.2.2.2.2.2.2.2.2.2.2.2.2.2.2.2.1 (all_cons vcgleach5_0.2.2.2.2.2.2.2.2.2.2.2.2.2.2.2.2.2.2.2.2.1 (all_cons (fun _ _ _ _ => all_nil) (all_cons vcgleach5_0.2.2.2.2.2.2.2.2.2.2.2.2.2.2.2.2.2.2.2.2.2 (all_nil))))))))))))))))))))))))))
theorem okleach5 : cfgOk tleach5 = true := by kernel_rfl
theorem sgleach5 : segL cLEach.roms cLEach (seg TTleach selleach 3000 tmleach tleach5) = (true, codesR tmleach (views (seg TTleach selleach 3000 tmleach tleach5)), vwleach 5) := by kernel_rfl
theorem vcsleach6 : ∀ v ∈ vwleach 6, VC TTleach invleach msleach 6 tleach6 v := all_cons vcleach6_0 (all_cons vcleach6_1 (all_cons vcleach6_2 (all_nil)))
theorem okleach6 : cfgOk tleach6 = true := by kernel_rfl
theorem sgleach6 : segL cLEach.roms cLEach (seg TTleach selleach 3000 tmleach tleach6) = (true, codesR tmleach (views (seg TTleach selleach 3000 tmleach tleach6)), vwleach 6) := by kernel_rfl
theorem vcsleach7 : ∀ v ∈ vwleach 7, VC TTleach invleach msleach 7 tleach7 v := all_cons (fun _ _ _ _ => all_nil) (all_nil)
theorem okleach7 : cfgOk tleach7 = true := by kernel_rfl
theorem sgleach7 : segL cLEach.roms cLEach (seg TTleach selleach 3000 tmleach tleach7) = (true, codesR tmleach (views (seg TTleach selleach 3000 tmleach tleach7)), vwleach 7) := by kernel_rfl
theorem lnleach0 : ∀ ρ, Known TTleach (startF 10 cLEach.pat (.lit true :: cLEach.pre)) ρ → invleach 0 ρ.lt → Holds ρ (leanOf (Cfg.pc (startF 10 cLEach.pat (.lit true :: cLEach.pre)))) := by
 intro ρ _ _
 exact (show Holds ρ [] from fun p hp => by cases hp)
theorem lnleach1 : ∀ ρ, Known TTleach tleach1 ρ → invleach 1 ρ.lt → Holds ρ (leanOf (Cfg.pc tleach1)) := by
 intro ρ _ _
 exact (show Holds ρ [] from fun p hp => by cases hp)
theorem lnleach2 : ∀ ρ, Known TTleach tleach2 ρ → invleach 2 ρ.lt → Holds ρ (leanOf (Cfg.pc tleach2)) := by
 intro ρ kn hi
 refine (show Holds ρ [.le (.var .i64 1005) (.lit 500)] from ?_)
 have hi : Gath (ρ.i .i64 1) (ρ.i .i64 2) (ρ.i .i64 3) (ρ.z.rl 0) (ρ.l 1002) (ρ.l 1004) (ρ.i .i64 1001) ∧ ((ρ.l 1004).length : Int) = (ρ.i .i64 1005) ∧ ((ρ.z.rl 0).length : Int) ≤ 500 := hi
 have hF : ρ.z.F = oct.Φ := kn.F
 simp only [h_nil, h_cons, d_le, d_eq, d_not, d_var, d_lit, d_cel, d_leq, d_fn, d_and, d_iff, IE.den, LE.den, AL.den, lenV, true_and, and_true, hF, pr20, pr21, pr22, pr23, pr24, pr25, pr26, pr27, pr28, pr29, eA_is, cA_is, fA_0, fA_1, fA_2, fA_3, fA_4, fA_5, fA_6, fA_7]
 obtain ⟨g, hl, hb⟩ := hi
 have h := gath_le g
 omega
theorem lnleach3 : ∀ ρ, Known TTleach tleach3 ρ → invleach 3 ρ.lt → Holds ρ (leanOf (Cfg.pc tleach3)) := by
 intro ρ _ _
 exact (show Holds ρ [] from fun p hp => by cases hp)
theorem lnleach4 : ∀ ρ, Known TTleach tleach4 ρ → invleach 4 ρ.lt → Holds ρ (leanOf (Cfg.pc tleach4)) := by
 intro ρ _ _
 exact (show Holds ρ [] from fun p hp => by cases hp)
theorem lnleach5 : ∀ ρ, Known TTleach tleach5 ρ → invleach 5 ρ.lt → Holds ρ (leanOf (Cfg.pc tleach5)) := by
 intro ρ _ _
 exact (show Holds ρ [] from fun p hp => by cases hp)
theorem lnleach6 : ∀ ρ, Known TTleach tleach6 ρ → invleach 6 ρ.lt → Holds ρ (leanOf (Cfg.pc tleach6)) := by
 intro ρ _ _
 exact (show Holds ρ [] from fun p hp => by cases hp)
theorem lnleach7 : ∀ ρ, Known TTleach tleach7 ρ → invleach 7 ρ.lt → Holds ρ (leanOf (Cfg.pc tleach7)) := by
 intro ρ _ _
 exact (show Holds ρ [] from fun p hp => by cases hp)
theorem told_leach : Sx.Told oct.Φ cLEach := by
 refine told_of (cs := [cWorks19, (rdC 37 []), (rdC 38 [])]) (all_cons told_works19e (all_cons told_rdA (all_cons told_rrdA (all_nil)))) (sel := selleach) 3000 tmleach invleach msleach vwleach 0 (pc0 := (.lit true :: cLEach.pre)) (by kernel_rfl) (by kernel_rfl) (by kernel_rfl) (post_nil rfl) ?_ ?_ ?_ rfl (fun ρ _ h => h.cons (p := .lit true) (by simp only [BE.den])) (fun _ _ _ _ => trivial) ?_
 ·intro k C h
  have := lk_mem h
  simp only [tmleach, List.mem_cons, Prod.mk.injEq, List.not_mem_nil, or_false] at this
  rcases this with ⟨rfl, rfl⟩ | ⟨rfl, rfl⟩ | ⟨rfl, rfl⟩ | ⟨rfl, rfl⟩ | ⟨rfl, rfl⟩ | ⟨rfl, rfl⟩ | ⟨rfl, rfl⟩ | ⟨rfl, rfl⟩
  ·exact okleach0
  ·exact okleach1
  ·exact okleach2
  ·exact okleach3
  ·exact okleach4
  ·exact okleach5
  ·exact okleach6
  ·exact okleach7
 ·intro k C h
  have := lk_mem h
  simp only [tmleach, List.mem_cons, Prod.mk.injEq, List.not_mem_nil, or_false] at this
  rcases this with ⟨rfl, rfl⟩ | ⟨rfl, rfl⟩ | ⟨rfl, rfl⟩ | ⟨rfl, rfl⟩ | ⟨rfl, rfl⟩ | ⟨rfl, rfl⟩ | ⟨rfl, rfl⟩ | ⟨rfl, rfl⟩
  ·exact sgleach0
  ·exact sgleach1
  ·exact sgleach2
  ·exact sgleach3
  ·exact sgleach4
  ·exact sgleach5
  ·exact sgleach6
  ·exact sgleach7
 ·intro k C h
  have := lk_mem h
  simp only [tmleach, List.mem_cons, Prod.mk.injEq, List.not_mem_nil, or_false] at this
  rcases this with ⟨rfl, rfl⟩ | ⟨rfl, rfl⟩ | ⟨rfl, rfl⟩ | ⟨rfl, rfl⟩ | ⟨rfl, rfl⟩ | ⟨rfl, rfl⟩ | ⟨rfl, rfl⟩ | ⟨rfl, rfl⟩
  ·exact vcsleach0
  ·exact vcsleach1
  ·exact vcsleach2
  ·exact vcsleach3
  ·exact vcsleach4
  ·exact vcsleach5
  ·exact vcsleach6
  ·exact vcsleach7
 ·intro k C h
  have := lk_mem h
  simp only [tmleach, List.mem_cons, Prod.mk.injEq, List.not_mem_nil, or_false] at this
  rcases this with ⟨rfl, rfl⟩ | ⟨rfl, rfl⟩ | ⟨rfl, rfl⟩ | ⟨rfl, rfl⟩ | ⟨rfl, rfl⟩ | ⟨rfl, rfl⟩ | ⟨rfl, rfl⟩ | ⟨rfl, rfl⟩
  ·exact lnleach0
  ·exact lnleach1
  ·exact lnleach2
  ·exact lnleach3
  ·exact lnleach4
  ·exact lnleach5
  ·exact lnleach6
  ·exact lnleach7
end Go.Proofs.Ythenenacmiiphaa.oct
