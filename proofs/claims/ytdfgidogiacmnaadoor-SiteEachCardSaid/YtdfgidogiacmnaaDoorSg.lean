/- Layer site: the law SiteEach. No condition. -/
import Derived.Test.YtdfgidogiacmnaaDoorSf
set_option linter.unusedVariables false
set_option linter.unusedSimpArgs false
set_option linter.deprecated false
namespace Go.Proofs.YtdfgidogiacmnaaDoor.sit
open Go Go.Proofs.YtdfgidogiacmnaaDoor.Sx
noncomputable section
abbrev TTeach : Tab := T sit.Φ cEach.roms [cWorks, cChk1, cChk2, cShapeS]
def teach1 : Cfg := { top := ⟨49, over (opqS 10000 24) [(0, (SV.func (Go.Fn.yield 13) [] [])), (1, (SV.ptr 11 0)), (7, (SV.int .i64 (IE.var .i64 1))), (8, (SV.int .i64 (IE.var .i64 1000)))], ogt (loopTodo (bodyOf (T sit.Φ [] []) 49) 0), [], false, none⟩, rest := [⟨37, over (opqS 30000 23) [], ogt (rangeTodo (bodyOf (T sit.Φ [] []) 37) 0 13), [12], false, none⟩, ⟨6, over (opqS 50000 80) [(2, (SV.ptr 0 0)), (3, (SV.ptr 1 0)), (4, (SV.ptr 2 0)), (5, (SV.ptr 3 0)), (6, (SV.func (Go.Fn.func 37) [] [(SV.ptr 4 0)])), (7, (SV.ptr 5 0)), (8, (SV.ptr 6 0))], ogt (rangeTodo (bodyOf (T sit.Φ [] []) 6) 0 8), [7], false, none⟩], heap := [(13, .loop .ready none 37 (over (opqS 200000 23) [(2, (SV.ptr 9 0)), (3, (SV.ptr 10 0))]) [12, 13] ((rangeCode (bodyOf (T sit.Φ [] []) 37) 0).getD (.skip, .skip)).1 ((rangeCode (bodyOf (T sit.Φ [] []) 37) 0).getD (.skip, .skip)).2 12), (11, .cells [(SV.int .i64 (IE.var .i64 1)), (SV.int .i64 (IE.var .i64 2)), (SV.int .i64 (IE.var .i64 3))] 60), (12, .defd true), (7, .defd true), (8, .loop .ready none 6 (over (opqS 280000 80) [(2, (SV.ptr 0 0)), (3, (SV.ptr 1 0)), (4, (SV.ptr 2 0)), (5, (SV.ptr 3 0)), (7, (SV.ptr 5 0)), (8, (SV.ptr 6 0))]) [27, 28] ((rangeCode (bodyOf (T sit.Φ [] []) 6) 0).getD (.skip, .skip)).1 ((rangeCode (bodyOf (T sit.Φ [] []) 6) 0).getD (.skip, .skip)).2 7), (0, .cells [(SV.int .i64 (IE.var .i64 1)), (SV.int .i64 (IE.var .i64 2)), (SV.int .i64 (IE.var .i64 3))] 23), (1, .cells [(SV.int .i64 (IE.var .i64 4))] 3), (2, .cells [(SV.bool (BE.lit false))] 4), (3, .cells [(SV.int .i64 (IE.wrap .i64 (IE.mul (IE.var .i64 1) (IE.var .i64 3))))] 3), (4, .cells [(SV.int .i64 (IE.var .i64 1)), (SV.int .i64 (IE.var .i64 2)), (SV.int .i64 (IE.var .i64 3))] 23), (5, .cells [(SV.int .i64 (IE.lit 0))] 3), (6, .cells [(SV.int .i64 (IE.var .i64 1001))] 3), (9, .cells [(SV.func (Go.Fn.yield 8) [] [])] 73), (10, .cells [(SV.int .i64 (IE.var .i64 1001))] 3)], next := 14, pc := .lit true :: ([] ++ [(BE.fn 2 (AL.int .i64 (IE.var .i64 1) (AL.int .i64 (IE.var .i64 2) (AL.int .i64 (IE.var .i64 3) AL.nil)))), (BE.le (IE.var .i64 3) (IE.lit 4)), (BE.le (IE.lit 1) (IE.var .i64 3)), (BE.le (IE.var .i64 2) (IE.lit 8)), (BE.le (IE.lit 1) (IE.var .i64 2)), (BE.le (IE.var .i64 1) (IE.lit 64)), (BE.le (IE.lit 1) (IE.var .i64 1)), (BE.le (IE.lit 0) (IE.var .i64 1001)), (BE.le (IE.lit 0) (IE.var .i64 1000))]) }
def teach2 : Cfg := { top := ⟨49, over (opqS 10000 24) [(0, (SV.func (Go.Fn.yield 13) [] [])), (1, (SV.ptr 11 0)), (3, (SV.int .i64 (IE.var .i64 281266))), (7, (SV.int .i64 (IE.var .i64 1))), (8, (SV.int .i64 (IE.var .i64 281266))), (13, (SV.int .i64 (IE.var .i64 3))), (14, (SV.int .i64 (IE.var .i64 281265)))], ogt (loopTodo (bodyOf (T sit.Φ [] []) 49) 1), [], false, none⟩, rest := [⟨37, over (opqS 30000 23) [], ogt (rangeTodo (bodyOf (T sit.Φ [] []) 37) 0 13), [12], false, none⟩, ⟨6, over (opqS 50000 80) [(2, (SV.ptr 0 0)), (3, (SV.ptr 1 0)), (4, (SV.ptr 2 0)), (5, (SV.ptr 3 0)), (6, (SV.func (Go.Fn.func 37) [] [(SV.ptr 4 0)])), (7, (SV.ptr 5 0)), (8, (SV.ptr 6 0))], ogt (rangeTodo (bodyOf (T sit.Φ [] []) 6) 0 8), [7], false, none⟩], heap := [(13, .loop .ready none 37 (over (opqS 200000 23) [(2, (SV.ptr 9 0)), (3, (SV.ptr 10 0))]) [12, 13] ((rangeCode (bodyOf (T sit.Φ [] []) 37) 0).getD (.skip, .skip)).1 ((rangeCode (bodyOf (T sit.Φ [] []) 37) 0).getD (.skip, .skip)).2 12), (11, .cells [(SV.int .i64 (IE.var .i64 1)), (SV.int .i64 (IE.var .i64 2)), (SV.int .i64 (IE.var .i64 3))] 60), (12, .defd true), (7, .defd true), (8, .loop .ready none 6 (over (opqS 280000 80) [(2, (SV.ptr 0 0)), (3, (SV.ptr 1 0)), (4, (SV.ptr 2 0)), (5, (SV.ptr 3 0)), (7, (SV.ptr 5 0)), (8, (SV.ptr 6 0))]) [27, 28] ((rangeCode (bodyOf (T sit.Φ [] []) 6) 0).getD (.skip, .skip)).1 ((rangeCode (bodyOf (T sit.Φ [] []) 6) 0).getD (.skip, .skip)).2 7), (0, .cells [(SV.int .i64 (IE.var .i64 1)), (SV.int .i64 (IE.var .i64 2)), (SV.int .i64 (IE.var .i64 3))] 23), (1, .cells [(SV.int .i64 (IE.var .i64 4))] 3), (2, .cells [(SV.bool (BE.lit false))] 4), (3, .cells [(SV.int .i64 (IE.wrap .i64 (IE.mul (IE.var .i64 1) (IE.var .i64 3))))] 3), (4, .cells [(SV.int .i64 (IE.var .i64 1)), (SV.int .i64 (IE.var .i64 2)), (SV.int .i64 (IE.var .i64 3))] 23), (5, .cells [(SV.int .i64 (IE.lit 0))] 3), (6, .cells [(SV.int .i64 (IE.var .i64 281267))] 3), (9, .cells [(SV.func (Go.Fn.yield 8) [] [])] 73), (10, .cells [(SV.int .i64 (IE.var .i64 281267))] 3)], next := 14, pc := .lit true :: ([] ++ [(BE.le (IE.lit 1) (IE.var .i64 1)), (BE.le (IE.var .i64 1) (IE.lit 64)), (BE.le (IE.lit 1) (IE.var .i64 2)), (BE.le (IE.var .i64 2) (IE.lit 8)), (BE.le (IE.lit 1) (IE.var .i64 3)), (BE.le (IE.var .i64 3) (IE.lit 4)), (BE.fn 2 (AL.int .i64 (IE.var .i64 1) (AL.int .i64 (IE.var .i64 2) (AL.int .i64 (IE.var .i64 3) AL.nil)))), (BE.le (IE.lit 0) (IE.var .i64 281265)), (BE.not (BE.le (IE.var .i64 1) (IE.var .i64 281266))), (BE.le (IE.lit 0) (IE.var .i64 281267)), (BE.le (IE.lit 0) (IE.var .i64 281266))]) }
def teach3 : Cfg := { top := ⟨49, over (opqS 10000 24) [(0, (SV.func (Go.Fn.yield 22) [] [])), (1, (SV.ptr 20 0)), (7, (SV.int .i64 (IE.var .i64 1))), (8, (SV.int .i64 (IE.var .i64 281265)))], ogt (loopTodo (bodyOf (T sit.Φ [] []) 49) 0), [], false, none⟩, rest := [⟨37, over (opqS 30000 23) [], ogt (rangeTodo (bodyOf (T sit.Φ [] []) 37) 0 22), [21], false, none⟩, ⟨6, over (opqS 50000 80) [(2, (SV.ptr 0 0)), (3, (SV.ptr 1 0)), (4, (SV.ptr 2 0)), (5, (SV.ptr 3 0)), (6, (SV.func (Go.Fn.func 37) [] [(SV.ptr 4 0)])), (7, (SV.ptr 14 0)), (8, (SV.ptr 15 0))], ogt (rangeTodo (bodyOf (T sit.Φ [] []) 6) 0 17), [16, 7], false, none⟩], heap := [(22, .loop .ready none 37 (over (opqS 200000 23) [(2, (SV.ptr 18 0)), (3, (SV.ptr 19 0))]) [12, 13] ((rangeCode (bodyOf (T sit.Φ [] []) 37) 0).getD (.skip, .skip)).1 ((rangeCode (bodyOf (T sit.Φ [] []) 37) 0).getD (.skip, .skip)).2 21), (20, .cells [(SV.int .i64 (IE.var .i64 1)), (SV.int .i64 (IE.var .i64 2)), (SV.int .i64 (IE.var .i64 3))] 60), (21, .defd true), (16, .defd true), (7, .defd true), (17, .loop .ready none 6 (over (opqS 300000 80) [(2, (SV.ptr 0 0)), (3, (SV.ptr 1 0)), (4, (SV.ptr 2 0)), (5, (SV.ptr 3 0)), (7, (SV.ptr 14 0)), (8, (SV.ptr 15 0))]) [27, 28] ((rangeCode (bodyOf (T sit.Φ [] []) 6) 0).getD (.skip, .skip)).1 ((rangeCode (bodyOf (T sit.Φ [] []) 6) 0).getD (.skip, .skip)).2 16), (0, .cells [(SV.int .i64 (IE.var .i64 1)), (SV.int .i64 (IE.var .i64 2)), (SV.int .i64 (IE.var .i64 3))] 23), (1, .cells [(SV.int .i64 (IE.var .i64 4))] 3), (2, .cells [(SV.bool (BE.lit false))] 4), (3, .cells [(SV.int .i64 (IE.wrap .i64 (IE.mul (IE.var .i64 1) (IE.var .i64 3))))] 3), (4, .cells [(SV.int .i64 (IE.var .i64 1)), (SV.int .i64 (IE.var .i64 2)), (SV.int .i64 (IE.var .i64 3))] 23), (14, .cells [(SV.int .i64 (IE.lit 1))] 3), (15, .cells [(SV.int .i64 (IE.var .i64 281266))] 3), (18, .cells [(SV.func (Go.Fn.yield 17) [] [])] 73), (19, .cells [(SV.int .i64 (IE.var .i64 281266))] 3)], next := 23, pc := .lit true :: ([] ++ [(BE.le (IE.lit 1) (IE.var .i64 1)), (BE.le (IE.var .i64 1) (IE.lit 64)), (BE.le (IE.lit 1) (IE.var .i64 2)), (BE.le (IE.var .i64 2) (IE.lit 8)), (BE.le (IE.lit 1) (IE.var .i64 3)), (BE.le (IE.var .i64 3) (IE.lit 4)), (BE.fn 2 (AL.int .i64 (IE.var .i64 1) (AL.int .i64 (IE.var .i64 2) (AL.int .i64 (IE.var .i64 3) AL.nil)))), (BE.le (IE.var .i64 3) (IE.lit 4)), (BE.le (IE.lit 1) (IE.var .i64 3)), (BE.le (IE.var .i64 2) (IE.lit 8)), (BE.le (IE.lit 1) (IE.var .i64 2)), (BE.le (IE.var .i64 1) (IE.lit 64)), (BE.le (IE.lit 1) (IE.var .i64 1)), (BE.le (IE.lit 0) (IE.var .i64 281266)), (BE.le (IE.lit 0) (IE.var .i64 281265))]) }
def teach4 : Cfg := { top := ⟨49, over (opqS 10000 24) [(0, (SV.func (Go.Fn.yield 22) [] [])), (1, (SV.ptr 20 0)), (3, (SV.int .i64 (IE.var .i64 301266))), (7, (SV.int .i64 (IE.var .i64 1))), (8, (SV.int .i64 (IE.var .i64 301266))), (13, (SV.int .i64 (IE.var .i64 3))), (14, (SV.int .i64 (IE.var .i64 301265)))], ogt (loopTodo (bodyOf (T sit.Φ [] []) 49) 1), [], false, none⟩, rest := [⟨37, over (opqS 30000 23) [], ogt (rangeTodo (bodyOf (T sit.Φ [] []) 37) 0 22), [21], false, none⟩, ⟨6, over (opqS 50000 80) [(2, (SV.ptr 0 0)), (3, (SV.ptr 1 0)), (4, (SV.ptr 2 0)), (5, (SV.ptr 3 0)), (6, (SV.func (Go.Fn.func 37) [] [(SV.ptr 4 0)])), (7, (SV.ptr 14 0)), (8, (SV.ptr 15 0))], ogt (rangeTodo (bodyOf (T sit.Φ [] []) 6) 0 17), [16, 7], false, none⟩], heap := [(22, .loop .ready none 37 (over (opqS 200000 23) [(2, (SV.ptr 18 0)), (3, (SV.ptr 19 0))]) [12, 13] ((rangeCode (bodyOf (T sit.Φ [] []) 37) 0).getD (.skip, .skip)).1 ((rangeCode (bodyOf (T sit.Φ [] []) 37) 0).getD (.skip, .skip)).2 21), (20, .cells [(SV.int .i64 (IE.var .i64 1)), (SV.int .i64 (IE.var .i64 2)), (SV.int .i64 (IE.var .i64 3))] 60), (21, .defd true), (16, .defd true), (7, .defd true), (17, .loop .ready none 6 (over (opqS 300000 80) [(2, (SV.ptr 0 0)), (3, (SV.ptr 1 0)), (4, (SV.ptr 2 0)), (5, (SV.ptr 3 0)), (7, (SV.ptr 14 0)), (8, (SV.ptr 15 0))]) [27, 28] ((rangeCode (bodyOf (T sit.Φ [] []) 6) 0).getD (.skip, .skip)).1 ((rangeCode (bodyOf (T sit.Φ [] []) 6) 0).getD (.skip, .skip)).2 16), (0, .cells [(SV.int .i64 (IE.var .i64 1)), (SV.int .i64 (IE.var .i64 2)), (SV.int .i64 (IE.var .i64 3))] 23), (1, .cells [(SV.int .i64 (IE.var .i64 4))] 3), (2, .cells [(SV.bool (BE.lit false))] 4), (3, .cells [(SV.int .i64 (IE.wrap .i64 (IE.mul (IE.var .i64 1) (IE.var .i64 3))))] 3), (4, .cells [(SV.int .i64 (IE.var .i64 1)), (SV.int .i64 (IE.var .i64 2)), (SV.int .i64 (IE.var .i64 3))] 23), (14, .cells [(SV.int .i64 (IE.lit 1))] 3), (15, .cells [(SV.int .i64 (IE.var .i64 301267))] 3), (18, .cells [(SV.func (Go.Fn.yield 17) [] [])] 73), (19, .cells [(SV.int .i64 (IE.var .i64 301267))] 3)], next := 23, pc := .lit true :: ([] ++ [(BE.le (IE.lit 1) (IE.var .i64 1)), (BE.le (IE.var .i64 1) (IE.lit 64)), (BE.le (IE.lit 1) (IE.var .i64 2)), (BE.le (IE.var .i64 2) (IE.lit 8)), (BE.le (IE.lit 1) (IE.var .i64 3)), (BE.le (IE.var .i64 3) (IE.lit 4)), (BE.fn 2 (AL.int .i64 (IE.var .i64 1) (AL.int .i64 (IE.var .i64 2) (AL.int .i64 (IE.var .i64 3) AL.nil)))), (BE.le (IE.var .i64 3) (IE.lit 4)), (BE.le (IE.lit 1) (IE.var .i64 3)), (BE.le (IE.var .i64 2) (IE.lit 8)), (BE.le (IE.lit 1) (IE.var .i64 2)), (BE.le (IE.var .i64 1) (IE.lit 64)), (BE.le (IE.lit 1) (IE.var .i64 1)), (BE.le (IE.lit 0) (IE.var .i64 301265)), (BE.not (BE.le (IE.var .i64 1) (IE.var .i64 301266))), (BE.le (IE.lit 0) (IE.var .i64 301267)), (BE.le (IE.lit 0) (IE.var .i64 301266))]) }
def tmeach : List (Nat × Cfg) := [(0, startF 6 cEach.pat [.lit true]), (1, teach1), (2, teach2), (3, teach3), (4, teach4)]
def seleach : Sel := [(49, 1, 2020000000002, 1), (49, 2, 2020000000002, 2), (49, 1, 2030000000002, 3), (49, 2, 2030000000002, 4)]
def pceach0_0 : List BE := [(BE.lit true)]
def pceach0_1 : List BE := ((BE.not (BE.fn 2 (AL.int .i64 (IE.var .i64 1) (AL.int .i64 (IE.var .i64 2) (AL.int .i64 (IE.var .i64 3) AL.nil))))) :: pceach0_0)
def weach0_0 : VW := (VW.cut 1 ((BE.le (IE.lit 1) (IE.var .i64 1)) :: (BE.le (IE.var .i64 1) (IE.lit 64)) :: (BE.le (IE.lit 1) (IE.var .i64 2)) :: (BE.le (IE.var .i64 2) (IE.lit 8)) :: (BE.le (IE.lit 1) (IE.var .i64 3)) :: (BE.le (IE.var .i64 3) (IE.lit 4)) :: (BE.fn 2 (AL.int .i64 (IE.var .i64 1) (AL.int .i64 (IE.var .i64 2) (AL.int .i64 (IE.var .i64 3) AL.nil)))) :: pceach0_0) (Sx.Sub.mk [(.i64, (1001, (IE.lit 0))), (.i64, (1000, (IE.lit 0)))] [] [] [] [] []))
def weach0_1 : VW := (VW.done ((BE.le (IE.lit 1) (IE.var .i64 4)) :: pceach0_1) (some []))
def weach0_2 : VW := (VW.done ((BE.not (BE.le (IE.lit 1) (IE.var .i64 4))) :: pceach0_1) (some []))
def vweach0 : List VW := [weach0_0, weach0_1, weach0_2]
def pceach1_0 : List BE := [(BE.lit true), (BE.fn 2 (AL.int .i64 (IE.var .i64 1) (AL.int .i64 (IE.var .i64 2) (AL.int .i64 (IE.var .i64 3) AL.nil)))), (BE.le (IE.var .i64 3) (IE.lit 4)), (BE.le (IE.lit 1) (IE.var .i64 3)), (BE.le (IE.var .i64 2) (IE.lit 8)), (BE.le (IE.lit 1) (IE.var .i64 2)), (BE.le (IE.var .i64 1) (IE.lit 64)), (BE.le (IE.lit 1) (IE.var .i64 1)), (BE.le (IE.lit 0) (IE.var .i64 1001)), (BE.le (IE.lit 0) (IE.var .i64 1000))]
def pceach1_1 : List BE := ((BE.le (IE.var .i64 1) (IE.var .i64 1000)) :: pceach1_0)
def pceach1_2 : List BE := ((BE.le (IE.lit 1) (IE.var .i64 4)) :: pceach1_1)
def pceach1_3 : List BE := ((BE.not (BE.le (IE.lit 1) (IE.var .i64 4))) :: pceach1_1)
def pceach1_4 : List BE := ((BE.le (IE.wrap .i64 (IE.mul (IE.var .i64 1) (IE.var .i64 3))) (IE.var .i64 4)) :: pceach1_2)
def pceach1_5 : List BE := ((BE.not (BE.le (IE.wrap .i64 (IE.mul (IE.var .i64 1) (IE.var .i64 3))) (IE.var .i64 4))) :: pceach1_2)
def pceach1_6 : List BE := ((BE.le (IE.wrap .i64 (IE.mul (IE.var .i64 1) (IE.var .i64 3))) (IE.lit 1)) :: pceach1_3)
def pceach1_7 : List BE := ((BE.not (BE.le (IE.wrap .i64 (IE.mul (IE.var .i64 1) (IE.var .i64 3))) (IE.lit 1))) :: pceach1_3)
def weach1_0 : VW := (VW.cut 3 ((BE.le (IE.lit 1) (IE.var .i64 1)) :: (BE.le (IE.var .i64 1) (IE.lit 64)) :: (BE.le (IE.lit 1) (IE.var .i64 2)) :: (BE.le (IE.var .i64 2) (IE.lit 8)) :: (BE.le (IE.lit 1) (IE.var .i64 3)) :: (BE.le (IE.var .i64 3) (IE.lit 4)) :: (BE.eq (IE.var .i64 1001) (IE.wrap .i64 (IE.mul (IE.var .i64 1) (IE.var .i64 3)))) :: pceach1_4) (Sx.Sub.mk [(.i64, (281266, (IE.lit 0))), (.i64, (281265, (IE.lit 0)))] [] [] [] [] []))
def weach1_1 : VW := (VW.done ((BE.not (BE.eq (IE.var .i64 1001) (IE.wrap .i64 (IE.mul (IE.var .i64 1) (IE.var .i64 3))))) :: pceach1_4) (some [(G.b (BE.lit true) (BE.lit false))]))
def weach1_2 : VW := (VW.cut 3 ((BE.le (IE.lit 1) (IE.var .i64 1)) :: (BE.le (IE.var .i64 1) (IE.lit 64)) :: (BE.le (IE.lit 1) (IE.var .i64 2)) :: (BE.le (IE.var .i64 2) (IE.lit 8)) :: (BE.le (IE.lit 1) (IE.var .i64 3)) :: (BE.le (IE.var .i64 3) (IE.lit 4)) :: (BE.eq (IE.var .i64 1001) (IE.var .i64 4)) :: pceach1_5) (Sx.Sub.mk [(.i64, (281266, (IE.lit 0))), (.i64, (281265, (IE.lit 0)))] [] [] [] [] []))
def weach1_3 : VW := (VW.done ((BE.not (BE.eq (IE.var .i64 1001) (IE.var .i64 4))) :: pceach1_5) (some [(G.b (BE.lit true) (BE.lit false))]))
def weach1_4 : VW := (VW.cut 3 ((BE.le (IE.lit 1) (IE.var .i64 1)) :: (BE.le (IE.var .i64 1) (IE.lit 64)) :: (BE.le (IE.lit 1) (IE.var .i64 2)) :: (BE.le (IE.var .i64 2) (IE.lit 8)) :: (BE.le (IE.lit 1) (IE.var .i64 3)) :: (BE.le (IE.var .i64 3) (IE.lit 4)) :: (BE.eq (IE.var .i64 1001) (IE.wrap .i64 (IE.mul (IE.var .i64 1) (IE.var .i64 3)))) :: pceach1_6) (Sx.Sub.mk [(.i64, (281266, (IE.lit 0))), (.i64, (281265, (IE.lit 0)))] [] [] [] [] []))
def weach1_5 : VW := (VW.done ((BE.not (BE.eq (IE.var .i64 1001) (IE.wrap .i64 (IE.mul (IE.var .i64 1) (IE.var .i64 3))))) :: pceach1_6) (some [(G.b (BE.lit true) (BE.lit false))]))
def weach1_6 : VW := (VW.cut 3 ((BE.le (IE.lit 1) (IE.var .i64 1)) :: (BE.le (IE.var .i64 1) (IE.lit 64)) :: (BE.le (IE.lit 1) (IE.var .i64 2)) :: (BE.le (IE.var .i64 2) (IE.lit 8)) :: (BE.le (IE.lit 1) (IE.var .i64 3)) :: (BE.le (IE.var .i64 3) (IE.lit 4)) :: (BE.eq (IE.var .i64 1001) (IE.lit 1)) :: pceach1_7) (Sx.Sub.mk [(.i64, (281266, (IE.lit 0))), (.i64, (281265, (IE.lit 0)))] [] [] [] [] []))
def weach1_7 : VW := (VW.done ((BE.not (BE.eq (IE.var .i64 1001) (IE.lit 1))) :: pceach1_7) (some [(G.b (BE.lit true) (BE.lit false))]))
def weach1_8 : VW := (VW.cut 2 ((BE.not (BE.le (IE.var .i64 1) (IE.var .i64 1000))) :: pceach1_0) (Sx.Sub.mk [(.i64, (281267, (IE.var .i64 1001))), (.i64, (281265, (IE.lit 0))), (.i64, (281266, (IE.var .i64 1000)))] [] [] [] [] []))
def vweach1 : List VW := [weach1_0, weach1_1, weach1_2, weach1_3, weach1_4, weach1_5, weach1_6, weach1_7, weach1_8]
def pceach2_0 : List BE := [(BE.lit true), (BE.le (IE.lit 1) (IE.var .i64 1)), (BE.le (IE.var .i64 1) (IE.lit 64)), (BE.le (IE.lit 1) (IE.var .i64 2)), (BE.le (IE.var .i64 2) (IE.lit 8)), (BE.le (IE.lit 1) (IE.var .i64 3)), (BE.le (IE.var .i64 3) (IE.lit 4)), (BE.fn 2 (AL.int .i64 (IE.var .i64 1) (AL.int .i64 (IE.var .i64 2) (AL.int .i64 (IE.var .i64 3) AL.nil)))), (BE.le (IE.lit 0) (IE.var .i64 281265)), (BE.not (BE.le (IE.var .i64 1) (IE.var .i64 281266))), (BE.le (IE.lit 0) (IE.var .i64 281267)), (BE.le (IE.lit 0) (IE.var .i64 281266))]
def pceach2_1 : List BE := ((BE.not (BE.le (IE.var .i64 3) (IE.var .i64 281265))) :: pceach2_0)
def pceach2_2 : List BE := ((BE.not (BE.le (IE.wrap .i64 (IE.mul (IE.var .i64 1) (IE.var .i64 3))) (IE.var .i64 281267))) :: pceach2_1)
def pceach2_3 : List BE := ((BE.eq (IE.var .i64 281266) (IE.bin BinOp.quo .i64 (IE.var .i64 281267) (IE.var .i64 3))) :: pceach2_2)
def pceach2_4 : List BE := ((BE.eq (IE.var .i64 281265) (IE.bin BinOp.rem .i64 (IE.var .i64 281267) (IE.var .i64 3))) :: pceach2_3)
def pceach2_5 : List BE := ((BE.le (IE.var .i64 4) (IE.add (IE.var .i64 281267) (IE.lit 1))) :: pceach2_4)
def pceach2_6 : List BE := ((BE.le (IE.lit 1) (IE.var .i64 4)) :: pceach2_5)
def pceach2_7 : List BE := ((BE.not (BE.le (IE.lit 1) (IE.var .i64 4))) :: pceach2_5)
def pceach2_8 : List BE := ((BE.not (BE.le (IE.wrap .i64 (IE.mul (IE.var .i64 1) (IE.var .i64 3))) (IE.var .i64 4))) :: pceach2_6)
def pceach2_9 : List BE := ((BE.not (BE.le (IE.wrap .i64 (IE.mul (IE.var .i64 1) (IE.var .i64 3))) (IE.lit 1))) :: pceach2_7)
def weach2_0 : VW := (VW.cut 1 ((BE.le (IE.var .i64 3) (IE.var .i64 281265)) :: pceach2_0) (Sx.Sub.mk [(.i64, (1001, (IE.var .i64 281267))), (.i64, (1000, (IE.add (IE.var .i64 281266) (IE.lit 1))))] [] [] [] [] []))
def weach2_1 : VW := (VW.done ((BE.le (IE.wrap .i64 (IE.mul (IE.var .i64 1) (IE.var .i64 3))) (IE.var .i64 281267)) :: pceach2_1) (some [(G.b (BE.lit true) (BE.lit false))]))
def weach2_2 : VW := (VW.cut 3 ((BE.le (IE.lit 1) (IE.var .i64 1)) :: (BE.le (IE.var .i64 1) (IE.lit 64)) :: (BE.le (IE.lit 1) (IE.var .i64 2)) :: (BE.le (IE.var .i64 2) (IE.lit 8)) :: (BE.le (IE.lit 1) (IE.var .i64 3)) :: (BE.le (IE.var .i64 3) (IE.lit 4)) :: (BE.le (IE.wrap .i64 (IE.mul (IE.var .i64 1) (IE.var .i64 3))) (IE.var .i64 4)) :: pceach2_6) (Sx.Sub.mk [(.i64, (281266, (IE.lit 0))), (.i64, (281265, (IE.lit 0)))] [] [] [] [] []))
def weach2_3 : VW := (VW.cut 3 ((BE.le (IE.lit 1) (IE.var .i64 1)) :: (BE.le (IE.var .i64 1) (IE.lit 64)) :: (BE.le (IE.lit 1) (IE.var .i64 2)) :: (BE.le (IE.var .i64 2) (IE.lit 8)) :: (BE.le (IE.lit 1) (IE.var .i64 3)) :: (BE.le (IE.var .i64 3) (IE.lit 4)) :: (BE.eq (IE.add (IE.var .i64 281267) (IE.lit 1)) (IE.var .i64 4)) :: pceach2_8) (Sx.Sub.mk [(.i64, (281266, (IE.lit 0))), (.i64, (281265, (IE.lit 0)))] [] [] [] [] []))
def weach2_4 : VW := (VW.done ((BE.not (BE.eq (IE.add (IE.var .i64 281267) (IE.lit 1)) (IE.var .i64 4))) :: pceach2_8) (some [(G.b (BE.lit true) (BE.lit false))]))
def weach2_5 : VW := (VW.cut 3 ((BE.le (IE.lit 1) (IE.var .i64 1)) :: (BE.le (IE.var .i64 1) (IE.lit 64)) :: (BE.le (IE.lit 1) (IE.var .i64 2)) :: (BE.le (IE.var .i64 2) (IE.lit 8)) :: (BE.le (IE.lit 1) (IE.var .i64 3)) :: (BE.le (IE.var .i64 3) (IE.lit 4)) :: (BE.le (IE.wrap .i64 (IE.mul (IE.var .i64 1) (IE.var .i64 3))) (IE.lit 1)) :: pceach2_7) (Sx.Sub.mk [(.i64, (281266, (IE.lit 0))), (.i64, (281265, (IE.lit 0)))] [] [] [] [] []))
def weach2_6 : VW := (VW.cut 3 ((BE.le (IE.lit 1) (IE.var .i64 1)) :: (BE.le (IE.var .i64 1) (IE.lit 64)) :: (BE.le (IE.lit 1) (IE.var .i64 2)) :: (BE.le (IE.var .i64 2) (IE.lit 8)) :: (BE.le (IE.lit 1) (IE.var .i64 3)) :: (BE.le (IE.var .i64 3) (IE.lit 4)) :: (BE.eq (IE.add (IE.var .i64 281267) (IE.lit 1)) (IE.lit 1)) :: pceach2_9) (Sx.Sub.mk [(.i64, (281266, (IE.lit 0))), (.i64, (281265, (IE.lit 0)))] [] [] [] [] []))
def weach2_7 : VW := (VW.done ((BE.not (BE.eq (IE.add (IE.var .i64 281267) (IE.lit 1)) (IE.lit 1))) :: pceach2_9) (some [(G.b (BE.lit true) (BE.lit false))]))
def weach2_8 : VW := (VW.cut 2 ((BE.not (BE.le (IE.var .i64 4) (IE.add (IE.var .i64 281267) (IE.lit 1)))) :: pceach2_4) (Sx.Sub.mk [(.i64, (281267, (IE.add (IE.var .i64 281267) (IE.lit 1)))), (.i64, (281265, (IE.add (IE.var .i64 281265) (IE.lit 1)))), (.i64, (281266, (IE.var .i64 281266)))] [] [] [] [] []))
def weach2_9 : VW := (VW.done ((BE.not (BE.eq (IE.var .i64 281265) (IE.bin BinOp.rem .i64 (IE.var .i64 281267) (IE.var .i64 3)))) :: pceach2_3) (some [(G.b (BE.lit true) (BE.lit false))]))
def weach2_10 : VW := (VW.done ((BE.not (BE.eq (IE.var .i64 281266) (IE.bin BinOp.quo .i64 (IE.var .i64 281267) (IE.var .i64 3)))) :: pceach2_2) (some [(G.b (BE.lit true) (BE.lit false))]))
def vweach2 : List VW := [weach2_0, weach2_1, weach2_2, weach2_3, weach2_4, weach2_5, weach2_6, weach2_7, weach2_8, weach2_9, weach2_10]
def pceach3_0 : List BE := [(BE.lit true), (BE.le (IE.lit 1) (IE.var .i64 1)), (BE.le (IE.var .i64 1) (IE.lit 64)), (BE.le (IE.lit 1) (IE.var .i64 2)), (BE.le (IE.var .i64 2) (IE.lit 8)), (BE.le (IE.lit 1) (IE.var .i64 3)), (BE.le (IE.var .i64 3) (IE.lit 4)), (BE.fn 2 (AL.int .i64 (IE.var .i64 1) (AL.int .i64 (IE.var .i64 2) (AL.int .i64 (IE.var .i64 3) AL.nil)))), (BE.le (IE.var .i64 3) (IE.lit 4)), (BE.le (IE.lit 1) (IE.var .i64 3)), (BE.le (IE.var .i64 2) (IE.lit 8)), (BE.le (IE.lit 1) (IE.var .i64 2)), (BE.le (IE.var .i64 1) (IE.lit 64)), (BE.le (IE.lit 1) (IE.var .i64 1)), (BE.le (IE.lit 0) (IE.var .i64 281266)), (BE.le (IE.lit 0) (IE.var .i64 281265))]
def pceach3_1 : List BE := ((BE.le (IE.var .i64 1) (IE.var .i64 281265)) :: pceach3_0)
def weach3_0 : VW := (VW.done ((BE.eq (IE.var .i64 281266) (IE.wrap .i64 (IE.mul (IE.var .i64 1) (IE.var .i64 3)))) :: pceach3_1) (some []))
def weach3_1 : VW := (VW.done ((BE.not (BE.eq (IE.var .i64 281266) (IE.wrap .i64 (IE.mul (IE.var .i64 1) (IE.var .i64 3))))) :: pceach3_1) (some [(G.b (BE.lit true) (BE.lit false))]))
def weach3_2 : VW := (VW.cut 4 ((BE.not (BE.le (IE.var .i64 1) (IE.var .i64 281265))) :: pceach3_0) (Sx.Sub.mk [(.i64, (301267, (IE.var .i64 281266))), (.i64, (301265, (IE.lit 0))), (.i64, (301266, (IE.var .i64 281265)))] [] [] [] [] []))
def vweach3 : List VW := [weach3_0, weach3_1, weach3_2]
def pceach4_0 : List BE := [(BE.lit true), (BE.le (IE.lit 1) (IE.var .i64 1)), (BE.le (IE.var .i64 1) (IE.lit 64)), (BE.le (IE.lit 1) (IE.var .i64 2)), (BE.le (IE.var .i64 2) (IE.lit 8)), (BE.le (IE.lit 1) (IE.var .i64 3)), (BE.le (IE.var .i64 3) (IE.lit 4)), (BE.fn 2 (AL.int .i64 (IE.var .i64 1) (AL.int .i64 (IE.var .i64 2) (AL.int .i64 (IE.var .i64 3) AL.nil)))), (BE.le (IE.var .i64 3) (IE.lit 4)), (BE.le (IE.lit 1) (IE.var .i64 3)), (BE.le (IE.var .i64 2) (IE.lit 8)), (BE.le (IE.lit 1) (IE.var .i64 2)), (BE.le (IE.var .i64 1) (IE.lit 64)), (BE.le (IE.lit 1) (IE.var .i64 1)), (BE.le (IE.lit 0) (IE.var .i64 301265)), (BE.not (BE.le (IE.var .i64 1) (IE.var .i64 301266))), (BE.le (IE.lit 0) (IE.var .i64 301267)), (BE.le (IE.lit 0) (IE.var .i64 301266))]
def pceach4_1 : List BE := ((BE.not (BE.le (IE.var .i64 3) (IE.var .i64 301265))) :: pceach4_0)
def pceach4_2 : List BE := ((BE.not (BE.le (IE.wrap .i64 (IE.mul (IE.var .i64 1) (IE.var .i64 3))) (IE.var .i64 301267))) :: pceach4_1)
def pceach4_3 : List BE := ((BE.eq (IE.var .i64 301266) (IE.bin BinOp.quo .i64 (IE.var .i64 301267) (IE.var .i64 3))) :: pceach4_2)
def weach4_0 : VW := (VW.cut 3 ((BE.le (IE.var .i64 3) (IE.var .i64 301265)) :: pceach4_0) (Sx.Sub.mk [(.i64, (281266, (IE.var .i64 301267))), (.i64, (281265, (IE.add (IE.var .i64 301266) (IE.lit 1))))] [] [] [] [] []))
def weach4_1 : VW := (VW.done ((BE.le (IE.wrap .i64 (IE.mul (IE.var .i64 1) (IE.var .i64 3))) (IE.var .i64 301267)) :: pceach4_1) (some [(G.b (BE.lit true) (BE.lit false))]))
def weach4_2 : VW := (VW.cut 4 ((BE.eq (IE.var .i64 301265) (IE.bin BinOp.rem .i64 (IE.var .i64 301267) (IE.var .i64 3))) :: pceach4_3) (Sx.Sub.mk [(.i64, (301267, (IE.add (IE.var .i64 301267) (IE.lit 1)))), (.i64, (301265, (IE.add (IE.var .i64 301265) (IE.lit 1)))), (.i64, (301266, (IE.var .i64 301266)))] [] [] [] [] []))
def weach4_3 : VW := (VW.done ((BE.not (BE.eq (IE.var .i64 301265) (IE.bin BinOp.rem .i64 (IE.var .i64 301267) (IE.var .i64 3)))) :: pceach4_3) (some [(G.b (BE.lit true) (BE.lit false))]))
def weach4_4 : VW := (VW.done ((BE.not (BE.eq (IE.var .i64 301266) (IE.bin BinOp.quo .i64 (IE.var .i64 301267) (IE.var .i64 3)))) :: pceach4_2) (some [(G.b (BE.lit true) (BE.lit false))]))
def vweach4 : List VW := [weach4_0, weach4_1, weach4_2, weach4_3, weach4_4]
def vweach : Nat → List VW
  | 0 => vweach0
  | 1 => vweach1
  | 2 => vweach2
  | 3 => vweach3
  | 4 => vweach4
  | _ => []
end
def inveach : Nat → Lt → Prop
  | 1, l => (l.i .i64 1001) = (l.i .i64 1000) * (l.i .i64 3) ∧ 0 ≤ (l.i .i64 1000) ∧ (l.i .i64 1000) ≤ (l.i .i64 1) ∧ ((l.i .i64 1001) = 0 ∨ (l.i .i64 1001) < (l.i .i64 4))
  | 2, l => (l.i .i64 281267) = (l.i .i64 281266) * (l.i .i64 3) + (l.i .i64 281265) ∧ 0 ≤ (l.i .i64 281266) ∧ (l.i .i64 281266) < (l.i .i64 1) ∧ 0 ≤ (l.i .i64 281265) ∧ (l.i .i64 281265) ≤ (l.i .i64 3) ∧ ((l.i .i64 281267) = 0 ∨ (l.i .i64 281267) < (l.i .i64 4))
  | 3, l => (l.i .i64 281266) = (l.i .i64 281265) * (l.i .i64 3) ∧ 0 ≤ (l.i .i64 281265) ∧ (l.i .i64 281265) ≤ (l.i .i64 1)
  | 4, l => (l.i .i64 301267) = (l.i .i64 301266) * (l.i .i64 3) + (l.i .i64 301265) ∧ 0 ≤ (l.i .i64 301266) ∧ (l.i .i64 301266) < (l.i .i64 1) ∧ 0 ≤ (l.i .i64 301265) ∧ (l.i .i64 301265) ≤ (l.i .i64 3)
  | _, _ => True
def mseach : Nat → Lt → Nat
  | 0, l => 3000
  | 1, l => 2000 + 6 * ((l.i .i64 1) - (l.i .i64 1000)).toNat
  | 2, l => 2000 + 6 * ((l.i .i64 1) - (l.i .i64 281266)).toNat - 1 - (l.i .i64 281265).toNat
  | 3, l => 6 * ((l.i .i64 1) - (l.i .i64 281265)).toNat + 2
  | 4, l => 6 * ((l.i .i64 1) - (l.i .i64 301266)).toNat + 1 - (l.i .i64 301265).toNat
  | _, _ => 0
theorem vceach0_0 : VC TTeach inveach mseach 0 (startF 6 cEach.pat [.lit true]) weach0_0 := by
  intro ρ kn hi hp
  have hF : ρ.z.F = sit.Φ := kn.F
  simp only [h_nil, h_cons, d_le, d_eq, d_not, d_var, d_lit, d_cel, d_leq, d_fn, d_and, d_iff, IE.den, LE.den, AL.den, lenV, true_and, and_true, pceach0_0, hF, pb2, pi1, pi3] at hp
  obtain ⟨p1, p2, p3, p4, p5, p6, p7⟩ := hp
  refine (show ((0 : Int) = (0 : Int) * (ρ.i .i64 3) ∧ 0 ≤ (0 : Int) ∧ (0 : Int) ≤ (ρ.i .i64 1) ∧ ((0 : Int) = 0 ∨ (0 : Int) < (ρ.i .i64 4))) ∧ ((2000 + 6 * ((ρ.i .i64 1) - (0 : Int)).toNat : Nat) < 3000) from ?_)
  omega
def iveach1 (ρ : Rho) : Prop := (ρ.i .i64 1001) = (ρ.i .i64 1000) * (ρ.i .i64 3) ∧ 0 ≤ (ρ.i .i64 1000) ∧ (ρ.i .i64 1000) ≤ (ρ.i .i64 1) ∧ ((ρ.i .i64 1001) = 0 ∨ (ρ.i .i64 1001) < (ρ.i .i64 4))
theorem vcgeach1_0 : VC TTeach inveach mseach 1 teach1 weach1_1 ∧ VC TTeach inveach mseach 1 teach1 weach1_3 ∧ VC TTeach inveach mseach 1 teach1 weach1_5 ∧ VC TTeach inveach mseach 1 teach1 weach1_7 := by
  refine ⟨?_, ?_, ?_, ?_⟩
  all_goals
    intro ρ kn hi hp
    have hi : iveach1 ρ := hi
    unfold iveach1 at hi
    have hF : ρ.z.F = sit.Φ := kn.F
    simp only [h_nil, h_cons, d_le, d_eq, d_not, d_var, d_lit, d_cel, d_leq, d_fn, d_and, d_iff, IE.den, LE.den, AL.den, lenV, true_and, and_true, pceach1_4, pceach1_2, pceach1_1, pceach1_0, pceach1_5, pceach1_6, pceach1_3, pceach1_7, hF, pb2, pi1, pi3] at hp
    have p1 := And.left hp
    replace hp := And.right hp
    repeat (have _ := And.left hp; replace hp := And.right hp)
    exfalso
    all_goals
      obtain ⟨w1, w2, w3, w4⟩ := prod_in (n := ρ.i .i64 1) (s := ρ.i .i64 3) (by omega) (by omega) (by omega) (by omega)
      by_cases c : ρ.i .i64 1000 = ρ.i .i64 1
      · rw [c] at hi
        omega
      · omega
theorem vceach1_0 : VC TTeach inveach mseach 1 teach1 weach1_0 := by
  intro ρ kn hi hp
  have hi : iveach1 ρ := hi
  unfold iveach1 at hi
  have hF : ρ.z.F = sit.Φ := kn.F
  simp only [h_nil, h_cons, d_le, d_eq, d_not, d_var, d_lit, d_cel, d_leq, d_fn, d_and, d_iff, IE.den, LE.den, AL.den, lenV, true_and, and_true, pceach1_4, pceach1_2, pceach1_1, pceach1_0, hF, pb2, pi1, pi3] at hp
  obtain ⟨p1, p2, p3, p4, p5, p6, p7, p8, p9, p10, p11, p12, p13, p14, p15, p16, p17, p18, p19⟩ := hp
  refine (show ((0 : Int) = (0 : Int) * (ρ.i .i64 3) ∧ 0 ≤ (0 : Int) ∧ (0 : Int) ≤ (ρ.i .i64 1)) ∧ ((6 * ((ρ.i .i64 1) - (0 : Int)).toNat + 2 : Nat) < 2000 + 6 * ((ρ.i .i64 1) - (ρ.i .i64 1000)).toNat) from ?_)
  obtain ⟨w1, w2, w3, w4⟩ := prod_in (n := ρ.i .i64 1) (s := ρ.i .i64 3) (by omega) (by omega) (by omega) (by omega)
  by_cases c : ρ.i .i64 1000 = ρ.i .i64 1
  · rw [c] at hi
    omega
  · omega
theorem vceach1_2 : VC TTeach inveach mseach 1 teach1 weach1_2 := by
  intro ρ kn hi hp
  have hi : iveach1 ρ := hi
  unfold iveach1 at hi
  have hF : ρ.z.F = sit.Φ := kn.F
  simp only [h_nil, h_cons, d_le, d_eq, d_not, d_var, d_lit, d_cel, d_leq, d_fn, d_and, d_iff, IE.den, LE.den, AL.den, lenV, true_and, and_true, pceach1_5, pceach1_2, pceach1_1, pceach1_0, hF, pb2, pi1, pi3] at hp
  obtain ⟨p1, p2, p3, p4, p5, p6, p7, p8, p9, p10, p11, p12, p13, p14, p15, p16, p17, p18, p19⟩ := hp
  refine (show ((0 : Int) = (0 : Int) * (ρ.i .i64 3) ∧ 0 ≤ (0 : Int) ∧ (0 : Int) ≤ (ρ.i .i64 1)) ∧ ((6 * ((ρ.i .i64 1) - (0 : Int)).toNat + 2 : Nat) < 2000 + 6 * ((ρ.i .i64 1) - (ρ.i .i64 1000)).toNat) from ?_)
  obtain ⟨w1, w2, w3, w4⟩ := prod_in (n := ρ.i .i64 1) (s := ρ.i .i64 3) (by omega) (by omega) (by omega) (by omega)
  by_cases c : ρ.i .i64 1000 = ρ.i .i64 1
  · rw [c] at hi
    omega
  · omega
theorem vceach1_4 : VC TTeach inveach mseach 1 teach1 weach1_4 := by
  intro ρ kn hi hp
  have hi : iveach1 ρ := hi
  unfold iveach1 at hi
  have hF : ρ.z.F = sit.Φ := kn.F
  simp only [h_nil, h_cons, d_le, d_eq, d_not, d_var, d_lit, d_cel, d_leq, d_fn, d_and, d_iff, IE.den, LE.den, AL.den, lenV, true_and, and_true, pceach1_6, pceach1_3, pceach1_1, pceach1_0, hF, pb2, pi1, pi3] at hp
  obtain ⟨p1, p2, p3, p4, p5, p6, p7, p8, p9, p10, p11, p12, p13, p14, p15, p16, p17, p18, p19⟩ := hp
  refine (show ((0 : Int) = (0 : Int) * (ρ.i .i64 3) ∧ 0 ≤ (0 : Int) ∧ (0 : Int) ≤ (ρ.i .i64 1)) ∧ ((6 * ((ρ.i .i64 1) - (0 : Int)).toNat + 2 : Nat) < 2000 + 6 * ((ρ.i .i64 1) - (ρ.i .i64 1000)).toNat) from ?_)
  obtain ⟨w1, w2, w3, w4⟩ := prod_in (n := ρ.i .i64 1) (s := ρ.i .i64 3) (by omega) (by omega) (by omega) (by omega)
  by_cases c : ρ.i .i64 1000 = ρ.i .i64 1
  · rw [c] at hi
    omega
  · omega
theorem vceach1_6 : VC TTeach inveach mseach 1 teach1 weach1_6 := by
  intro ρ kn hi hp
  have hi : iveach1 ρ := hi
  unfold iveach1 at hi
  have hF : ρ.z.F = sit.Φ := kn.F
  simp only [h_nil, h_cons, d_le, d_eq, d_not, d_var, d_lit, d_cel, d_leq, d_fn, d_and, d_iff, IE.den, LE.den, AL.den, lenV, true_and, and_true, pceach1_7, pceach1_3, pceach1_1, pceach1_0, hF, pb2, pi1, pi3] at hp
  obtain ⟨p1, p2, p3, p4, p5, p6, p7, p8, p9, p10, p11, p12, p13, p14, p15, p16, p17, p18, p19⟩ := hp
  refine (show ((0 : Int) = (0 : Int) * (ρ.i .i64 3) ∧ 0 ≤ (0 : Int) ∧ (0 : Int) ≤ (ρ.i .i64 1)) ∧ ((6 * ((ρ.i .i64 1) - (0 : Int)).toNat + 2 : Nat) < 2000 + 6 * ((ρ.i .i64 1) - (ρ.i .i64 1000)).toNat) from ?_)
  obtain ⟨w1, w2, w3, w4⟩ := prod_in (n := ρ.i .i64 1) (s := ρ.i .i64 3) (by omega) (by omega) (by omega) (by omega)
  by_cases c : ρ.i .i64 1000 = ρ.i .i64 1
  · rw [c] at hi
    omega
  · omega
theorem vceach1_8 : VC TTeach inveach mseach 1 teach1 weach1_8 := by
  intro ρ kn hi hp
  have hi : iveach1 ρ := hi
  unfold iveach1 at hi
  have hF : ρ.z.F = sit.Φ := kn.F
  simp only [h_nil, h_cons, d_le, d_eq, d_not, d_var, d_lit, d_cel, d_leq, d_fn, d_and, d_iff, IE.den, LE.den, AL.den, lenV, true_and, and_true, pceach1_0, hF, pb2, pi1, pi3] at hp
  obtain ⟨p1, p2, p3, p4, p5, p6, p7, p8, p9, p10⟩ := hp
  refine (show ((ρ.i .i64 1001) = (ρ.i .i64 1000) * (ρ.i .i64 3) + (0 : Int) ∧ 0 ≤ (ρ.i .i64 1000) ∧ (ρ.i .i64 1000) < (ρ.i .i64 1) ∧ 0 ≤ (0 : Int) ∧ (0 : Int) ≤ (ρ.i .i64 3) ∧ ((ρ.i .i64 1001) = 0 ∨ (ρ.i .i64 1001) < (ρ.i .i64 4))) ∧ ((2000 + 6 * ((ρ.i .i64 1) - (ρ.i .i64 1000)).toNat - 1 - (0 : Int).toNat : Nat) < 2000 + 6 * ((ρ.i .i64 1) - (ρ.i .i64 1000)).toNat) from ?_)
  obtain ⟨w1, w2, w3, w4⟩ := prod_in (n := ρ.i .i64 1) (s := ρ.i .i64 3) (by omega) (by omega) (by omega) (by omega)
  by_cases c : ρ.i .i64 1000 = ρ.i .i64 1
  · rw [c] at hi
    omega
  · omega
def iveach2 (ρ : Rho) : Prop := (ρ.i .i64 281267) = (ρ.i .i64 281266) * (ρ.i .i64 3) + (ρ.i .i64 281265) ∧ 0 ≤ (ρ.i .i64 281266) ∧ (ρ.i .i64 281266) < (ρ.i .i64 1) ∧ 0 ≤ (ρ.i .i64 281265) ∧ (ρ.i .i64 281265) ≤ (ρ.i .i64 3) ∧ ((ρ.i .i64 281267) = 0 ∨ (ρ.i .i64 281267) < (ρ.i .i64 4))
theorem vcgeach2_0 : VC TTeach inveach mseach 2 teach2 weach2_1 ∧ VC TTeach inveach mseach 2 teach2 weach2_4 ∧ VC TTeach inveach mseach 2 teach2 weach2_7 ∧ VC TTeach inveach mseach 2 teach2 weach2_9 ∧ VC TTeach inveach mseach 2 teach2 weach2_10 := by
  refine ⟨?_, ?_, ?_, ?_, ?_⟩
  all_goals
    intro ρ kn hi hp
    have hi : iveach2 ρ := hi
    unfold iveach2 at hi
    have hF : ρ.z.F = sit.Φ := kn.F
    simp only [h_nil, h_cons, d_le, d_eq, d_not, d_var, d_lit, d_cel, d_leq, d_fn, d_and, d_iff, IE.den, LE.den, AL.den, lenV, true_and, and_true, pceach2_1, pceach2_0, pceach2_8, pceach2_6, pceach2_5, pceach2_4, pceach2_3, pceach2_2, pceach2_9, pceach2_7, hF, pb2, pi1, pi3] at hp
    have p1 := And.left hp
    replace hp := And.right hp
    repeat (have _ := And.left hp; replace hp := And.right hp)
    exfalso
    all_goals
      obtain ⟨w1, w2, w3, w4⟩ := prod_in (n := ρ.i .i64 1) (s := ρ.i .i64 3) (by omega) (by omega) (by omega) (by omega)
      have m := row_next (ρ.i .i64 281266) (ρ.i .i64 3)
      by_cases c : ρ.i .i64 281265 ≤ ρ.i .i64 3 - 1
      · obtain ⟨e1, e2, e3, e4⟩ := each_at (N := ρ.i .i64 1) (s := ρ.i .i64 3) (a := ρ.i .i64 281266) (b := ρ.i .i64 281265) (n := ρ.i .i64 281267) (by omega) (by omega) (by omega) (by omega) (by omega) (by omega) (by omega) c hi.1
        omega
      · omega
theorem vceach2_0 : VC TTeach inveach mseach 2 teach2 weach2_0 := by
  intro ρ kn hi hp
  have hi : iveach2 ρ := hi
  unfold iveach2 at hi
  have hF : ρ.z.F = sit.Φ := kn.F
  simp only [h_nil, h_cons, d_le, d_eq, d_not, d_var, d_lit, d_cel, d_leq, d_fn, d_and, d_iff, IE.den, LE.den, AL.den, lenV, true_and, and_true, pceach2_0, hF, pb2, pi1, pi3] at hp
  obtain ⟨p1, p2, p3, p4, p5, p6, p7, p8, p9, p10, p11, p12⟩ := hp
  refine (show ((ρ.i .i64 281267) = ((ρ.i .i64 281266) + (1 : Int)) * (ρ.i .i64 3) ∧ 0 ≤ ((ρ.i .i64 281266) + (1 : Int)) ∧ ((ρ.i .i64 281266) + (1 : Int)) ≤ (ρ.i .i64 1) ∧ ((ρ.i .i64 281267) = 0 ∨ (ρ.i .i64 281267) < (ρ.i .i64 4))) ∧ ((2000 + 6 * ((ρ.i .i64 1) - ((ρ.i .i64 281266) + (1 : Int))).toNat : Nat) < 2000 + 6 * ((ρ.i .i64 1) - (ρ.i .i64 281266)).toNat - 1 - (ρ.i .i64 281265).toNat) from ?_)
  obtain ⟨w1, w2, w3, w4⟩ := prod_in (n := ρ.i .i64 1) (s := ρ.i .i64 3) (by omega) (by omega) (by omega) (by omega)
  have m := row_next (ρ.i .i64 281266) (ρ.i .i64 3)
  by_cases c : ρ.i .i64 281265 ≤ ρ.i .i64 3 - 1
  · obtain ⟨e1, e2, e3, e4⟩ := each_at (N := ρ.i .i64 1) (s := ρ.i .i64 3) (a := ρ.i .i64 281266) (b := ρ.i .i64 281265) (n := ρ.i .i64 281267) (by omega) (by omega) (by omega) (by omega) (by omega) (by omega) (by omega) c hi.1
    omega
  · omega
theorem vceach2_2 : VC TTeach inveach mseach 2 teach2 weach2_2 := by
  intro ρ kn hi hp
  have hi : iveach2 ρ := hi
  unfold iveach2 at hi
  have hF : ρ.z.F = sit.Φ := kn.F
  simp only [h_nil, h_cons, d_le, d_eq, d_not, d_var, d_lit, d_cel, d_leq, d_fn, d_and, d_iff, IE.den, LE.den, AL.den, lenV, true_and, and_true, pceach2_6, pceach2_5, pceach2_4, pceach2_3, pceach2_2, pceach2_1, pceach2_0, hF, pb2, pi1, pi3] at hp
  obtain ⟨p1, p2, p3, p4, p5, p6, p7, p8, p9, p10, p11, p12, p13, p14, p15, p16, p17, p18, p19, p20, p21, p22, p23, p24⟩ := hp
  refine (show ((0 : Int) = (0 : Int) * (ρ.i .i64 3) ∧ 0 ≤ (0 : Int) ∧ (0 : Int) ≤ (ρ.i .i64 1)) ∧ ((6 * ((ρ.i .i64 1) - (0 : Int)).toNat + 2 : Nat) < 2000 + 6 * ((ρ.i .i64 1) - (ρ.i .i64 281266)).toNat - 1 - (ρ.i .i64 281265).toNat) from ?_)
  obtain ⟨w1, w2, w3, w4⟩ := prod_in (n := ρ.i .i64 1) (s := ρ.i .i64 3) (by omega) (by omega) (by omega) (by omega)
  have m := row_next (ρ.i .i64 281266) (ρ.i .i64 3)
  by_cases c : ρ.i .i64 281265 ≤ ρ.i .i64 3 - 1
  · obtain ⟨e1, e2, e3, e4⟩ := each_at (N := ρ.i .i64 1) (s := ρ.i .i64 3) (a := ρ.i .i64 281266) (b := ρ.i .i64 281265) (n := ρ.i .i64 281267) (by omega) (by omega) (by omega) (by omega) (by omega) (by omega) (by omega) c hi.1
    omega
  · omega
theorem vceach2_3 : VC TTeach inveach mseach 2 teach2 weach2_3 := by
  intro ρ kn hi hp
  have hi : iveach2 ρ := hi
  unfold iveach2 at hi
  have hF : ρ.z.F = sit.Φ := kn.F
  simp only [h_nil, h_cons, d_le, d_eq, d_not, d_var, d_lit, d_cel, d_leq, d_fn, d_and, d_iff, IE.den, LE.den, AL.den, lenV, true_and, and_true, pceach2_8, pceach2_6, pceach2_5, pceach2_4, pceach2_3, pceach2_2, pceach2_1, pceach2_0, hF, pb2, pi1, pi3] at hp
  obtain ⟨p1, p2, p3, p4, p5, p6, p7, p8, p9, p10, p11, p12, p13, p14, p15, p16, p17, p18, p19, p20, p21, p22, p23, p24, p25⟩ := hp
  refine (show ((0 : Int) = (0 : Int) * (ρ.i .i64 3) ∧ 0 ≤ (0 : Int) ∧ (0 : Int) ≤ (ρ.i .i64 1)) ∧ ((6 * ((ρ.i .i64 1) - (0 : Int)).toNat + 2 : Nat) < 2000 + 6 * ((ρ.i .i64 1) - (ρ.i .i64 281266)).toNat - 1 - (ρ.i .i64 281265).toNat) from ?_)
  obtain ⟨w1, w2, w3, w4⟩ := prod_in (n := ρ.i .i64 1) (s := ρ.i .i64 3) (by omega) (by omega) (by omega) (by omega)
  have m := row_next (ρ.i .i64 281266) (ρ.i .i64 3)
  by_cases c : ρ.i .i64 281265 ≤ ρ.i .i64 3 - 1
  · obtain ⟨e1, e2, e3, e4⟩ := each_at (N := ρ.i .i64 1) (s := ρ.i .i64 3) (a := ρ.i .i64 281266) (b := ρ.i .i64 281265) (n := ρ.i .i64 281267) (by omega) (by omega) (by omega) (by omega) (by omega) (by omega) (by omega) c hi.1
    omega
  · omega
theorem vceach2_5 : VC TTeach inveach mseach 2 teach2 weach2_5 := by
  intro ρ kn hi hp
  have hi : iveach2 ρ := hi
  unfold iveach2 at hi
  have hF : ρ.z.F = sit.Φ := kn.F
  simp only [h_nil, h_cons, d_le, d_eq, d_not, d_var, d_lit, d_cel, d_leq, d_fn, d_and, d_iff, IE.den, LE.den, AL.den, lenV, true_and, and_true, pceach2_7, pceach2_5, pceach2_4, pceach2_3, pceach2_2, pceach2_1, pceach2_0, hF, pb2, pi1, pi3] at hp
  obtain ⟨p1, p2, p3, p4, p5, p6, p7, p8, p9, p10, p11, p12, p13, p14, p15, p16, p17, p18, p19, p20, p21, p22, p23, p24⟩ := hp
  refine (show ((0 : Int) = (0 : Int) * (ρ.i .i64 3) ∧ 0 ≤ (0 : Int) ∧ (0 : Int) ≤ (ρ.i .i64 1)) ∧ ((6 * ((ρ.i .i64 1) - (0 : Int)).toNat + 2 : Nat) < 2000 + 6 * ((ρ.i .i64 1) - (ρ.i .i64 281266)).toNat - 1 - (ρ.i .i64 281265).toNat) from ?_)
  obtain ⟨w1, w2, w3, w4⟩ := prod_in (n := ρ.i .i64 1) (s := ρ.i .i64 3) (by omega) (by omega) (by omega) (by omega)
  have m := row_next (ρ.i .i64 281266) (ρ.i .i64 3)
  by_cases c : ρ.i .i64 281265 ≤ ρ.i .i64 3 - 1
  · obtain ⟨e1, e2, e3, e4⟩ := each_at (N := ρ.i .i64 1) (s := ρ.i .i64 3) (a := ρ.i .i64 281266) (b := ρ.i .i64 281265) (n := ρ.i .i64 281267) (by omega) (by omega) (by omega) (by omega) (by omega) (by omega) (by omega) c hi.1
    omega
  · omega
theorem vceach2_6 : VC TTeach inveach mseach 2 teach2 weach2_6 := by
  intro ρ kn hi hp
  have hi : iveach2 ρ := hi
  unfold iveach2 at hi
  have hF : ρ.z.F = sit.Φ := kn.F
  simp only [h_nil, h_cons, d_le, d_eq, d_not, d_var, d_lit, d_cel, d_leq, d_fn, d_and, d_iff, IE.den, LE.den, AL.den, lenV, true_and, and_true, pceach2_9, pceach2_7, pceach2_5, pceach2_4, pceach2_3, pceach2_2, pceach2_1, pceach2_0, hF, pb2, pi1, pi3] at hp
  obtain ⟨p1, p2, p3, p4, p5, p6, p7, p8, p9, p10, p11, p12, p13, p14, p15, p16, p17, p18, p19, p20, p21, p22, p23, p24, p25⟩ := hp
  refine (show ((0 : Int) = (0 : Int) * (ρ.i .i64 3) ∧ 0 ≤ (0 : Int) ∧ (0 : Int) ≤ (ρ.i .i64 1)) ∧ ((6 * ((ρ.i .i64 1) - (0 : Int)).toNat + 2 : Nat) < 2000 + 6 * ((ρ.i .i64 1) - (ρ.i .i64 281266)).toNat - 1 - (ρ.i .i64 281265).toNat) from ?_)
  obtain ⟨w1, w2, w3, w4⟩ := prod_in (n := ρ.i .i64 1) (s := ρ.i .i64 3) (by omega) (by omega) (by omega) (by omega)
  have m := row_next (ρ.i .i64 281266) (ρ.i .i64 3)
  by_cases c : ρ.i .i64 281265 ≤ ρ.i .i64 3 - 1
  · obtain ⟨e1, e2, e3, e4⟩ := each_at (N := ρ.i .i64 1) (s := ρ.i .i64 3) (a := ρ.i .i64 281266) (b := ρ.i .i64 281265) (n := ρ.i .i64 281267) (by omega) (by omega) (by omega) (by omega) (by omega) (by omega) (by omega) c hi.1
    omega
  · omega
theorem vceach2_8 : VC TTeach inveach mseach 2 teach2 weach2_8 := by
  intro ρ kn hi hp
  have hi : iveach2 ρ := hi
  unfold iveach2 at hi
  have hF : ρ.z.F = sit.Φ := kn.F
  simp only [h_nil, h_cons, d_le, d_eq, d_not, d_var, d_lit, d_cel, d_leq, d_fn, d_and, d_iff, IE.den, LE.den, AL.den, lenV, true_and, and_true, pceach2_4, pceach2_3, pceach2_2, pceach2_1, pceach2_0, hF, pb2, pi1, pi3] at hp
  obtain ⟨p1, p2, p3, p4, p5, p6, p7, p8, p9, p10, p11, p12, p13, p14, p15, p16⟩ := hp
  refine (show (((ρ.i .i64 281267) + (1 : Int)) = (ρ.i .i64 281266) * (ρ.i .i64 3) + ((ρ.i .i64 281265) + (1 : Int)) ∧ 0 ≤ (ρ.i .i64 281266) ∧ (ρ.i .i64 281266) < (ρ.i .i64 1) ∧ 0 ≤ ((ρ.i .i64 281265) + (1 : Int)) ∧ ((ρ.i .i64 281265) + (1 : Int)) ≤ (ρ.i .i64 3) ∧ (((ρ.i .i64 281267) + (1 : Int)) = 0 ∨ ((ρ.i .i64 281267) + (1 : Int)) < (ρ.i .i64 4))) ∧ ((2000 + 6 * ((ρ.i .i64 1) - (ρ.i .i64 281266)).toNat - 1 - ((ρ.i .i64 281265) + (1 : Int)).toNat : Nat) < 2000 + 6 * ((ρ.i .i64 1) - (ρ.i .i64 281266)).toNat - 1 - (ρ.i .i64 281265).toNat) from ?_)
  obtain ⟨w1, w2, w3, w4⟩ := prod_in (n := ρ.i .i64 1) (s := ρ.i .i64 3) (by omega) (by omega) (by omega) (by omega)
  have m := row_next (ρ.i .i64 281266) (ρ.i .i64 3)
  by_cases c : ρ.i .i64 281265 ≤ ρ.i .i64 3 - 1
  · obtain ⟨e1, e2, e3, e4⟩ := each_at (N := ρ.i .i64 1) (s := ρ.i .i64 3) (a := ρ.i .i64 281266) (b := ρ.i .i64 281265) (n := ρ.i .i64 281267) (by omega) (by omega) (by omega) (by omega) (by omega) (by omega) (by omega) c hi.1
    omega
  · omega
def iveach3 (ρ : Rho) : Prop := (ρ.i .i64 281266) = (ρ.i .i64 281265) * (ρ.i .i64 3) ∧ 0 ≤ (ρ.i .i64 281265) ∧ (ρ.i .i64 281265) ≤ (ρ.i .i64 1)
theorem vceach3_1 : VC TTeach inveach mseach 3 teach3 weach3_1 := by
  intro ρ kn hi hp
  have hi : iveach3 ρ := hi
  unfold iveach3 at hi
  have hF : ρ.z.F = sit.Φ := kn.F
  simp only [h_nil, h_cons, d_le, d_eq, d_not, d_var, d_lit, d_cel, d_leq, d_fn, d_and, d_iff, IE.den, LE.den, AL.den, lenV, true_and, and_true, pceach3_1, pceach3_0, hF, pb2, pi1, pi3] at hp
  obtain ⟨p1, p2, p3, p4, p5, p6, p7, p8, p9, p10, p11, p12, p13, p14, p15, p16, p17⟩ := hp
  exfalso
  all_goals
    obtain ⟨w1, w2, w3, w4⟩ := prod_in (n := ρ.i .i64 1) (s := ρ.i .i64 3) (by omega) (by omega) (by omega) (by omega)
    by_cases c : ρ.i .i64 281265 = ρ.i .i64 1
    · rw [c] at hi
      omega
    · omega
theorem vceach3_2 : VC TTeach inveach mseach 3 teach3 weach3_2 := by
  intro ρ kn hi hp
  have hi : iveach3 ρ := hi
  unfold iveach3 at hi
  have hF : ρ.z.F = sit.Φ := kn.F
  simp only [h_nil, h_cons, d_le, d_eq, d_not, d_var, d_lit, d_cel, d_leq, d_fn, d_and, d_iff, IE.den, LE.den, AL.den, lenV, true_and, and_true, pceach3_0, hF, pb2, pi1, pi3] at hp
  obtain ⟨p1, p2, p3, p4, p5, p6, p7, p8, p9, p10, p11, p12, p13, p14, p15, p16⟩ := hp
  refine (show ((ρ.i .i64 281266) = (ρ.i .i64 281265) * (ρ.i .i64 3) + (0 : Int) ∧ 0 ≤ (ρ.i .i64 281265) ∧ (ρ.i .i64 281265) < (ρ.i .i64 1) ∧ 0 ≤ (0 : Int) ∧ (0 : Int) ≤ (ρ.i .i64 3)) ∧ ((6 * ((ρ.i .i64 1) - (ρ.i .i64 281265)).toNat + 1 - (0 : Int).toNat : Nat) < 6 * ((ρ.i .i64 1) - (ρ.i .i64 281265)).toNat + 2) from ?_)
  obtain ⟨w1, w2, w3, w4⟩ := prod_in (n := ρ.i .i64 1) (s := ρ.i .i64 3) (by omega) (by omega) (by omega) (by omega)
  by_cases c : ρ.i .i64 281265 = ρ.i .i64 1
  · rw [c] at hi
    omega
  · omega
def iveach4 (ρ : Rho) : Prop := (ρ.i .i64 301267) = (ρ.i .i64 301266) * (ρ.i .i64 3) + (ρ.i .i64 301265) ∧ 0 ≤ (ρ.i .i64 301266) ∧ (ρ.i .i64 301266) < (ρ.i .i64 1) ∧ 0 ≤ (ρ.i .i64 301265) ∧ (ρ.i .i64 301265) ≤ (ρ.i .i64 3)
theorem vcgeach4_0 : VC TTeach inveach mseach 4 teach4 weach4_1 ∧ VC TTeach inveach mseach 4 teach4 weach4_3 ∧ VC TTeach inveach mseach 4 teach4 weach4_4 := by
  refine ⟨?_, ?_, ?_⟩
  all_goals
    intro ρ kn hi hp
    have hi : iveach4 ρ := hi
    unfold iveach4 at hi
    have hF : ρ.z.F = sit.Φ := kn.F
    simp only [h_nil, h_cons, d_le, d_eq, d_not, d_var, d_lit, d_cel, d_leq, d_fn, d_and, d_iff, IE.den, LE.den, AL.den, lenV, true_and, and_true, pceach4_1, pceach4_0, pceach4_3, pceach4_2, hF, pb2, pi1, pi3] at hp
    have p1 := And.left hp
    replace hp := And.right hp
    repeat (have _ := And.left hp; replace hp := And.right hp)
    exfalso
    all_goals
      obtain ⟨w1, w2, w3, w4⟩ := prod_in (n := ρ.i .i64 1) (s := ρ.i .i64 3) (by omega) (by omega) (by omega) (by omega)
      have m := row_next (ρ.i .i64 301266) (ρ.i .i64 3)
      by_cases c : ρ.i .i64 301265 ≤ ρ.i .i64 3 - 1
      · obtain ⟨e1, e2, e3, e4⟩ := each_at (N := ρ.i .i64 1) (s := ρ.i .i64 3) (a := ρ.i .i64 301266) (b := ρ.i .i64 301265) (n := ρ.i .i64 301267) (by omega) (by omega) (by omega) (by omega) (by omega) (by omega) (by omega) c hi.1
        omega
      · omega
theorem vceach4_0 : VC TTeach inveach mseach 4 teach4 weach4_0 := by
  intro ρ kn hi hp
  have hi : iveach4 ρ := hi
  unfold iveach4 at hi
  have hF : ρ.z.F = sit.Φ := kn.F
  simp only [h_nil, h_cons, d_le, d_eq, d_not, d_var, d_lit, d_cel, d_leq, d_fn, d_and, d_iff, IE.den, LE.den, AL.den, lenV, true_and, and_true, pceach4_0, hF, pb2, pi1, pi3] at hp
  obtain ⟨p1, p2, p3, p4, p5, p6, p7, p8, p9, p10, p11, p12, p13, p14, p15, p16, p17, p18⟩ := hp
  refine (show ((ρ.i .i64 301267) = ((ρ.i .i64 301266) + (1 : Int)) * (ρ.i .i64 3) ∧ 0 ≤ ((ρ.i .i64 301266) + (1 : Int)) ∧ ((ρ.i .i64 301266) + (1 : Int)) ≤ (ρ.i .i64 1)) ∧ ((6 * ((ρ.i .i64 1) - ((ρ.i .i64 301266) + (1 : Int))).toNat + 2 : Nat) < 6 * ((ρ.i .i64 1) - (ρ.i .i64 301266)).toNat + 1 - (ρ.i .i64 301265).toNat) from ?_)
  obtain ⟨w1, w2, w3, w4⟩ := prod_in (n := ρ.i .i64 1) (s := ρ.i .i64 3) (by omega) (by omega) (by omega) (by omega)
  have m := row_next (ρ.i .i64 301266) (ρ.i .i64 3)
  by_cases c : ρ.i .i64 301265 ≤ ρ.i .i64 3 - 1
  · obtain ⟨e1, e2, e3, e4⟩ := each_at (N := ρ.i .i64 1) (s := ρ.i .i64 3) (a := ρ.i .i64 301266) (b := ρ.i .i64 301265) (n := ρ.i .i64 301267) (by omega) (by omega) (by omega) (by omega) (by omega) (by omega) (by omega) c hi.1
    omega
  · omega
theorem vceach4_2 : VC TTeach inveach mseach 4 teach4 weach4_2 := by
  intro ρ kn hi hp
  have hi : iveach4 ρ := hi
  unfold iveach4 at hi
  have hF : ρ.z.F = sit.Φ := kn.F
  simp only [h_nil, h_cons, d_le, d_eq, d_not, d_var, d_lit, d_cel, d_leq, d_fn, d_and, d_iff, IE.den, LE.den, AL.den, lenV, true_and, and_true, pceach4_3, pceach4_2, pceach4_1, pceach4_0, hF, pb2, pi1, pi3] at hp
  obtain ⟨p1, p2, p3, p4, p5, p6, p7, p8, p9, p10, p11, p12, p13, p14, p15, p16, p17, p18, p19, p20, p21⟩ := hp
  refine (show (((ρ.i .i64 301267) + (1 : Int)) = (ρ.i .i64 301266) * (ρ.i .i64 3) + ((ρ.i .i64 301265) + (1 : Int)) ∧ 0 ≤ (ρ.i .i64 301266) ∧ (ρ.i .i64 301266) < (ρ.i .i64 1) ∧ 0 ≤ ((ρ.i .i64 301265) + (1 : Int)) ∧ ((ρ.i .i64 301265) + (1 : Int)) ≤ (ρ.i .i64 3)) ∧ ((6 * ((ρ.i .i64 1) - (ρ.i .i64 301266)).toNat + 1 - ((ρ.i .i64 301265) + (1 : Int)).toNat : Nat) < 6 * ((ρ.i .i64 1) - (ρ.i .i64 301266)).toNat + 1 - (ρ.i .i64 301265).toNat) from ?_)
  obtain ⟨w1, w2, w3, w4⟩ := prod_in (n := ρ.i .i64 1) (s := ρ.i .i64 3) (by omega) (by omega) (by omega) (by omega)
  have m := row_next (ρ.i .i64 301266) (ρ.i .i64 3)
  by_cases c : ρ.i .i64 301265 ≤ ρ.i .i64 3 - 1
  · obtain ⟨e1, e2, e3, e4⟩ := each_at (N := ρ.i .i64 1) (s := ρ.i .i64 3) (a := ρ.i .i64 301266) (b := ρ.i .i64 301265) (n := ρ.i .i64 301267) (by omega) (by omega) (by omega) (by omega) (by omega) (by omega) (by omega) c hi.1
    omega
  · omega
theorem vcseach0 : ∀ v ∈ vweach 0, VC TTeach inveach mseach 0 (startF 6 cEach.pat [.lit true]) v := all_cons vceach0_0 (all_cons (fun _ _ _ _ => all_nil) (all_cons (fun _ _ _ _ => all_nil) (all_nil)))
theorem okeach0 : cfgOk (startF 6 cEach.pat [.lit true]) = true := by kernel_rfl
theorem sgeach0 : segL cEach.roms cEach (seg TTeach seleach 6000 tmeach (startF 6 cEach.pat [.lit true])) = (true, codesR tmeach (views (seg TTeach seleach 6000 tmeach (startF 6 cEach.pat [.lit true]))), vweach 0) := by kernel_rfl
theorem vcseach1 : ∀ v ∈ vweach 1, VC TTeach inveach mseach 1 teach1 v := all_cons vceach1_0 (all_cons vcgeach1_0.1 (all_cons vceach1_2 (all_cons vcgeach1_0.2.1 (all_cons vceach1_4 (all_cons vcgeach1_0.2.2.1 (all_cons vceach1_6 (all_cons vcgeach1_0.2.2.2 (all_cons vceach1_8 (all_nil)))))))))
theorem okeach1 : cfgOk teach1 = true := by kernel_rfl
theorem sgeach1 : segL cEach.roms cEach (seg TTeach seleach 6000 tmeach teach1) = (true, codesR tmeach (views (seg TTeach seleach 6000 tmeach teach1)), vweach 1) := by kernel_rfl
theorem vcseach2 : ∀ v ∈ vweach 2, VC TTeach inveach mseach 2 teach2 v := all_cons vceach2_0 (all_cons vcgeach2_0.1 (all_cons vceach2_2 (all_cons vceach2_3 (all_cons vcgeach2_0.2.1 (all_cons vceach2_5 (all_cons vceach2_6 (all_cons vcgeach2_0.2.2.1 (all_cons vceach2_8 (all_cons vcgeach2_0.2.2.2.1 (all_cons vcgeach2_0.2.2.2.2 (all_nil)))))))))))
theorem okeach2 : cfgOk teach2 = true := by kernel_rfl
theorem sgeach2 : segL cEach.roms cEach (seg TTeach seleach 6000 tmeach teach2) = (true, codesR tmeach (views (seg TTeach seleach 6000 tmeach teach2)), vweach 2) := by kernel_rfl
theorem vcseach3 : ∀ v ∈ vweach 3, VC TTeach inveach mseach 3 teach3 v := all_cons (fun _ _ _ _ => all_nil) (all_cons vceach3_1 (all_cons vceach3_2 (all_nil)))
theorem okeach3 : cfgOk teach3 = true := by kernel_rfl
theorem sgeach3 : segL cEach.roms cEach (seg TTeach seleach 6000 tmeach teach3) = (true, codesR tmeach (views (seg TTeach seleach 6000 tmeach teach3)), vweach 3) := by kernel_rfl
theorem vcseach4 : ∀ v ∈ vweach 4, VC TTeach inveach mseach 4 teach4 v := all_cons vceach4_0 (all_cons vcgeach4_0.1 (all_cons vceach4_2 (all_cons vcgeach4_0.2.1 (all_cons vcgeach4_0.2.2 (all_nil)))))
theorem okeach4 : cfgOk teach4 = true := by kernel_rfl
theorem sgeach4 : segL cEach.roms cEach (seg TTeach seleach 6000 tmeach teach4) = (true, codesR tmeach (views (seg TTeach seleach 6000 tmeach teach4)), vweach 4) := by kernel_rfl
theorem lneach0 : ∀ ρ, Known TTeach (startF 6 cEach.pat [.lit true]) ρ → inveach 0 ρ.lt → Holds ρ (leanOf (Cfg.pc (startF 6 cEach.pat [.lit true]))) := by
  intro ρ _ _
  exact (show Holds ρ [] from fun p hp => by cases hp)
theorem lneach1 : ∀ ρ, Known TTeach teach1 ρ → inveach 1 ρ.lt → Holds ρ (leanOf (Cfg.pc teach1)) := by
  intro ρ _ _
  exact (show Holds ρ [] from fun p hp => by cases hp)
theorem lneach2 : ∀ ρ, Known TTeach teach2 ρ → inveach 2 ρ.lt → Holds ρ (leanOf (Cfg.pc teach2)) := by
  intro ρ _ _
  exact (show Holds ρ [] from fun p hp => by cases hp)
theorem lneach3 : ∀ ρ, Known TTeach teach3 ρ → inveach 3 ρ.lt → Holds ρ (leanOf (Cfg.pc teach3)) := by
  intro ρ _ _
  exact (show Holds ρ [] from fun p hp => by cases hp)
theorem lneach4 : ∀ ρ, Known TTeach teach4 ρ → inveach 4 ρ.lt → Holds ρ (leanOf (Cfg.pc teach4)) := by
  intro ρ _ _
  exact (show Holds ρ [] from fun p hp => by cases hp)
theorem told_each : Sx.Told sit.Φ cEach := by
  refine told_of (cs := [cWorks, cChk1, cChk2, cShapeS]) (all_cons told_works (all_cons told_chk1 (all_cons told_chk2 (all_cons told_shapeS (all_nil))))) (sel := seleach) 6000 tmeach inveach mseach vweach 0 (pc0 := [.lit true]) (by kernel_rfl) (by kernel_rfl) (by kernel_rfl) (post_nil rfl) ?_ ?_ ?_ rfl (fun ρ _ _ => by simp [Holds, BE.den]) (fun _ _ _ _ => trivial) ?_
  · intro k C h
    have := lk_mem h
    simp only [tmeach, List.mem_cons, Prod.mk.injEq, List.not_mem_nil, or_false] at this
    rcases this with ⟨rfl, rfl⟩ | ⟨rfl, rfl⟩ | ⟨rfl, rfl⟩ | ⟨rfl, rfl⟩ | ⟨rfl, rfl⟩
    · exact okeach0
    · exact okeach1
    · exact okeach2
    · exact okeach3
    · exact okeach4
  · intro k C h
    have := lk_mem h
    simp only [tmeach, List.mem_cons, Prod.mk.injEq, List.not_mem_nil, or_false] at this
    rcases this with ⟨rfl, rfl⟩ | ⟨rfl, rfl⟩ | ⟨rfl, rfl⟩ | ⟨rfl, rfl⟩ | ⟨rfl, rfl⟩
    · exact sgeach0
    · exact sgeach1
    · exact sgeach2
    · exact sgeach3
    · exact sgeach4
  · intro k C h
    have := lk_mem h
    simp only [tmeach, List.mem_cons, Prod.mk.injEq, List.not_mem_nil, or_false] at this
    rcases this with ⟨rfl, rfl⟩ | ⟨rfl, rfl⟩ | ⟨rfl, rfl⟩ | ⟨rfl, rfl⟩ | ⟨rfl, rfl⟩
    · exact vcseach0
    · exact vcseach1
    · exact vcseach2
    · exact vcseach3
    · exact vcseach4
  · intro k C h
    have := lk_mem h
    simp only [tmeach, List.mem_cons, Prod.mk.injEq, List.not_mem_nil, or_false] at this
    rcases this with ⟨rfl, rfl⟩ | ⟨rfl, rfl⟩ | ⟨rfl, rfl⟩ | ⟨rfl, rfl⟩ | ⟨rfl, rfl⟩
    · exact lneach0
    · exact lneach1
    · exact lneach2
    · exact lneach3
    · exact lneach4
end Go.Proofs.YtdfgidogiacmnaaDoor.sit
