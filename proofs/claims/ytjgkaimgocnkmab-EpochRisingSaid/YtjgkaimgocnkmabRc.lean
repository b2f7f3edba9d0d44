/- The law EpochRising, by loops. No condition. -/
import Derived.Test.YtjgkaimgocnkmabRb
set_option linter.unusedVariables false
set_option linter.unusedSimpArgs false
set_option linter.deprecated false
namespace Go.Proofs.Ytjgkaimgocnkmab.rise
open Go Go.Proofs.Ytjgkaimgocnkmab.Sx
theorem told_law0 : Sx.Told Φ cLaw0 := told_auto (cs := [cWorks, cRefOrder, cRefLatest, cLatest]) (all_cons told_works (all_cons told_refOrder (all_cons told_refLatest (all_cons told_latest all_nil)))) 4000 (by kernel_rfl) (by kernel_rfl) (by kernel_rfl) (post_nil rfl) (by kernel_rfl) (by kernel_rfl)
noncomputable section
def tlaw1 : Cfg := { top := ⟨10, over (opqS 10000 117) [(2, (SV.ptr 0 0)), (3, (SV.ptr 1 0)), (4, (SV.ptr 2 0)), (5, (SV.ptr 3 0)), (6, (SV.int .i64 (IE.var .i64 1000)))], ogt (loopTodo (bodyOf (T rise.Φ [] []) 10) 0), [], false, none⟩, rest := [], heap := [(0, .cells [(SV.rom 0 (IE.lit 0) (IE.len (LE.rom 0)) none)] 78), (1, .cells [(SV.int .i64 (IE.var .i64 1))] 3), (2, .cells [(SV.bool (BE.lit false))] 4), (3, .cells [(SV.const (Go.Value.slice none 0 0))] 53)], next := 4, pc := .lit true :: ([.le (.var .i64 1000) (.lit 0)] ++ [(BE.le (IE.lit 1) (IE.len (LE.rom 0))), (BE.le (IE.len (LE.rom 0)) (IE.lit 60)), (BE.le (IE.lit 0) (IE.var .i64 1000)), (BE.not (BE.le (IE.len (LE.rom 0)) (IE.var .i64 1000)))]) }
def tlaw2 : Cfg := { top := ⟨10, over (opqS 10000 117) [(2, (SV.ptr 0 0)), (3, (SV.ptr 1 0)), (4, (SV.ptr 2 0)), (5, (SV.ptr 3 0)), (6, (SV.int .i64 (IE.var .i64 1001)))], ogt (loopTodo (bodyOf (T rise.Φ [] []) 10) 0), [], false, none⟩, rest := [], heap := [(0, .cells [(SV.rom 0 (IE.lit 0) (IE.len (LE.rom 0)) none)] 78), (1, .cells [(SV.int .i64 (IE.var .i64 1))] 3), (2, .cells [(SV.bool (BE.lit false))] 4), (3, .cells [(SV.sll 5 6 1 (IE.lit 0) (IE.var .i64 1002) none)] 53), (5, .rowl (LE.var 1004) (IE.var .i64 1002) [(CK.int .i64)] 3 6 1)], next := 7, pc := .lit true :: ([.le (.lit 1) (.var .i64 1002)] ++ [(BE.le (IE.len (LE.rom 0)) (IE.lit 60)), (BE.le (IE.lit 1) (IE.len (LE.rom 0))), (BE.le (IE.var .i64 1001) (IE.len (LE.rom 0))), (BE.le (IE.var .i64 1002) (IE.var .i64 1001)), (BE.le (IE.lit 0) (IE.var .i64 1002))] ++ (.and (.lit true) (.lit true)) :: [.le (.lit 0) (.cel .i64 (.var 1004) (.sub (.var .i64 1002) (.lit 1)) 0), .not (.le (.len (.rom 0)) (.cel .i64 (.var 1004) (.sub (.var .i64 1002) (.lit 1)) 0))]) }
def tlaw3 : Cfg := { top := ⟨79, over (opqS 10000 28) [(0, (SV.func (Go.Fn.yield 18) [] [])), (3, (SV.ptr 19 0)), (6, (SV.sll 8 9 2 (IE.lit 0) (IE.len (LE.rom 0)) none)), (7, (SV.int .i64 (IE.len (LE.rom 0)))), (8, (SV.int .i64 (IE.var .i64 11857)))], ogt (loopTodo (bodyOf (T rise.Φ [] []) 79) 0), [], false, none⟩, rest := [⟨63, over (opqS 30000 14) [], ogt (rangeTodo (bodyOf (T rise.Φ [] []) 63) 0 18), [17], false, none⟩, ⟨10, over (opqS 50000 117) [(2, (SV.ptr 0 0)), (3, (SV.ptr 1 0)), (4, (SV.ptr 2 0)), (5, (SV.ptr 3 0)), (8, (SV.func (Go.Fn.func 63) [] [(SV.ptr 10 0)])), (9, (SV.ptr 11 0)), (10, (SV.ptr 12 0))], ogt (rangeTodo (bodyOf (T rise.Φ [] []) 10) 0 14), [13], false, none⟩], heap := [(18, .loop .ready none 63 (over (opqS 200000 14) [(2, (SV.ptr 15 0))]) [7, 8] ((rangeCode (bodyOf (T rise.Φ [] []) 63) 0).getD (.skip, .skip)).1 ((rangeCode (bodyOf (T rise.Φ [] []) 63) 0).getD (.skip, .skip)).2 17), (19, .cells [(SV.int .i64 (IE.var .i64 11858)), (SV.int .i64 (IE.var .i64 11859))] 61), (8, .rowl (LE.rom 0) (IE.len (LE.rom 0)) [(CK.int .i64), (CK.int .i64)] 61 9 2), (17, .defd true), (13, .defd true), (14, .loop .ready none 10 (over (opqS 300000 117) [(2, (SV.ptr 0 0)), (3, (SV.ptr 1 0)), (4, (SV.ptr 2 0)), (5, (SV.ptr 3 0)), (9, (SV.ptr 11 0)), (10, (SV.ptr 12 0))]) [63, 64] ((rangeCode (bodyOf (T rise.Φ [] []) 10) 0).getD (.skip, .skip)).1 ((rangeCode (bodyOf (T rise.Φ [] []) 10) 0).getD (.skip, .skip)).2 13), (0, .cells [(SV.rom 0 (IE.lit 0) (IE.len (LE.rom 0)) none)] 78), (1, .cells [(SV.int .i64 (IE.var .i64 1))] 3), (2, .cells [(SV.bool (BE.lit false))] 4), (3, .cells [(SV.sll 5 6 1 (IE.lit 0) (IE.var .i64 1002) none)] 53), (10, .cells [(SV.sll 8 9 2 (IE.lit 0) (IE.len (LE.rom 0)) none)] 78), (11, .cells [(SV.int .i64 (IE.lit 0))] 3), (12, .cells [(SV.int .i64 (IE.var .i64 11860))] 3), (15, .cells [(SV.func (Go.Fn.yield 14) [] [])] 115), (5, .rowl (LE.var 1004) (IE.var .i64 1002) [(CK.int .i64)] 3 6 1)], next := 20, pc := .lit true :: ([] ++ [(BE.le (IE.lit 1) (IE.len (LE.rom 0))), (BE.le (IE.len (LE.rom 0)) (IE.lit 60)), (BE.le (IE.lit 1) (IE.var .i64 1002)), (BE.le (IE.var .i64 1002) (IE.len (LE.rom 0))), (BE.le (IE.var .i64 11857) (IE.len (LE.rom 0))), (BE.le (IE.lit 0) (IE.var .i64 11860)), (BE.le (IE.var .i64 11860) (IE.var .i64 1002)), (BE.le (IE.var .i64 11860) (IE.var .i64 11857))]) }
def tlaw4 : Cfg := { top := ⟨79, over (opqS 10000 28) [(0, (SV.func (Go.Fn.yield 27) [] [])), (3, (SV.ptr 28 0)), (6, (SV.sll 8 9 2 (IE.lit 0) (IE.len (LE.rom 0)) none)), (7, (SV.int .i64 (IE.len (LE.rom 0)))), (8, (SV.int .i64 (IE.var .i64 301857)))], ogt (loopTodo (bodyOf (T rise.Φ [] []) 79) 0), [], false, none⟩, rest := [⟨63, over (opqS 30000 14) [], ogt (rangeTodo (bodyOf (T rise.Φ [] []) 63) 0 27), [26], false, none⟩, ⟨10, over (opqS 50000 117) [(2, (SV.ptr 0 0)), (3, (SV.ptr 1 0)), (4, (SV.ptr 2 0)), (5, (SV.ptr 3 0)), (8, (SV.func (Go.Fn.func 63) [] [(SV.ptr 10 0)])), (9, (SV.ptr 20 0)), (10, (SV.ptr 21 0))], ogt (rangeTodo (bodyOf (T rise.Φ [] []) 10) 0 23), [22, 13], false, none⟩], heap := [(27, .loop .ready none 63 (over (opqS 200000 14) [(2, (SV.ptr 24 0))]) [7, 8] ((rangeCode (bodyOf (T rise.Φ [] []) 63) 0).getD (.skip, .skip)).1 ((rangeCode (bodyOf (T rise.Φ [] []) 63) 0).getD (.skip, .skip)).2 26), (28, .cells [(SV.int .i64 (IE.var .i64 301858)), (SV.int .i64 (IE.var .i64 301859))] 61), (8, .rowl (LE.rom 0) (IE.len (LE.rom 0)) [(CK.int .i64), (CK.int .i64)] 61 9 2), (26, .defd true), (22, .defd true), (13, .defd true), (23, .loop .ready none 10 (over (opqS 320000 117) [(2, (SV.ptr 0 0)), (3, (SV.ptr 1 0)), (4, (SV.ptr 2 0)), (5, (SV.ptr 3 0)), (9, (SV.ptr 20 0)), (10, (SV.ptr 21 0))]) [63, 64] ((rangeCode (bodyOf (T rise.Φ [] []) 10) 0).getD (.skip, .skip)).1 ((rangeCode (bodyOf (T rise.Φ [] []) 10) 0).getD (.skip, .skip)).2 22), (0, .cells [(SV.rom 0 (IE.lit 0) (IE.len (LE.rom 0)) none)] 78), (1, .cells [(SV.int .i64 (IE.var .i64 1))] 3), (2, .cells [(SV.bool (BE.lit false))] 4), (3, .cells [(SV.sll 5 6 1 (IE.lit 0) (IE.var .i64 1002) none)] 53), (10, .cells [(SV.sll 8 9 2 (IE.lit 0) (IE.len (LE.rom 0)) none)] 78), (20, .cells [(SV.int .i64 (IE.lit 1))] 3), (21, .cells [(SV.int .i64 (IE.var .i64 301860))] 3), (24, .cells [(SV.func (Go.Fn.yield 23) [] [])] 115), (5, .rowl (LE.var 1004) (IE.var .i64 1002) [(CK.int .i64)] 3 6 1)], next := 29, pc := .lit true :: ([] ++ [(BE.le (IE.len (LE.rom 0)) (IE.lit 60)), (BE.le (IE.lit 1) (IE.len (LE.rom 0))), (BE.le (IE.lit 1) (IE.var .i64 1002)), (BE.le (IE.var .i64 1002) (IE.len (LE.rom 0))), (BE.le (IE.var .i64 301857) (IE.len (LE.rom 0))), (BE.le (IE.lit 0) (IE.var .i64 301860)), (BE.le (IE.var .i64 301860) (IE.var .i64 1002)), (BE.le (IE.var .i64 301860) (IE.var .i64 301857))]) }
def tmlaw : List (Nat × Cfg) := [(0, startF 10 cLaw.pat (.lit true :: cLaw.pre)), (1, tlaw1), (2, tlaw2), (3, tlaw3), (4, tlaw4)]
def sellaw : Sel := [(10, 6000001, 643000, 1), (10, 6000001, 644000, 2), (79, 1, 2020000000002, 3), (79, 1, 2030000000002, 4)]
def wlaw0_0 : VW := (VW.cut 1 [(BE.le (IE.len (LE.rom 0)) (IE.lit 60)), (BE.lit true), (BE.le (IE.lit 1) (IE.len (LE.rom 0)))] (Sx.Sub.mk [(.i64, (1000, (IE.lit 0)))] [] [] [] [] []))
def wlaw0_1 : VW := (VW.done [(BE.not (BE.le (IE.len (LE.rom 0)) (IE.lit 60))), (BE.lit true), (BE.le (IE.lit 1) (IE.len (LE.rom 0)))] (some []))
def vwlaw0 : List VW := [wlaw0_0, wlaw0_1]
def wlaw1_0 : VW := (VW.cut 2 [(BE.lit true), (BE.le (IE.var .i64 1000) (IE.lit 0)), (BE.le (IE.lit 1) (IE.len (LE.rom 0))), (BE.le (IE.len (LE.rom 0)) (IE.lit 60)), (BE.le (IE.lit 0) (IE.var .i64 1000)), (BE.not (BE.le (IE.len (LE.rom 0)) (IE.var .i64 1000)))] (Sx.Sub.mk [(.i64, (1002, (IE.lit 1))), (.i64, (1001, (IE.add (IE.var .i64 1000) (IE.lit 1))))] [] [(1004, (LE.one (AL.int .i64 (IE.var .i64 1000) AL.nil)))] [] [] []))
def vwlaw1 : List VW := [wlaw1_0]
def wlaw2_0 : VW := (VW.cut 3 [(BE.le (IE.len (LE.rom 0)) (IE.var .i64 1001)), (BE.lit true), (BE.le (IE.lit 1) (IE.var .i64 1002)), (BE.le (IE.len (LE.rom 0)) (IE.lit 60)), (BE.le (IE.lit 1) (IE.len (LE.rom 0))), (BE.le (IE.var .i64 1001) (IE.len (LE.rom 0))), (BE.le (IE.var .i64 1002) (IE.var .i64 1001)), (BE.le (IE.lit 0) (IE.var .i64 1002)), (BE.and (BE.lit true) (BE.lit true)), (BE.le (IE.lit 0) (IE.cel .i64 (LE.var 1004) (IE.sub (IE.var .i64 1002) (IE.lit 1)) 0)), (BE.not (BE.le (IE.len (LE.rom 0)) (IE.cel .i64 (LE.var 1004) (IE.sub (IE.var .i64 1002) (IE.lit 1)) 0)))] (Sx.Sub.mk [(.i64, (11860, (IE.lit 0))), (.i64, (1002, (IE.var .i64 1002))), (.i64, (11859, (IE.lit 0))), (.i64, (11858, (IE.lit 0))), (.i64, (11857, (IE.lit 0)))] [] [(1004, (LE.var 1004))] [] [] []))
def wlaw2_1 : VW := (VW.cut 2 [(BE.le (IE.ite (BE.fn 1 (AL.int .i64 (IE.cel .i64 (LE.rom 0) (IE.var .i64 1001) 0) (AL.int .i64 (IE.cel .i64 (LE.rom 0) (IE.var .i64 1001) 1) (AL.int .i64 (IE.cel .i64 (LE.rom 0) (IE.cel .i64 (LE.var 1004) (IE.sub (IE.var .i64 1002) (IE.lit 1)) 0) 0) (AL.int .i64 (IE.cel .i64 (LE.rom 0) (IE.cel .i64 (LE.var 1004) (IE.sub (IE.var .i64 1002) (IE.lit 1)) 0) 1) AL.nil))))) (IE.lit 1) (IE.ite (BE.fn 1 (AL.int .i64 (IE.cel .i64 (LE.rom 0) (IE.cel .i64 (LE.var 1004) (IE.sub (IE.var .i64 1002) (IE.lit 1)) 0) 0) (AL.int .i64 (IE.cel .i64 (LE.rom 0) (IE.cel .i64 (LE.var 1004) (IE.sub (IE.var .i64 1002) (IE.lit 1)) 0) 1) (AL.int .i64 (IE.cel .i64 (LE.rom 0) (IE.var .i64 1001) 0) (AL.int .i64 (IE.cel .i64 (LE.rom 0) (IE.var .i64 1001) 1) AL.nil))))) (IE.lit (-1)) (IE.lit 0))) (IE.lit 0)), (BE.not (BE.le (IE.len (LE.rom 0)) (IE.var .i64 1001))), (BE.lit true), (BE.le (IE.lit 1) (IE.var .i64 1002)), (BE.le (IE.len (LE.rom 0)) (IE.lit 60)), (BE.le (IE.lit 1) (IE.len (LE.rom 0))), (BE.le (IE.var .i64 1001) (IE.len (LE.rom 0))), (BE.le (IE.var .i64 1002) (IE.var .i64 1001)), (BE.le (IE.lit 0) (IE.var .i64 1002)), (BE.and (BE.lit true) (BE.lit true)), (BE.le (IE.lit 0) (IE.cel .i64 (LE.var 1004) (IE.sub (IE.var .i64 1002) (IE.lit 1)) 0)), (BE.not (BE.le (IE.len (LE.rom 0)) (IE.cel .i64 (LE.var 1004) (IE.sub (IE.var .i64 1002) (IE.lit 1)) 0)))] (Sx.Sub.mk [(.i64, (1002, (IE.var .i64 1002))), (.i64, (1001, (IE.add (IE.var .i64 1001) (IE.lit 1))))] [] [(1004, (LE.var 1004))] [] [] []))
def wlaw2_2 : VW := (VW.cut 2 [(BE.not (BE.le (IE.ite (BE.fn 1 (AL.int .i64 (IE.cel .i64 (LE.rom 0) (IE.var .i64 1001) 0) (AL.int .i64 (IE.cel .i64 (LE.rom 0) (IE.var .i64 1001) 1) (AL.int .i64 (IE.cel .i64 (LE.rom 0) (IE.cel .i64 (LE.var 1004) (IE.sub (IE.var .i64 1002) (IE.lit 1)) 0) 0) (AL.int .i64 (IE.cel .i64 (LE.rom 0) (IE.cel .i64 (LE.var 1004) (IE.sub (IE.var .i64 1002) (IE.lit 1)) 0) 1) AL.nil))))) (IE.lit 1) (IE.ite (BE.fn 1 (AL.int .i64 (IE.cel .i64 (LE.rom 0) (IE.cel .i64 (LE.var 1004) (IE.sub (IE.var .i64 1002) (IE.lit 1)) 0) 0) (AL.int .i64 (IE.cel .i64 (LE.rom 0) (IE.cel .i64 (LE.var 1004) (IE.sub (IE.var .i64 1002) (IE.lit 1)) 0) 1) (AL.int .i64 (IE.cel .i64 (LE.rom 0) (IE.var .i64 1001) 0) (AL.int .i64 (IE.cel .i64 (LE.rom 0) (IE.var .i64 1001) 1) AL.nil))))) (IE.lit (-1)) (IE.lit 0))) (IE.lit 0))), (BE.not (BE.le (IE.len (LE.rom 0)) (IE.var .i64 1001))), (BE.lit true), (BE.le (IE.lit 1) (IE.var .i64 1002)), (BE.le (IE.len (LE.rom 0)) (IE.lit 60)), (BE.le (IE.lit 1) (IE.len (LE.rom 0))), (BE.le (IE.var .i64 1001) (IE.len (LE.rom 0))), (BE.le (IE.var .i64 1002) (IE.var .i64 1001)), (BE.le (IE.lit 0) (IE.var .i64 1002)), (BE.and (BE.lit true) (BE.lit true)), (BE.le (IE.lit 0) (IE.cel .i64 (LE.var 1004) (IE.sub (IE.var .i64 1002) (IE.lit 1)) 0)), (BE.not (BE.le (IE.len (LE.rom 0)) (IE.cel .i64 (LE.var 1004) (IE.sub (IE.var .i64 1002) (IE.lit 1)) 0)))] (Sx.Sub.mk [(.i64, (1002, (IE.add (IE.var .i64 1002) (IE.lit 1)))), (.i64, (1001, (IE.add (IE.var .i64 1001) (IE.lit 1))))] [] [(1004, (LE.cat (LE.var 1004) (LE.one (AL.int .i64 (IE.var .i64 1001) AL.nil))))] [] [] []))
def vwlaw2 : List VW := [wlaw2_0, wlaw2_1, wlaw2_2]
def wlaw3_0 : VW := (VW.cut 4 [(BE.eq (IE.var .i64 11860) (IE.var .i64 1002)), (BE.le (IE.var .i64 1002) (IE.var .i64 1)), (BE.le (IE.lit 1) (IE.var .i64 1)), (BE.le (IE.len (LE.rom 0)) (IE.var .i64 11857)), (BE.lit true), (BE.le (IE.lit 1) (IE.len (LE.rom 0))), (BE.le (IE.len (LE.rom 0)) (IE.lit 60)), (BE.le (IE.lit 1) (IE.var .i64 1002)), (BE.le (IE.var .i64 1002) (IE.len (LE.rom 0))), (BE.le (IE.var .i64 11857) (IE.len (LE.rom 0))), (BE.le (IE.lit 0) (IE.var .i64 11860)), (BE.le (IE.var .i64 11860) (IE.var .i64 1002)), (BE.le (IE.var .i64 11860) (IE.var .i64 11857))] (Sx.Sub.mk [(.i64, (301860, (IE.lit 0))), (.i64, (1002, (IE.var .i64 1002))), (.i64, (301859, (IE.lit 0))), (.i64, (301858, (IE.lit 0))), (.i64, (301857, (IE.lit 0)))] [] [(1004, (LE.var 1004))] [] [] []))
def wlaw3_1 : VW := (VW.done [(BE.not (BE.eq (IE.var .i64 11860) (IE.var .i64 1002))), (BE.le (IE.var .i64 1002) (IE.var .i64 1)), (BE.le (IE.lit 1) (IE.var .i64 1)), (BE.le (IE.len (LE.rom 0)) (IE.var .i64 11857)), (BE.lit true), (BE.le (IE.lit 1) (IE.len (LE.rom 0))), (BE.le (IE.len (LE.rom 0)) (IE.lit 60)), (BE.le (IE.lit 1) (IE.var .i64 1002)), (BE.le (IE.var .i64 1002) (IE.len (LE.rom 0))), (BE.le (IE.var .i64 11857) (IE.len (LE.rom 0))), (BE.le (IE.lit 0) (IE.var .i64 11860)), (BE.le (IE.var .i64 11860) (IE.var .i64 1002)), (BE.le (IE.var .i64 11860) (IE.var .i64 11857))] (some [(G.b (BE.lit true) (BE.lit false))]))
def wlaw3_2 : VW := (VW.cut 4 [(BE.eq (IE.var .i64 11860) (IE.var .i64 1)), (BE.not (BE.le (IE.var .i64 1002) (IE.var .i64 1))), (BE.le (IE.lit 1) (IE.var .i64 1)), (BE.le (IE.len (LE.rom 0)) (IE.var .i64 11857)), (BE.lit true), (BE.le (IE.lit 1) (IE.len (LE.rom 0))), (BE.le (IE.len (LE.rom 0)) (IE.lit 60)), (BE.le (IE.lit 1) (IE.var .i64 1002)), (BE.le (IE.var .i64 1002) (IE.len (LE.rom 0))), (BE.le (IE.var .i64 11857) (IE.len (LE.rom 0))), (BE.le (IE.lit 0) (IE.var .i64 11860)), (BE.le (IE.var .i64 11860) (IE.var .i64 1002)), (BE.le (IE.var .i64 11860) (IE.var .i64 11857))] (Sx.Sub.mk [(.i64, (301860, (IE.lit 0))), (.i64, (1002, (IE.var .i64 1002))), (.i64, (301859, (IE.lit 0))), (.i64, (301858, (IE.lit 0))), (.i64, (301857, (IE.lit 0)))] [] [(1004, (LE.var 1004))] [] [] []))
def wlaw3_3 : VW := (VW.done [(BE.not (BE.eq (IE.var .i64 11860) (IE.var .i64 1))), (BE.not (BE.le (IE.var .i64 1002) (IE.var .i64 1))), (BE.le (IE.lit 1) (IE.var .i64 1)), (BE.le (IE.len (LE.rom 0)) (IE.var .i64 11857)), (BE.lit true), (BE.le (IE.lit 1) (IE.len (LE.rom 0))), (BE.le (IE.len (LE.rom 0)) (IE.lit 60)), (BE.le (IE.lit 1) (IE.var .i64 1002)), (BE.le (IE.var .i64 1002) (IE.len (LE.rom 0))), (BE.le (IE.var .i64 11857) (IE.len (LE.rom 0))), (BE.le (IE.lit 0) (IE.var .i64 11860)), (BE.le (IE.var .i64 11860) (IE.var .i64 1002)), (BE.le (IE.var .i64 11860) (IE.var .i64 11857))] (some [(G.b (BE.lit true) (BE.lit false))]))
def wlaw3_4 : VW := (VW.cut 4 [(BE.eq (IE.var .i64 11860) (IE.var .i64 1002)), (BE.le (IE.var .i64 1002) (IE.lit 1)), (BE.not (BE.le (IE.lit 1) (IE.var .i64 1))), (BE.le (IE.len (LE.rom 0)) (IE.var .i64 11857)), (BE.lit true), (BE.le (IE.lit 1) (IE.len (LE.rom 0))), (BE.le (IE.len (LE.rom 0)) (IE.lit 60)), (BE.le (IE.lit 1) (IE.var .i64 1002)), (BE.le (IE.var .i64 1002) (IE.len (LE.rom 0))), (BE.le (IE.var .i64 11857) (IE.len (LE.rom 0))), (BE.le (IE.lit 0) (IE.var .i64 11860)), (BE.le (IE.var .i64 11860) (IE.var .i64 1002)), (BE.le (IE.var .i64 11860) (IE.var .i64 11857))] (Sx.Sub.mk [(.i64, (301860, (IE.lit 0))), (.i64, (1002, (IE.var .i64 1002))), (.i64, (301859, (IE.lit 0))), (.i64, (301858, (IE.lit 0))), (.i64, (301857, (IE.lit 0)))] [] [(1004, (LE.var 1004))] [] [] []))
def wlaw3_5 : VW := (VW.done [(BE.not (BE.eq (IE.var .i64 11860) (IE.var .i64 1002))), (BE.le (IE.var .i64 1002) (IE.lit 1)), (BE.not (BE.le (IE.lit 1) (IE.var .i64 1))), (BE.le (IE.len (LE.rom 0)) (IE.var .i64 11857)), (BE.lit true), (BE.le (IE.lit 1) (IE.len (LE.rom 0))), (BE.le (IE.len (LE.rom 0)) (IE.lit 60)), (BE.le (IE.lit 1) (IE.var .i64 1002)), (BE.le (IE.var .i64 1002) (IE.len (LE.rom 0))), (BE.le (IE.var .i64 11857) (IE.len (LE.rom 0))), (BE.le (IE.lit 0) (IE.var .i64 11860)), (BE.le (IE.var .i64 11860) (IE.var .i64 1002)), (BE.le (IE.var .i64 11860) (IE.var .i64 11857))] (some [(G.b (BE.lit true) (BE.lit false))]))
def wlaw3_6 : VW := (VW.cut 4 [(BE.eq (IE.var .i64 11860) (IE.lit 1)), (BE.not (BE.le (IE.var .i64 1002) (IE.lit 1))), (BE.not (BE.le (IE.lit 1) (IE.var .i64 1))), (BE.le (IE.len (LE.rom 0)) (IE.var .i64 11857)), (BE.lit true), (BE.le (IE.lit 1) (IE.len (LE.rom 0))), (BE.le (IE.len (LE.rom 0)) (IE.lit 60)), (BE.le (IE.lit 1) (IE.var .i64 1002)), (BE.le (IE.var .i64 1002) (IE.len (LE.rom 0))), (BE.le (IE.var .i64 11857) (IE.len (LE.rom 0))), (BE.le (IE.lit 0) (IE.var .i64 11860)), (BE.le (IE.var .i64 11860) (IE.var .i64 1002)), (BE.le (IE.var .i64 11860) (IE.var .i64 11857))] (Sx.Sub.mk [(.i64, (301860, (IE.lit 0))), (.i64, (1002, (IE.var .i64 1002))), (.i64, (301859, (IE.lit 0))), (.i64, (301858, (IE.lit 0))), (.i64, (301857, (IE.lit 0)))] [] [(1004, (LE.var 1004))] [] [] []))
def wlaw3_7 : VW := (VW.done [(BE.not (BE.eq (IE.var .i64 11860) (IE.lit 1))), (BE.not (BE.le (IE.var .i64 1002) (IE.lit 1))), (BE.not (BE.le (IE.lit 1) (IE.var .i64 1))), (BE.le (IE.len (LE.rom 0)) (IE.var .i64 11857)), (BE.lit true), (BE.le (IE.lit 1) (IE.len (LE.rom 0))), (BE.le (IE.len (LE.rom 0)) (IE.lit 60)), (BE.le (IE.lit 1) (IE.var .i64 1002)), (BE.le (IE.var .i64 1002) (IE.len (LE.rom 0))), (BE.le (IE.var .i64 11857) (IE.len (LE.rom 0))), (BE.le (IE.lit 0) (IE.var .i64 11860)), (BE.le (IE.var .i64 11860) (IE.var .i64 1002)), (BE.le (IE.var .i64 11860) (IE.var .i64 11857))] (some [(G.b (BE.lit true) (BE.lit false))]))
def wlaw3_8 : VW := (VW.cut 4 [(BE.le (IE.var .i64 1002) (IE.var .i64 1)), (BE.le (IE.lit 1) (IE.var .i64 1)), (BE.le (IE.var .i64 1) (IE.add (IE.var .i64 11860) (IE.lit 1))), (BE.eq (IE.var .i64 11857) (IE.cel .i64 (LE.var 1004) (IE.var .i64 11860) 0)), (BE.le (IE.var .i64 11857) (IE.lit 0)), (BE.not (BE.le (IE.len (LE.rom 0)) (IE.var .i64 11857))), (BE.lit true), (BE.le (IE.lit 1) (IE.len (LE.rom 0))), (BE.le (IE.len (LE.rom 0)) (IE.lit 60)), (BE.le (IE.lit 1) (IE.var .i64 1002)), (BE.le (IE.var .i64 1002) (IE.len (LE.rom 0))), (BE.le (IE.var .i64 11857) (IE.len (LE.rom 0))), (BE.le (IE.lit 0) (IE.var .i64 11860)), (BE.le (IE.var .i64 11860) (IE.var .i64 1002)), (BE.le (IE.var .i64 11860) (IE.var .i64 11857))] (Sx.Sub.mk [(.i64, (301860, (IE.lit 0))), (.i64, (1002, (IE.var .i64 1002))), (.i64, (301859, (IE.lit 0))), (.i64, (301858, (IE.lit 0))), (.i64, (301857, (IE.lit 0)))] [] [(1004, (LE.var 1004))] [] [] []))
def wlaw3_9 : VW := (VW.cut 4 [(BE.not (BE.le (IE.var .i64 1002) (IE.var .i64 1))), (BE.le (IE.lit 1) (IE.var .i64 1)), (BE.le (IE.var .i64 1) (IE.add (IE.var .i64 11860) (IE.lit 1))), (BE.eq (IE.var .i64 11857) (IE.cel .i64 (LE.var 1004) (IE.var .i64 11860) 0)), (BE.le (IE.var .i64 11857) (IE.lit 0)), (BE.not (BE.le (IE.len (LE.rom 0)) (IE.var .i64 11857))), (BE.lit true), (BE.le (IE.lit 1) (IE.len (LE.rom 0))), (BE.le (IE.len (LE.rom 0)) (IE.lit 60)), (BE.le (IE.lit 1) (IE.var .i64 1002)), (BE.le (IE.var .i64 1002) (IE.len (LE.rom 0))), (BE.le (IE.var .i64 11857) (IE.len (LE.rom 0))), (BE.le (IE.lit 0) (IE.var .i64 11860)), (BE.le (IE.var .i64 11860) (IE.var .i64 1002)), (BE.le (IE.var .i64 11860) (IE.var .i64 11857))] (Sx.Sub.mk [(.i64, (301860, (IE.lit 0))), (.i64, (1002, (IE.var .i64 1002))), (.i64, (301859, (IE.lit 0))), (.i64, (301858, (IE.lit 0))), (.i64, (301857, (IE.lit 0)))] [] [(1004, (LE.var 1004))] [] [] []))
def wlaw3_10 : VW := (VW.cut 4 [(BE.le (IE.var .i64 1002) (IE.lit 1)), (BE.not (BE.le (IE.lit 1) (IE.var .i64 1))), (BE.le (IE.var .i64 1) (IE.add (IE.var .i64 11860) (IE.lit 1))), (BE.eq (IE.var .i64 11857) (IE.cel .i64 (LE.var 1004) (IE.var .i64 11860) 0)), (BE.le (IE.var .i64 11857) (IE.lit 0)), (BE.not (BE.le (IE.len (LE.rom 0)) (IE.var .i64 11857))), (BE.lit true), (BE.le (IE.lit 1) (IE.len (LE.rom 0))), (BE.le (IE.len (LE.rom 0)) (IE.lit 60)), (BE.le (IE.lit 1) (IE.var .i64 1002)), (BE.le (IE.var .i64 1002) (IE.len (LE.rom 0))), (BE.le (IE.var .i64 11857) (IE.len (LE.rom 0))), (BE.le (IE.lit 0) (IE.var .i64 11860)), (BE.le (IE.var .i64 11860) (IE.var .i64 1002)), (BE.le (IE.var .i64 11860) (IE.var .i64 11857))] (Sx.Sub.mk [(.i64, (301860, (IE.lit 0))), (.i64, (1002, (IE.var .i64 1002))), (.i64, (301859, (IE.lit 0))), (.i64, (301858, (IE.lit 0))), (.i64, (301857, (IE.lit 0)))] [] [(1004, (LE.var 1004))] [] [] []))
def wlaw3_11 : VW := (VW.cut 4 [(BE.not (BE.le (IE.var .i64 1002) (IE.lit 1))), (BE.not (BE.le (IE.lit 1) (IE.var .i64 1))), (BE.le (IE.var .i64 1) (IE.add (IE.var .i64 11860) (IE.lit 1))), (BE.eq (IE.var .i64 11857) (IE.cel .i64 (LE.var 1004) (IE.var .i64 11860) 0)), (BE.le (IE.var .i64 11857) (IE.lit 0)), (BE.not (BE.le (IE.len (LE.rom 0)) (IE.var .i64 11857))), (BE.lit true), (BE.le (IE.lit 1) (IE.len (LE.rom 0))), (BE.le (IE.len (LE.rom 0)) (IE.lit 60)), (BE.le (IE.lit 1) (IE.var .i64 1002)), (BE.le (IE.var .i64 1002) (IE.len (LE.rom 0))), (BE.le (IE.var .i64 11857) (IE.len (LE.rom 0))), (BE.le (IE.lit 0) (IE.var .i64 11860)), (BE.le (IE.var .i64 11860) (IE.var .i64 1002)), (BE.le (IE.var .i64 11860) (IE.var .i64 11857))] (Sx.Sub.mk [(.i64, (301860, (IE.lit 0))), (.i64, (1002, (IE.var .i64 1002))), (.i64, (301859, (IE.lit 0))), (.i64, (301858, (IE.lit 0))), (.i64, (301857, (IE.lit 0)))] [] [(1004, (LE.var 1004))] [] [] []))
def wlaw3_12 : VW := (VW.cut 3 [(BE.not (BE.le (IE.var .i64 1) (IE.add (IE.var .i64 11860) (IE.lit 1)))), (BE.eq (IE.var .i64 11857) (IE.cel .i64 (LE.var 1004) (IE.var .i64 11860) 0)), (BE.le (IE.var .i64 11857) (IE.lit 0)), (BE.not (BE.le (IE.len (LE.rom 0)) (IE.var .i64 11857))), (BE.lit true), (BE.le (IE.lit 1) (IE.len (LE.rom 0))), (BE.le (IE.len (LE.rom 0)) (IE.lit 60)), (BE.le (IE.lit 1) (IE.var .i64 1002)), (BE.le (IE.var .i64 1002) (IE.len (LE.rom 0))), (BE.le (IE.var .i64 11857) (IE.len (LE.rom 0))), (BE.le (IE.lit 0) (IE.var .i64 11860)), (BE.le (IE.var .i64 11860) (IE.var .i64 1002)), (BE.le (IE.var .i64 11860) (IE.var .i64 11857))] (Sx.Sub.mk [(.i64, (11860, (IE.add (IE.var .i64 11860) (IE.lit 1)))), (.i64, (1002, (IE.var .i64 1002))), (.i64, (11859, (IE.cel .i64 (LE.rom 0) (IE.var .i64 11857) 1))), (.i64, (11858, (IE.cel .i64 (LE.rom 0) (IE.var .i64 11857) 0))), (.i64, (11857, (IE.add (IE.var .i64 11857) (IE.lit 1))))] [] [(1004, (LE.var 1004))] [] [] []))
def wlaw3_13 : VW := (VW.done [(BE.not (BE.eq (IE.var .i64 11857) (IE.cel .i64 (LE.var 1004) (IE.var .i64 11860) 0))), (BE.le (IE.var .i64 11857) (IE.lit 0)), (BE.not (BE.le (IE.len (LE.rom 0)) (IE.var .i64 11857))), (BE.lit true), (BE.le (IE.lit 1) (IE.len (LE.rom 0))), (BE.le (IE.len (LE.rom 0)) (IE.lit 60)), (BE.le (IE.lit 1) (IE.var .i64 1002)), (BE.le (IE.var .i64 1002) (IE.len (LE.rom 0))), (BE.le (IE.var .i64 11857) (IE.len (LE.rom 0))), (BE.le (IE.lit 0) (IE.var .i64 11860)), (BE.le (IE.var .i64 11860) (IE.var .i64 1002)), (BE.le (IE.var .i64 11860) (IE.var .i64 11857))] (some [(G.b (BE.lit true) (BE.lit false))]))
def wlaw3_14 : VW := (VW.done [(BE.le (IE.var .i64 1002) (IE.var .i64 11860)), (BE.fn 1 (AL.int .i64 (IE.cel .i64 (LE.rom 0) (IE.var .i64 11857) 0) (AL.int .i64 (IE.cel .i64 (LE.rom 0) (IE.var .i64 11857) 1) (AL.int .i64 (IE.var .i64 11858) (AL.int .i64 (IE.var .i64 11859) AL.nil))))), (BE.not (BE.le (IE.var .i64 11857) (IE.lit 0))), (BE.not (BE.le (IE.len (LE.rom 0)) (IE.var .i64 11857))), (BE.lit true), (BE.le (IE.lit 1) (IE.len (LE.rom 0))), (BE.le (IE.len (LE.rom 0)) (IE.lit 60)), (BE.le (IE.lit 1) (IE.var .i64 1002)), (BE.le (IE.var .i64 1002) (IE.len (LE.rom 0))), (BE.le (IE.var .i64 11857) (IE.len (LE.rom 0))), (BE.le (IE.lit 0) (IE.var .i64 11860)), (BE.le (IE.var .i64 11860) (IE.var .i64 1002)), (BE.le (IE.var .i64 11860) (IE.var .i64 11857))] (some [(G.b (BE.lit true) (BE.lit false))]))
def wlaw3_15 : VW := (VW.cut 4 [(BE.le (IE.var .i64 1002) (IE.var .i64 1)), (BE.le (IE.lit 1) (IE.var .i64 1)), (BE.le (IE.var .i64 1) (IE.add (IE.var .i64 11860) (IE.lit 1))), (BE.eq (IE.var .i64 11857) (IE.cel .i64 (LE.var 1004) (IE.var .i64 11860) 0)), (BE.not (BE.le (IE.var .i64 1002) (IE.var .i64 11860))), (BE.fn 1 (AL.int .i64 (IE.cel .i64 (LE.rom 0) (IE.var .i64 11857) 0) (AL.int .i64 (IE.cel .i64 (LE.rom 0) (IE.var .i64 11857) 1) (AL.int .i64 (IE.var .i64 11858) (AL.int .i64 (IE.var .i64 11859) AL.nil))))), (BE.not (BE.le (IE.var .i64 11857) (IE.lit 0))), (BE.not (BE.le (IE.len (LE.rom 0)) (IE.var .i64 11857))), (BE.lit true), (BE.le (IE.lit 1) (IE.len (LE.rom 0))), (BE.le (IE.len (LE.rom 0)) (IE.lit 60)), (BE.le (IE.lit 1) (IE.var .i64 1002)), (BE.le (IE.var .i64 1002) (IE.len (LE.rom 0))), (BE.le (IE.var .i64 11857) (IE.len (LE.rom 0))), (BE.le (IE.lit 0) (IE.var .i64 11860)), (BE.le (IE.var .i64 11860) (IE.var .i64 1002)), (BE.le (IE.var .i64 11860) (IE.var .i64 11857))] (Sx.Sub.mk [(.i64, (301860, (IE.lit 0))), (.i64, (1002, (IE.var .i64 1002))), (.i64, (301859, (IE.lit 0))), (.i64, (301858, (IE.lit 0))), (.i64, (301857, (IE.lit 0)))] [] [(1004, (LE.var 1004))] [] [] []))
def wlaw3_16 : VW := (VW.cut 4 [(BE.eq (IE.add (IE.var .i64 11860) (IE.lit 1)) (IE.var .i64 1)), (BE.not (BE.le (IE.var .i64 1002) (IE.var .i64 1))), (BE.le (IE.lit 1) (IE.var .i64 1)), (BE.le (IE.var .i64 1) (IE.add (IE.var .i64 11860) (IE.lit 1))), (BE.eq (IE.var .i64 11857) (IE.cel .i64 (LE.var 1004) (IE.var .i64 11860) 0)), (BE.not (BE.le (IE.var .i64 1002) (IE.var .i64 11860))), (BE.fn 1 (AL.int .i64 (IE.cel .i64 (LE.rom 0) (IE.var .i64 11857) 0) (AL.int .i64 (IE.cel .i64 (LE.rom 0) (IE.var .i64 11857) 1) (AL.int .i64 (IE.var .i64 11858) (AL.int .i64 (IE.var .i64 11859) AL.nil))))), (BE.not (BE.le (IE.var .i64 11857) (IE.lit 0))), (BE.not (BE.le (IE.len (LE.rom 0)) (IE.var .i64 11857))), (BE.lit true), (BE.le (IE.lit 1) (IE.len (LE.rom 0))), (BE.le (IE.len (LE.rom 0)) (IE.lit 60)), (BE.le (IE.lit 1) (IE.var .i64 1002)), (BE.le (IE.var .i64 1002) (IE.len (LE.rom 0))), (BE.le (IE.var .i64 11857) (IE.len (LE.rom 0))), (BE.le (IE.lit 0) (IE.var .i64 11860)), (BE.le (IE.var .i64 11860) (IE.var .i64 1002)), (BE.le (IE.var .i64 11860) (IE.var .i64 11857))] (Sx.Sub.mk [(.i64, (301860, (IE.lit 0))), (.i64, (1002, (IE.var .i64 1002))), (.i64, (301859, (IE.lit 0))), (.i64, (301858, (IE.lit 0))), (.i64, (301857, (IE.lit 0)))] [] [(1004, (LE.var 1004))] [] [] []))
def wlaw3_17 : VW := (VW.done [(BE.not (BE.eq (IE.add (IE.var .i64 11860) (IE.lit 1)) (IE.var .i64 1))), (BE.not (BE.le (IE.var .i64 1002) (IE.var .i64 1))), (BE.le (IE.lit 1) (IE.var .i64 1)), (BE.le (IE.var .i64 1) (IE.add (IE.var .i64 11860) (IE.lit 1))), (BE.eq (IE.var .i64 11857) (IE.cel .i64 (LE.var 1004) (IE.var .i64 11860) 0)), (BE.not (BE.le (IE.var .i64 1002) (IE.var .i64 11860))), (BE.fn 1 (AL.int .i64 (IE.cel .i64 (LE.rom 0) (IE.var .i64 11857) 0) (AL.int .i64 (IE.cel .i64 (LE.rom 0) (IE.var .i64 11857) 1) (AL.int .i64 (IE.var .i64 11858) (AL.int .i64 (IE.var .i64 11859) AL.nil))))), (BE.not (BE.le (IE.var .i64 11857) (IE.lit 0))), (BE.not (BE.le (IE.len (LE.rom 0)) (IE.var .i64 11857))), (BE.lit true), (BE.le (IE.lit 1) (IE.len (LE.rom 0))), (BE.le (IE.len (LE.rom 0)) (IE.lit 60)), (BE.le (IE.lit 1) (IE.var .i64 1002)), (BE.le (IE.var .i64 1002) (IE.len (LE.rom 0))), (BE.le (IE.var .i64 11857) (IE.len (LE.rom 0))), (BE.le (IE.lit 0) (IE.var .i64 11860)), (BE.le (IE.var .i64 11860) (IE.var .i64 1002)), (BE.le (IE.var .i64 11860) (IE.var .i64 11857))] (some [(G.b (BE.lit true) (BE.lit false))]))
def wlaw3_18 : VW := (VW.cut 4 [(BE.le (IE.var .i64 1002) (IE.lit 1)), (BE.not (BE.le (IE.lit 1) (IE.var .i64 1))), (BE.le (IE.var .i64 1) (IE.add (IE.var .i64 11860) (IE.lit 1))), (BE.eq (IE.var .i64 11857) (IE.cel .i64 (LE.var 1004) (IE.var .i64 11860) 0)), (BE.not (BE.le (IE.var .i64 1002) (IE.var .i64 11860))), (BE.fn 1 (AL.int .i64 (IE.cel .i64 (LE.rom 0) (IE.var .i64 11857) 0) (AL.int .i64 (IE.cel .i64 (LE.rom 0) (IE.var .i64 11857) 1) (AL.int .i64 (IE.var .i64 11858) (AL.int .i64 (IE.var .i64 11859) AL.nil))))), (BE.not (BE.le (IE.var .i64 11857) (IE.lit 0))), (BE.not (BE.le (IE.len (LE.rom 0)) (IE.var .i64 11857))), (BE.lit true), (BE.le (IE.lit 1) (IE.len (LE.rom 0))), (BE.le (IE.len (LE.rom 0)) (IE.lit 60)), (BE.le (IE.lit 1) (IE.var .i64 1002)), (BE.le (IE.var .i64 1002) (IE.len (LE.rom 0))), (BE.le (IE.var .i64 11857) (IE.len (LE.rom 0))), (BE.le (IE.lit 0) (IE.var .i64 11860)), (BE.le (IE.var .i64 11860) (IE.var .i64 1002)), (BE.le (IE.var .i64 11860) (IE.var .i64 11857))] (Sx.Sub.mk [(.i64, (301860, (IE.lit 0))), (.i64, (1002, (IE.var .i64 1002))), (.i64, (301859, (IE.lit 0))), (.i64, (301858, (IE.lit 0))), (.i64, (301857, (IE.lit 0)))] [] [(1004, (LE.var 1004))] [] [] []))
def wlaw3_19 : VW := (VW.cut 4 [(BE.eq (IE.add (IE.var .i64 11860) (IE.lit 1)) (IE.lit 1)), (BE.not (BE.le (IE.var .i64 1002) (IE.lit 1))), (BE.not (BE.le (IE.lit 1) (IE.var .i64 1))), (BE.le (IE.var .i64 1) (IE.add (IE.var .i64 11860) (IE.lit 1))), (BE.eq (IE.var .i64 11857) (IE.cel .i64 (LE.var 1004) (IE.var .i64 11860) 0)), (BE.not (BE.le (IE.var .i64 1002) (IE.var .i64 11860))), (BE.fn 1 (AL.int .i64 (IE.cel .i64 (LE.rom 0) (IE.var .i64 11857) 0) (AL.int .i64 (IE.cel .i64 (LE.rom 0) (IE.var .i64 11857) 1) (AL.int .i64 (IE.var .i64 11858) (AL.int .i64 (IE.var .i64 11859) AL.nil))))), (BE.not (BE.le (IE.var .i64 11857) (IE.lit 0))), (BE.not (BE.le (IE.len (LE.rom 0)) (IE.var .i64 11857))), (BE.lit true), (BE.le (IE.lit 1) (IE.len (LE.rom 0))), (BE.le (IE.len (LE.rom 0)) (IE.lit 60)), (BE.le (IE.lit 1) (IE.var .i64 1002)), (BE.le (IE.var .i64 1002) (IE.len (LE.rom 0))), (BE.le (IE.var .i64 11857) (IE.len (LE.rom 0))), (BE.le (IE.lit 0) (IE.var .i64 11860)), (BE.le (IE.var .i64 11860) (IE.var .i64 1002)), (BE.le (IE.var .i64 11860) (IE.var .i64 11857))] (Sx.Sub.mk [(.i64, (301860, (IE.lit 0))), (.i64, (1002, (IE.var .i64 1002))), (.i64, (301859, (IE.lit 0))), (.i64, (301858, (IE.lit 0))), (.i64, (301857, (IE.lit 0)))] [] [(1004, (LE.var 1004))] [] [] []))
def wlaw3_20 : VW := (VW.done [(BE.not (BE.eq (IE.add (IE.var .i64 11860) (IE.lit 1)) (IE.lit 1))), (BE.not (BE.le (IE.var .i64 1002) (IE.lit 1))), (BE.not (BE.le (IE.lit 1) (IE.var .i64 1))), (BE.le (IE.var .i64 1) (IE.add (IE.var .i64 11860) (IE.lit 1))), (BE.eq (IE.var .i64 11857) (IE.cel .i64 (LE.var 1004) (IE.var .i64 11860) 0)), (BE.not (BE.le (IE.var .i64 1002) (IE.var .i64 11860))), (BE.fn 1 (AL.int .i64 (IE.cel .i64 (LE.rom 0) (IE.var .i64 11857) 0) (AL.int .i64 (IE.cel .i64 (LE.rom 0) (IE.var .i64 11857) 1) (AL.int .i64 (IE.var .i64 11858) (AL.int .i64 (IE.var .i64 11859) AL.nil))))), (BE.not (BE.le (IE.var .i64 11857) (IE.lit 0))), (BE.not (BE.le (IE.len (LE.rom 0)) (IE.var .i64 11857))), (BE.lit true), (BE.le (IE.lit 1) (IE.len (LE.rom 0))), (BE.le (IE.len (LE.rom 0)) (IE.lit 60)), (BE.le (IE.lit 1) (IE.var .i64 1002)), (BE.le (IE.var .i64 1002) (IE.len (LE.rom 0))), (BE.le (IE.var .i64 11857) (IE.len (LE.rom 0))), (BE.le (IE.lit 0) (IE.var .i64 11860)), (BE.le (IE.var .i64 11860) (IE.var .i64 1002)), (BE.le (IE.var .i64 11860) (IE.var .i64 11857))] (some [(G.b (BE.lit true) (BE.lit false))]))
def wlaw3_21 : VW := (VW.cut 3 [(BE.not (BE.le (IE.var .i64 1) (IE.add (IE.var .i64 11860) (IE.lit 1)))), (BE.eq (IE.var .i64 11857) (IE.cel .i64 (LE.var 1004) (IE.var .i64 11860) 0)), (BE.not (BE.le (IE.var .i64 1002) (IE.var .i64 11860))), (BE.fn 1 (AL.int .i64 (IE.cel .i64 (LE.rom 0) (IE.var .i64 11857) 0) (AL.int .i64 (IE.cel .i64 (LE.rom 0) (IE.var .i64 11857) 1) (AL.int .i64 (IE.var .i64 11858) (AL.int .i64 (IE.var .i64 11859) AL.nil))))), (BE.not (BE.le (IE.var .i64 11857) (IE.lit 0))), (BE.not (BE.le (IE.len (LE.rom 0)) (IE.var .i64 11857))), (BE.lit true), (BE.le (IE.lit 1) (IE.len (LE.rom 0))), (BE.le (IE.len (LE.rom 0)) (IE.lit 60)), (BE.le (IE.lit 1) (IE.var .i64 1002)), (BE.le (IE.var .i64 1002) (IE.len (LE.rom 0))), (BE.le (IE.var .i64 11857) (IE.len (LE.rom 0))), (BE.le (IE.lit 0) (IE.var .i64 11860)), (BE.le (IE.var .i64 11860) (IE.var .i64 1002)), (BE.le (IE.var .i64 11860) (IE.var .i64 11857))] (Sx.Sub.mk [(.i64, (11860, (IE.add (IE.var .i64 11860) (IE.lit 1)))), (.i64, (1002, (IE.var .i64 1002))), (.i64, (11859, (IE.cel .i64 (LE.rom 0) (IE.var .i64 11857) 1))), (.i64, (11858, (IE.cel .i64 (LE.rom 0) (IE.var .i64 11857) 0))), (.i64, (11857, (IE.add (IE.var .i64 11857) (IE.lit 1))))] [] [(1004, (LE.var 1004))] [] [] []))
def wlaw3_22 : VW := (VW.done [(BE.not (BE.eq (IE.var .i64 11857) (IE.cel .i64 (LE.var 1004) (IE.var .i64 11860) 0))), (BE.not (BE.le (IE.var .i64 1002) (IE.var .i64 11860))), (BE.fn 1 (AL.int .i64 (IE.cel .i64 (LE.rom 0) (IE.var .i64 11857) 0) (AL.int .i64 (IE.cel .i64 (LE.rom 0) (IE.var .i64 11857) 1) (AL.int .i64 (IE.var .i64 11858) (AL.int .i64 (IE.var .i64 11859) AL.nil))))), (BE.not (BE.le (IE.var .i64 11857) (IE.lit 0))), (BE.not (BE.le (IE.len (LE.rom 0)) (IE.var .i64 11857))), (BE.lit true), (BE.le (IE.lit 1) (IE.len (LE.rom 0))), (BE.le (IE.len (LE.rom 0)) (IE.lit 60)), (BE.le (IE.lit 1) (IE.var .i64 1002)), (BE.le (IE.var .i64 1002) (IE.len (LE.rom 0))), (BE.le (IE.var .i64 11857) (IE.len (LE.rom 0))), (BE.le (IE.lit 0) (IE.var .i64 11860)), (BE.le (IE.var .i64 11860) (IE.var .i64 1002)), (BE.le (IE.var .i64 11860) (IE.var .i64 11857))] (some [(G.b (BE.lit true) (BE.lit false))]))
def wlaw3_23 : VW := (VW.cut 3 [(BE.not (BE.fn 1 (AL.int .i64 (IE.cel .i64 (LE.rom 0) (IE.var .i64 11857) 0) (AL.int .i64 (IE.cel .i64 (LE.rom 0) (IE.var .i64 11857) 1) (AL.int .i64 (IE.var .i64 11858) (AL.int .i64 (IE.var .i64 11859) AL.nil)))))), (BE.not (BE.le (IE.var .i64 11857) (IE.lit 0))), (BE.not (BE.le (IE.len (LE.rom 0)) (IE.var .i64 11857))), (BE.lit true), (BE.le (IE.lit 1) (IE.len (LE.rom 0))), (BE.le (IE.len (LE.rom 0)) (IE.lit 60)), (BE.le (IE.lit 1) (IE.var .i64 1002)), (BE.le (IE.var .i64 1002) (IE.len (LE.rom 0))), (BE.le (IE.var .i64 11857) (IE.len (LE.rom 0))), (BE.le (IE.lit 0) (IE.var .i64 11860)), (BE.le (IE.var .i64 11860) (IE.var .i64 1002)), (BE.le (IE.var .i64 11860) (IE.var .i64 11857))] (Sx.Sub.mk [(.i64, (11860, (IE.var .i64 11860))), (.i64, (1002, (IE.var .i64 1002))), (.i64, (11859, (IE.var .i64 11859))), (.i64, (11858, (IE.var .i64 11858))), (.i64, (11857, (IE.add (IE.var .i64 11857) (IE.lit 1))))] [] [(1004, (LE.var 1004))] [] [] []))
def vwlaw3 : List VW := [wlaw3_0, wlaw3_1, wlaw3_2, wlaw3_3, wlaw3_4, wlaw3_5, wlaw3_6, wlaw3_7, wlaw3_8, wlaw3_9, wlaw3_10, wlaw3_11, wlaw3_12, wlaw3_13, wlaw3_14, wlaw3_15, wlaw3_16, wlaw3_17, wlaw3_18, wlaw3_19, wlaw3_20, wlaw3_21, wlaw3_22, wlaw3_23]
def wlaw4_0 : VW := (VW.done [(BE.eq (IE.var .i64 301860) (IE.var .i64 1002)), (BE.le (IE.len (LE.rom 0)) (IE.var .i64 301857)), (BE.lit true), (BE.le (IE.len (LE.rom 0)) (IE.lit 60)), (BE.le (IE.lit 1) (IE.len (LE.rom 0))), (BE.le (IE.lit 1) (IE.var .i64 1002)), (BE.le (IE.var .i64 1002) (IE.len (LE.rom 0))), (BE.le (IE.var .i64 301857) (IE.len (LE.rom 0))), (BE.le (IE.lit 0) (IE.var .i64 301860)), (BE.le (IE.var .i64 301860) (IE.var .i64 1002)), (BE.le (IE.var .i64 301860) (IE.var .i64 301857))] (some []))
def wlaw4_1 : VW := (VW.done [(BE.not (BE.eq (IE.var .i64 301860) (IE.var .i64 1002))), (BE.le (IE.len (LE.rom 0)) (IE.var .i64 301857)), (BE.lit true), (BE.le (IE.len (LE.rom 0)) (IE.lit 60)), (BE.le (IE.lit 1) (IE.len (LE.rom 0))), (BE.le (IE.lit 1) (IE.var .i64 1002)), (BE.le (IE.var .i64 1002) (IE.len (LE.rom 0))), (BE.le (IE.var .i64 301857) (IE.len (LE.rom 0))), (BE.le (IE.lit 0) (IE.var .i64 301860)), (BE.le (IE.var .i64 301860) (IE.var .i64 1002)), (BE.le (IE.var .i64 301860) (IE.var .i64 301857))] (some [(G.b (BE.lit true) (BE.lit false))]))
def wlaw4_2 : VW := (VW.cut 4 [(BE.eq (IE.var .i64 301857) (IE.cel .i64 (LE.var 1004) (IE.var .i64 301860) 0)), (BE.le (IE.var .i64 301857) (IE.lit 0)), (BE.not (BE.le (IE.len (LE.rom 0)) (IE.var .i64 301857))), (BE.lit true), (BE.le (IE.len (LE.rom 0)) (IE.lit 60)), (BE.le (IE.lit 1) (IE.len (LE.rom 0))), (BE.le (IE.lit 1) (IE.var .i64 1002)), (BE.le (IE.var .i64 1002) (IE.len (LE.rom 0))), (BE.le (IE.var .i64 301857) (IE.len (LE.rom 0))), (BE.le (IE.lit 0) (IE.var .i64 301860)), (BE.le (IE.var .i64 301860) (IE.var .i64 1002)), (BE.le (IE.var .i64 301860) (IE.var .i64 301857))] (Sx.Sub.mk [(.i64, (301860, (IE.add (IE.var .i64 301860) (IE.lit 1)))), (.i64, (1002, (IE.var .i64 1002))), (.i64, (301859, (IE.cel .i64 (LE.rom 0) (IE.var .i64 301857) 1))), (.i64, (301858, (IE.cel .i64 (LE.rom 0) (IE.var .i64 301857) 0))), (.i64, (301857, (IE.add (IE.var .i64 301857) (IE.lit 1))))] [] [(1004, (LE.var 1004))] [] [] []))
def wlaw4_3 : VW := (VW.done [(BE.not (BE.eq (IE.var .i64 301857) (IE.cel .i64 (LE.var 1004) (IE.var .i64 301860) 0))), (BE.le (IE.var .i64 301857) (IE.lit 0)), (BE.not (BE.le (IE.len (LE.rom 0)) (IE.var .i64 301857))), (BE.lit true), (BE.le (IE.len (LE.rom 0)) (IE.lit 60)), (BE.le (IE.lit 1) (IE.len (LE.rom 0))), (BE.le (IE.lit 1) (IE.var .i64 1002)), (BE.le (IE.var .i64 1002) (IE.len (LE.rom 0))), (BE.le (IE.var .i64 301857) (IE.len (LE.rom 0))), (BE.le (IE.lit 0) (IE.var .i64 301860)), (BE.le (IE.var .i64 301860) (IE.var .i64 1002)), (BE.le (IE.var .i64 301860) (IE.var .i64 301857))] (some [(G.b (BE.lit true) (BE.lit false))]))
def wlaw4_4 : VW := (VW.done [(BE.le (IE.var .i64 1002) (IE.var .i64 301860)), (BE.fn 1 (AL.int .i64 (IE.cel .i64 (LE.rom 0) (IE.var .i64 301857) 0) (AL.int .i64 (IE.cel .i64 (LE.rom 0) (IE.var .i64 301857) 1) (AL.int .i64 (IE.var .i64 301858) (AL.int .i64 (IE.var .i64 301859) AL.nil))))), (BE.not (BE.le (IE.var .i64 301857) (IE.lit 0))), (BE.not (BE.le (IE.len (LE.rom 0)) (IE.var .i64 301857))), (BE.lit true), (BE.le (IE.len (LE.rom 0)) (IE.lit 60)), (BE.le (IE.lit 1) (IE.len (LE.rom 0))), (BE.le (IE.lit 1) (IE.var .i64 1002)), (BE.le (IE.var .i64 1002) (IE.len (LE.rom 0))), (BE.le (IE.var .i64 301857) (IE.len (LE.rom 0))), (BE.le (IE.lit 0) (IE.var .i64 301860)), (BE.le (IE.var .i64 301860) (IE.var .i64 1002)), (BE.le (IE.var .i64 301860) (IE.var .i64 301857))] (some [(G.b (BE.lit true) (BE.lit false))]))
def wlaw4_5 : VW := (VW.cut 4 [(BE.eq (IE.var .i64 301857) (IE.cel .i64 (LE.var 1004) (IE.var .i64 301860) 0)), (BE.not (BE.le (IE.var .i64 1002) (IE.var .i64 301860))), (BE.fn 1 (AL.int .i64 (IE.cel .i64 (LE.rom 0) (IE.var .i64 301857) 0) (AL.int .i64 (IE.cel .i64 (LE.rom 0) (IE.var .i64 301857) 1) (AL.int .i64 (IE.var .i64 301858) (AL.int .i64 (IE.var .i64 301859) AL.nil))))), (BE.not (BE.le (IE.var .i64 301857) (IE.lit 0))), (BE.not (BE.le (IE.len (LE.rom 0)) (IE.var .i64 301857))), (BE.lit true), (BE.le (IE.len (LE.rom 0)) (IE.lit 60)), (BE.le (IE.lit 1) (IE.len (LE.rom 0))), (BE.le (IE.lit 1) (IE.var .i64 1002)), (BE.le (IE.var .i64 1002) (IE.len (LE.rom 0))), (BE.le (IE.var .i64 301857) (IE.len (LE.rom 0))), (BE.le (IE.lit 0) (IE.var .i64 301860)), (BE.le (IE.var .i64 301860) (IE.var .i64 1002)), (BE.le (IE.var .i64 301860) (IE.var .i64 301857))] (Sx.Sub.mk [(.i64, (301860, (IE.add (IE.var .i64 301860) (IE.lit 1)))), (.i64, (1002, (IE.var .i64 1002))), (.i64, (301859, (IE.cel .i64 (LE.rom 0) (IE.var .i64 301857) 1))), (.i64, (301858, (IE.cel .i64 (LE.rom 0) (IE.var .i64 301857) 0))), (.i64, (301857, (IE.add (IE.var .i64 301857) (IE.lit 1))))] [] [(1004, (LE.var 1004))] [] [] []))
def wlaw4_6 : VW := (VW.done [(BE.not (BE.eq (IE.var .i64 301857) (IE.cel .i64 (LE.var 1004) (IE.var .i64 301860) 0))), (BE.not (BE.le (IE.var .i64 1002) (IE.var .i64 301860))), (BE.fn 1 (AL.int .i64 (IE.cel .i64 (LE.rom 0) (IE.var .i64 301857) 0) (AL.int .i64 (IE.cel .i64 (LE.rom 0) (IE.var .i64 301857) 1) (AL.int .i64 (IE.var .i64 301858) (AL.int .i64 (IE.var .i64 301859) AL.nil))))), (BE.not (BE.le (IE.var .i64 301857) (IE.lit 0))), (BE.not (BE.le (IE.len (LE.rom 0)) (IE.var .i64 301857))), (BE.lit true), (BE.le (IE.len (LE.rom 0)) (IE.lit 60)), (BE.le (IE.lit 1) (IE.len (LE.rom 0))), (BE.le (IE.lit 1) (IE.var .i64 1002)), (BE.le (IE.var .i64 1002) (IE.len (LE.rom 0))), (BE.le (IE.var .i64 301857) (IE.len (LE.rom 0))), (BE.le (IE.lit 0) (IE.var .i64 301860)), (BE.le (IE.var .i64 301860) (IE.var .i64 1002)), (BE.le (IE.var .i64 301860) (IE.var .i64 301857))] (some [(G.b (BE.lit true) (BE.lit false))]))
def wlaw4_7 : VW := (VW.cut 4 [(BE.not (BE.fn 1 (AL.int .i64 (IE.cel .i64 (LE.rom 0) (IE.var .i64 301857) 0) (AL.int .i64 (IE.cel .i64 (LE.rom 0) (IE.var .i64 301857) 1) (AL.int .i64 (IE.var .i64 301858) (AL.int .i64 (IE.var .i64 301859) AL.nil)))))), (BE.not (BE.le (IE.var .i64 301857) (IE.lit 0))), (BE.not (BE.le (IE.len (LE.rom 0)) (IE.var .i64 301857))), (BE.lit true), (BE.le (IE.len (LE.rom 0)) (IE.lit 60)), (BE.le (IE.lit 1) (IE.len (LE.rom 0))), (BE.le (IE.lit 1) (IE.var .i64 1002)), (BE.le (IE.var .i64 1002) (IE.len (LE.rom 0))), (BE.le (IE.var .i64 301857) (IE.len (LE.rom 0))), (BE.le (IE.lit 0) (IE.var .i64 301860)), (BE.le (IE.var .i64 301860) (IE.var .i64 1002)), (BE.le (IE.var .i64 301860) (IE.var .i64 301857))] (Sx.Sub.mk [(.i64, (301860, (IE.var .i64 301860))), (.i64, (1002, (IE.var .i64 1002))), (.i64, (301859, (IE.var .i64 301859))), (.i64, (301858, (IE.var .i64 301858))), (.i64, (301857, (IE.add (IE.var .i64 301857) (IE.lit 1))))] [] [(1004, (LE.var 1004))] [] [] []))
def vwlaw4 : List VW := [wlaw4_0, wlaw4_1, wlaw4_2, wlaw4_3, wlaw4_4, wlaw4_5, wlaw4_6, wlaw4_7]
def vwlaw : Nat → List VW
  | 0 => vwlaw0
  | 1 => vwlaw1
  | 2 => vwlaw2
  | 3 => vwlaw3
  | 4 => vwlaw4
  | _ => []
end
def invlaw : Nat → Lt → Prop
  | 2, l => (l.l 1004) = risL (l.z.rl 0) (l.i .i64 1001).toNat ∧ 1 ≤ (l.i .i64 1001) ∧ (l.i .i64 1001) ≤ ((l.z.rl 0).length : Int) ∧ (l.i .i64 1002) = ((l.l 1004).length : Int) ∧ ((l.z.rl 0).length : Int) ≤ 60
  | 3, l => (l.l 1004) = risL (l.z.rl 0) (l.z.rl 0).length ∧ (l.i .i64 11860) = ((risL (l.z.rl 0) (l.i .i64 11857).toNat).length : Int) ∧ lastP (l.z.rl 0) (l.i .i64 11857) (l.i .i64 11858) (l.i .i64 11859) ∧ ((l.i .i64 11860) = 0 ∨ (l.i .i64 11860) < (l.i .i64 1))
  | 4, l => (l.l 1004) = risL (l.z.rl 0) (l.z.rl 0).length ∧ (l.i .i64 301860) = ((risL (l.z.rl 0) (l.i .i64 301857).toNat).length : Int) ∧ lastP (l.z.rl 0) (l.i .i64 301857) (l.i .i64 301858) (l.i .i64 301859)
  | _, _ => True
def mslaw : Nat → Lt → Nat
  | 0, l => 5 * ((l.z.rl 0).length + 1)
  | 1, l => 4 * ((l.z.rl 0).length + 1)
  | 2, l => 3 * ((l.z.rl 0).length + 1) + ((l.z.rl 0).length - (l.i .i64 1001).toNat)
  | 3, l => 2 * ((l.z.rl 0).length + 1) + ((l.z.rl 0).length - (l.i .i64 11857).toNat)
  | 4, l => ((l.z.rl 0).length + 1) + ((l.z.rl 0).length - (l.i .i64 301857).toNat)
  | _, _ => 0
theorem vclaw0_0 : VC (T rise.Φ cLaw.roms [cWorks, cRefOrder, cRefLatest, cLatest, cLater]) invlaw mslaw 0 (startF 10 cLaw.pat (.lit true :: cLaw.pre)) wlaw0_0 := by
  intro ρ kn hi hp
  have hF : ρ.z.F = rise.Φ := kn.F
  simp only [h_nil, h_cons, d_le, d_eq, d_not, d_var, d_lit, d_cel, d_leq, d_fn, d_and, d_iff, IE.den, LE.den, AL.den, lenV, true_and, and_true, hF, pi1, pi2, pb1] at hp
  obtain ⟨p1, p2⟩ := hp
  refine (show (True) ∧ ((4 * ((ρ.z.rl 0).length + 1) : Nat) < 5 * ((ρ.z.rl 0).length + 1)) from ?_)
  exact ⟨trivial, by omega⟩
theorem vclaw0_1 : VC (T rise.Φ cLaw.roms [cWorks, cRefOrder, cRefLatest, cLatest, cLater]) invlaw mslaw 0 (startF 10 cLaw.pat (.lit true :: cLaw.pre)) wlaw0_1 := by
  intro ρ kn hi hp
  exact all_nil
theorem vclaw1_0 : VC (T rise.Φ cLaw.roms [cWorks, cRefOrder, cRefLatest, cLatest, cLater]) invlaw mslaw 1 tlaw1 wlaw1_0 := by
  intro ρ kn hi hp
  have hF : ρ.z.F = rise.Φ := kn.F
  simp only [h_nil, h_cons, d_le, d_eq, d_not, d_var, d_lit, d_cel, d_leq, d_fn, d_and, d_iff, IE.den, LE.den, AL.den, lenV, true_and, and_true, hF, pi1, pi2, pb1] at hp
  obtain ⟨p1, p2, p3, p4, p5⟩ := hp
  refine (show (([[Go.Value.int .i64 (ρ.i .i64 1000)]] : LV) = risL (ρ.z.rl 0) ((ρ.i .i64 1000) + (1 : Int)).toNat ∧ 1 ≤ ((ρ.i .i64 1000) + (1 : Int)) ∧ ((ρ.i .i64 1000) + (1 : Int)) ≤ ((ρ.z.rl 0).length : Int) ∧ (1 : Int) = (([[Go.Value.int .i64 (ρ.i .i64 1000)]] : LV).length : Int) ∧ ((ρ.z.rl 0).length : Int) ≤ 60) ∧ ((3 * ((ρ.z.rl 0).length + 1) + ((ρ.z.rl 0).length - ((ρ.i .i64 1000) + (1 : Int)).toNat) : Nat) < 4 * ((ρ.z.rl 0).length + 1)) from ?_)
  have e : ρ.i .i64 1000 = 0 := by omega
  rw [e]
  exact ⟨⟨by simp [risL, isR], by omega, by omega, by simp, by omega⟩, by omega⟩
theorem vclaw2_0 : VC (T rise.Φ cLaw.roms [cWorks, cRefOrder, cRefLatest, cLatest, cLater]) invlaw mslaw 2 tlaw2 wlaw2_0 := by
  intro ρ kn hi hp
  have hi : (ρ.l 1004) = risL (ρ.z.rl 0) (ρ.i .i64 1001).toNat ∧ 1 ≤ (ρ.i .i64 1001) ∧ (ρ.i .i64 1001) ≤ ((ρ.z.rl 0).length : Int) ∧ (ρ.i .i64 1002) = ((ρ.l 1004).length : Int) ∧ ((ρ.z.rl 0).length : Int) ≤ 60 := hi
  have hr5 : Typed [(CK.int .i64)] (ρ.l 1004) ∧ (ρ.i .i64 1002) = (((ρ.l 1004)).length : Int) := kn.rows 5 _ _ _ _ _ _ rfl
  have hF : ρ.z.F = rise.Φ := kn.F
  simp only [h_nil, h_cons, d_le, d_eq, d_not, d_var, d_lit, d_cel, d_leq, d_fn, d_and, d_iff, IE.den, LE.den, AL.den, lenV, true_and, and_true, hF, pi1, pi2, pb1] at hp
  obtain ⟨p1, p2, p3, p4, p5, p6, p7, p8, p9⟩ := hp
  refine (show ((ρ.l 1004) = risL (ρ.z.rl 0) (ρ.z.rl 0).length ∧ (0 : Int) = ((risL (ρ.z.rl 0) (0 : Int).toNat).length : Int) ∧ lastP (ρ.z.rl 0) (0 : Int) (0 : Int) (0 : Int) ∧ ((0 : Int) = 0 ∨ (0 : Int) < (ρ.i .i64 1))) ∧ ((2 * ((ρ.z.rl 0).length + 1) + ((ρ.z.rl 0).length - (0 : Int).toNat) : Nat) < 3 * ((ρ.z.rl 0).length + 1) + ((ρ.z.rl 0).length - (ρ.i .i64 1001).toNat)) from ?_)
  obtain ⟨h1, h2, h3, h4, h5⟩ := hi
  exact ⟨⟨by rw [ris_end (J := ρ.i .i64 1001) (by assumption) (by assumption)]; exact h1, by simp [risL], fun h => absurd h (by omega), .inl rfl⟩, by omega⟩
theorem vclaw2_1 : VC (T rise.Φ cLaw.roms [cWorks, cRefOrder, cRefLatest, cLatest, cLater]) invlaw mslaw 2 tlaw2 wlaw2_1 := by
  intro ρ kn hi hp
  have hi : (ρ.l 1004) = risL (ρ.z.rl 0) (ρ.i .i64 1001).toNat ∧ 1 ≤ (ρ.i .i64 1001) ∧ (ρ.i .i64 1001) ≤ ((ρ.z.rl 0).length : Int) ∧ (ρ.i .i64 1002) = ((ρ.l 1004).length : Int) ∧ ((ρ.z.rl 0).length : Int) ≤ 60 := hi
  have hr5 : Typed [(CK.int .i64)] (ρ.l 1004) ∧ (ρ.i .i64 1002) = (((ρ.l 1004)).length : Int) := kn.rows 5 _ _ _ _ _ _ rfl
  have hF : ρ.z.F = rise.Φ := kn.F
  simp only [h_nil, h_cons, d_le, d_eq, d_not, d_var, d_lit, d_cel, d_leq, d_fn, d_and, d_iff, IE.den, LE.den, AL.den, lenV, true_and, and_true, hF, pi1, pi2, pb1] at hp
  obtain ⟨p1, p2, p3, p4, p5, p6, p7, p8, p9, p10⟩ := hp
  refine (show ((ρ.l 1004) = risL (ρ.z.rl 0) ((ρ.i .i64 1001) + (1 : Int)).toNat ∧ 1 ≤ ((ρ.i .i64 1001) + (1 : Int)) ∧ ((ρ.i .i64 1001) + (1 : Int)) ≤ ((ρ.z.rl 0).length : Int) ∧ (ρ.i .i64 1002) = ((ρ.l 1004).length : Int) ∧ ((ρ.z.rl 0).length : Int) ≤ 60) ∧ ((3 * ((ρ.z.rl 0).length + 1) + ((ρ.z.rl 0).length - ((ρ.i .i64 1001) + (1 : Int)).toNat) : Nat) < 3 * ((ρ.z.rl 0).length + 1) + ((ρ.z.rl 0).length - (ρ.i .i64 1001).toNat)) from ?_)
  obtain ⟨h1, h2, h3, h4, h5⟩ := hi
  rw [ris_lastc h1 h2 h3 h5 h4] at p1
  have hb : ¬ isR (ρ.z.rl 0) (ρ.i .i64 1001).toNat = true := by rw [isR_eq h2]; exact ord_le p1
  exact ⟨⟨by rw [ris_skip (by omega) hb]; exact h1, by omega, by omega, h4, h5⟩, by omega⟩
theorem vclaw2_2 : VC (T rise.Φ cLaw.roms [cWorks, cRefOrder, cRefLatest, cLatest, cLater]) invlaw mslaw 2 tlaw2 wlaw2_2 := by
  intro ρ kn hi hp
  have hi : (ρ.l 1004) = risL (ρ.z.rl 0) (ρ.i .i64 1001).toNat ∧ 1 ≤ (ρ.i .i64 1001) ∧ (ρ.i .i64 1001) ≤ ((ρ.z.rl 0).length : Int) ∧ (ρ.i .i64 1002) = ((ρ.l 1004).length : Int) ∧ ((ρ.z.rl 0).length : Int) ≤ 60 := hi
  have hr5 : Typed [(CK.int .i64)] (ρ.l 1004) ∧ (ρ.i .i64 1002) = (((ρ.l 1004)).length : Int) := kn.rows 5 _ _ _ _ _ _ rfl
  have hF : ρ.z.F = rise.Φ := kn.F
  simp only [h_nil, h_cons, d_le, d_eq, d_not, d_var, d_lit, d_cel, d_leq, d_fn, d_and, d_iff, IE.den, LE.den, AL.den, lenV, true_and, and_true, hF, pi1, pi2, pb1] at hp
  obtain ⟨p1, p2, p3, p4, p5, p6, p7, p8, p9, p10⟩ := hp
  refine (show (((ρ.l 1004) ++ ([[Go.Value.int .i64 (ρ.i .i64 1001)]] : LV)) = risL (ρ.z.rl 0) ((ρ.i .i64 1001) + (1 : Int)).toNat ∧ 1 ≤ ((ρ.i .i64 1001) + (1 : Int)) ∧ ((ρ.i .i64 1001) + (1 : Int)) ≤ ((ρ.z.rl 0).length : Int) ∧ ((ρ.i .i64 1002) + (1 : Int)) = (((ρ.l 1004) ++ ([[Go.Value.int .i64 (ρ.i .i64 1001)]] : LV)).length : Int) ∧ ((ρ.z.rl 0).length : Int) ≤ 60) ∧ ((3 * ((ρ.z.rl 0).length + 1) + ((ρ.z.rl 0).length - ((ρ.i .i64 1001) + (1 : Int)).toNat) : Nat) < 3 * ((ρ.z.rl 0).length + 1) + ((ρ.z.rl 0).length - (ρ.i .i64 1001).toNat)) from ?_)
  obtain ⟨h1, h2, h3, h4, h5⟩ := hi
  rw [ris_lastc h1 h2 h3 h5 h4] at p1
  have hb : isR (ρ.z.rl 0) (ρ.i .i64 1001).toNat = true := by rw [isR_eq h2]; exact ord_gt p1
  exact ⟨⟨by rw [ris_more (by omega) hb, ← h1], by omega, by omega, by simp; omega, h5⟩, by omega⟩
theorem vclaw3_0 : VC (T rise.Φ cLaw.roms [cWorks, cRefOrder, cRefLatest, cLatest, cLater]) invlaw mslaw 3 tlaw3 wlaw3_0 := by
  intro ρ kn hi hp
  have hi : (ρ.l 1004) = risL (ρ.z.rl 0) (ρ.z.rl 0).length ∧ (ρ.i .i64 11860) = ((risL (ρ.z.rl 0) (ρ.i .i64 11857).toNat).length : Int) ∧ lastP (ρ.z.rl 0) (ρ.i .i64 11857) (ρ.i .i64 11858) (ρ.i .i64 11859) ∧ ((ρ.i .i64 11860) = 0 ∨ (ρ.i .i64 11860) < (ρ.i .i64 1)) := hi
  have hr8 : Typed [(CK.int .i64), (CK.int .i64)] (ρ.z.rl 0) ∧ (((ρ.z.rl 0).length : Nat) : Int) = (((ρ.z.rl 0)).length : Int) := kn.rows 8 _ _ _ _ _ _ rfl
  have hr5 : Typed [(CK.int .i64)] (ρ.l 1004) ∧ (ρ.i .i64 1002) = (((ρ.l 1004)).length : Int) := kn.rows 5 _ _ _ _ _ _ rfl
  have hF : ρ.z.F = rise.Φ := kn.F
  simp only [h_nil, h_cons, d_le, d_eq, d_not, d_var, d_lit, d_cel, d_leq, d_fn, d_and, d_iff, IE.den, LE.den, AL.den, lenV, true_and, and_true, hF, pi1, pi2, pb1] at hp
  obtain ⟨p1, p2, p3, p4, p5, p6, p7, p8, p9, p10, p11, p12⟩ := hp
  refine (show ((ρ.l 1004) = risL (ρ.z.rl 0) (ρ.z.rl 0).length ∧ (0 : Int) = ((risL (ρ.z.rl 0) (0 : Int).toNat).length : Int) ∧ lastP (ρ.z.rl 0) (0 : Int) (0 : Int) (0 : Int)) ∧ ((((ρ.z.rl 0).length + 1) + ((ρ.z.rl 0).length - (0 : Int).toNat) : Nat) < 2 * ((ρ.z.rl 0).length + 1) + ((ρ.z.rl 0).length - (ρ.i .i64 11857).toNat)) from ?_)
  obtain ⟨h1, h2, h3, h4⟩ := hi
  have hx := hr5.2
  first
    | (have e := ris_end (R := ρ.z.rl 0) (J := ρ.i .i64 11857) (by assumption) (by assumption)
       rw [← e, ← h1] at h2
       first
         | omega
         | exact ⟨⟨h1, by simp [risL], fun h => absurd h (by omega)⟩, by omega⟩)
    | (have hb : isR (ρ.z.rl 0) (ρ.i .i64 11857).toNat = true := by
         first
           | exact is_zero (by omega) (by assumption)
           | (rw [is_of (by omega) h3]; assumption)
       obtain ⟨a, b, c⟩ := ris_step h1 h2 hx (by omega) (by omega) (by omega) hb
       first
         | omega
         | exact ⟨⟨h1, c.symm, last_yes (by omega) hb⟩, by omega⟩
         | exact ⟨⟨h1, c.symm, last_yes (by omega) hb, by omega⟩, by omega⟩
         | exact ⟨⟨h1, by simp [risL], fun h => absurd h (by omega)⟩, by omega⟩)
    | (have hb : ¬ isR (ρ.z.rl 0) (ρ.i .i64 11857).toNat = true := by rw [is_of (by omega) h3]; assumption
       have c := ris_skip (R := ρ.z.rl 0) (J := ρ.i .i64 11857) (by omega) hb
       rw [← c] at h2
       first
         | exact ⟨⟨h1, h2, last_no (by omega) hb h3⟩, by omega⟩
         | exact ⟨⟨h1, h2, last_no (by omega) hb h3, h4⟩, by omega⟩)
theorem vclaw3_1 : VC (T rise.Φ cLaw.roms [cWorks, cRefOrder, cRefLatest, cLatest, cLater]) invlaw mslaw 3 tlaw3 wlaw3_1 := by
  intro ρ kn hi hp
  have hi : (ρ.l 1004) = risL (ρ.z.rl 0) (ρ.z.rl 0).length ∧ (ρ.i .i64 11860) = ((risL (ρ.z.rl 0) (ρ.i .i64 11857).toNat).length : Int) ∧ lastP (ρ.z.rl 0) (ρ.i .i64 11857) (ρ.i .i64 11858) (ρ.i .i64 11859) ∧ ((ρ.i .i64 11860) = 0 ∨ (ρ.i .i64 11860) < (ρ.i .i64 1)) := hi
  have hr8 : Typed [(CK.int .i64), (CK.int .i64)] (ρ.z.rl 0) ∧ (((ρ.z.rl 0).length : Nat) : Int) = (((ρ.z.rl 0)).length : Int) := kn.rows 8 _ _ _ _ _ _ rfl
  have hr5 : Typed [(CK.int .i64)] (ρ.l 1004) ∧ (ρ.i .i64 1002) = (((ρ.l 1004)).length : Int) := kn.rows 5 _ _ _ _ _ _ rfl
  have hF : ρ.z.F = rise.Φ := kn.F
  simp only [h_nil, h_cons, d_le, d_eq, d_not, d_var, d_lit, d_cel, d_leq, d_fn, d_and, d_iff, IE.den, LE.den, AL.den, lenV, true_and, and_true, hF, pi1, pi2, pb1] at hp
  obtain ⟨p1, p2, p3, p4, p5, p6, p7, p8, p9, p10, p11, p12⟩ := hp
  exfalso
  obtain ⟨h1, h2, h3, h4⟩ := hi
  have hx := hr5.2
  first
    | (have e := ris_end (R := ρ.z.rl 0) (J := ρ.i .i64 11857) (by assumption) (by assumption)
       rw [← e, ← h1] at h2
       first
         | omega
         | exact ⟨⟨h1, by simp [risL], fun h => absurd h (by omega)⟩, by omega⟩)
    | (have hb : isR (ρ.z.rl 0) (ρ.i .i64 11857).toNat = true := by
         first
           | exact is_zero (by omega) (by assumption)
           | (rw [is_of (by omega) h3]; assumption)
       obtain ⟨a, b, c⟩ := ris_step h1 h2 hx (by omega) (by omega) (by omega) hb
       first
         | omega
         | exact ⟨⟨h1, c.symm, last_yes (by omega) hb⟩, by omega⟩
         | exact ⟨⟨h1, c.symm, last_yes (by omega) hb, by omega⟩, by omega⟩
         | exact ⟨⟨h1, by simp [risL], fun h => absurd h (by omega)⟩, by omega⟩)
    | (have hb : ¬ isR (ρ.z.rl 0) (ρ.i .i64 11857).toNat = true := by rw [is_of (by omega) h3]; assumption
       have c := ris_skip (R := ρ.z.rl 0) (J := ρ.i .i64 11857) (by omega) hb
       rw [← c] at h2
       first
         | exact ⟨⟨h1, h2, last_no (by omega) hb h3⟩, by omega⟩
         | exact ⟨⟨h1, h2, last_no (by omega) hb h3, h4⟩, by omega⟩)
theorem vclaw3_2 : VC (T rise.Φ cLaw.roms [cWorks, cRefOrder, cRefLatest, cLatest, cLater]) invlaw mslaw 3 tlaw3 wlaw3_2 := by
  intro ρ kn hi hp
  have hi : (ρ.l 1004) = risL (ρ.z.rl 0) (ρ.z.rl 0).length ∧ (ρ.i .i64 11860) = ((risL (ρ.z.rl 0) (ρ.i .i64 11857).toNat).length : Int) ∧ lastP (ρ.z.rl 0) (ρ.i .i64 11857) (ρ.i .i64 11858) (ρ.i .i64 11859) ∧ ((ρ.i .i64 11860) = 0 ∨ (ρ.i .i64 11860) < (ρ.i .i64 1)) := hi
  have hr8 : Typed [(CK.int .i64), (CK.int .i64)] (ρ.z.rl 0) ∧ (((ρ.z.rl 0).length : Nat) : Int) = (((ρ.z.rl 0)).length : Int) := kn.rows 8 _ _ _ _ _ _ rfl
  have hr5 : Typed [(CK.int .i64)] (ρ.l 1004) ∧ (ρ.i .i64 1002) = (((ρ.l 1004)).length : Int) := kn.rows 5 _ _ _ _ _ _ rfl
  have hF : ρ.z.F = rise.Φ := kn.F
  simp only [h_nil, h_cons, d_le, d_eq, d_not, d_var, d_lit, d_cel, d_leq, d_fn, d_and, d_iff, IE.den, LE.den, AL.den, lenV, true_and, and_true, hF, pi1, pi2, pb1] at hp
  obtain ⟨p1, p2, p3, p4, p5, p6, p7, p8, p9, p10, p11, p12⟩ := hp
  refine (show ((ρ.l 1004) = risL (ρ.z.rl 0) (ρ.z.rl 0).length ∧ (0 : Int) = ((risL (ρ.z.rl 0) (0 : Int).toNat).length : Int) ∧ lastP (ρ.z.rl 0) (0 : Int) (0 : Int) (0 : Int)) ∧ ((((ρ.z.rl 0).length + 1) + ((ρ.z.rl 0).length - (0 : Int).toNat) : Nat) < 2 * ((ρ.z.rl 0).length + 1) + ((ρ.z.rl 0).length - (ρ.i .i64 11857).toNat)) from ?_)
  obtain ⟨h1, h2, h3, h4⟩ := hi
  have hx := hr5.2
  first
    | (have e := ris_end (R := ρ.z.rl 0) (J := ρ.i .i64 11857) (by assumption) (by assumption)
       rw [← e, ← h1] at h2
       first
         | omega
         | exact ⟨⟨h1, by simp [risL], fun h => absurd h (by omega)⟩, by omega⟩)
    | (have hb : isR (ρ.z.rl 0) (ρ.i .i64 11857).toNat = true := by
         first
           | exact is_zero (by omega) (by assumption)
           | (rw [is_of (by omega) h3]; assumption)
       obtain ⟨a, b, c⟩ := ris_step h1 h2 hx (by omega) (by omega) (by omega) hb
       first
         | omega
         | exact ⟨⟨h1, c.symm, last_yes (by omega) hb⟩, by omega⟩
         | exact ⟨⟨h1, c.symm, last_yes (by omega) hb, by omega⟩, by omega⟩
         | exact ⟨⟨h1, by simp [risL], fun h => absurd h (by omega)⟩, by omega⟩)
    | (have hb : ¬ isR (ρ.z.rl 0) (ρ.i .i64 11857).toNat = true := by rw [is_of (by omega) h3]; assumption
       have c := ris_skip (R := ρ.z.rl 0) (J := ρ.i .i64 11857) (by omega) hb
       rw [← c] at h2
       first
         | exact ⟨⟨h1, h2, last_no (by omega) hb h3⟩, by omega⟩
         | exact ⟨⟨h1, h2, last_no (by omega) hb h3, h4⟩, by omega⟩)
theorem vclaw3_3 : VC (T rise.Φ cLaw.roms [cWorks, cRefOrder, cRefLatest, cLatest, cLater]) invlaw mslaw 3 tlaw3 wlaw3_3 := by
  intro ρ kn hi hp
  have hi : (ρ.l 1004) = risL (ρ.z.rl 0) (ρ.z.rl 0).length ∧ (ρ.i .i64 11860) = ((risL (ρ.z.rl 0) (ρ.i .i64 11857).toNat).length : Int) ∧ lastP (ρ.z.rl 0) (ρ.i .i64 11857) (ρ.i .i64 11858) (ρ.i .i64 11859) ∧ ((ρ.i .i64 11860) = 0 ∨ (ρ.i .i64 11860) < (ρ.i .i64 1)) := hi
  have hr8 : Typed [(CK.int .i64), (CK.int .i64)] (ρ.z.rl 0) ∧ (((ρ.z.rl 0).length : Nat) : Int) = (((ρ.z.rl 0)).length : Int) := kn.rows 8 _ _ _ _ _ _ rfl
  have hr5 : Typed [(CK.int .i64)] (ρ.l 1004) ∧ (ρ.i .i64 1002) = (((ρ.l 1004)).length : Int) := kn.rows 5 _ _ _ _ _ _ rfl
  have hF : ρ.z.F = rise.Φ := kn.F
  simp only [h_nil, h_cons, d_le, d_eq, d_not, d_var, d_lit, d_cel, d_leq, d_fn, d_and, d_iff, IE.den, LE.den, AL.den, lenV, true_and, and_true, hF, pi1, pi2, pb1] at hp
  obtain ⟨p1, p2, p3, p4, p5, p6, p7, p8, p9, p10, p11, p12⟩ := hp
  exfalso
  obtain ⟨h1, h2, h3, h4⟩ := hi
  have hx := hr5.2
  first
    | (have e := ris_end (R := ρ.z.rl 0) (J := ρ.i .i64 11857) (by assumption) (by assumption)
       rw [← e, ← h1] at h2
       first
         | omega
         | exact ⟨⟨h1, by simp [risL], fun h => absurd h (by omega)⟩, by omega⟩)
    | (have hb : isR (ρ.z.rl 0) (ρ.i .i64 11857).toNat = true := by
         first
           | exact is_zero (by omega) (by assumption)
           | (rw [is_of (by omega) h3]; assumption)
       obtain ⟨a, b, c⟩ := ris_step h1 h2 hx (by omega) (by omega) (by omega) hb
       first
         | omega
         | exact ⟨⟨h1, c.symm, last_yes (by omega) hb⟩, by omega⟩
         | exact ⟨⟨h1, c.symm, last_yes (by omega) hb, by omega⟩, by omega⟩
         | exact ⟨⟨h1, by simp [risL], fun h => absurd h (by omega)⟩, by omega⟩)
    | (have hb : ¬ isR (ρ.z.rl 0) (ρ.i .i64 11857).toNat = true := by rw [is_of (by omega) h3]; assumption
       have c := ris_skip (R := ρ.z.rl 0) (J := ρ.i .i64 11857) (by omega) hb
       rw [← c] at h2
       first
         | exact ⟨⟨h1, h2, last_no (by omega) hb h3⟩, by omega⟩
         | exact ⟨⟨h1, h2, last_no (by omega) hb h3, h4⟩, by omega⟩)
theorem vclaw3_4 : VC (T rise.Φ cLaw.roms [cWorks, cRefOrder, cRefLatest, cLatest, cLater]) invlaw mslaw 3 tlaw3 wlaw3_4 := by
  intro ρ kn hi hp
  have hi : (ρ.l 1004) = risL (ρ.z.rl 0) (ρ.z.rl 0).length ∧ (ρ.i .i64 11860) = ((risL (ρ.z.rl 0) (ρ.i .i64 11857).toNat).length : Int) ∧ lastP (ρ.z.rl 0) (ρ.i .i64 11857) (ρ.i .i64 11858) (ρ.i .i64 11859) ∧ ((ρ.i .i64 11860) = 0 ∨ (ρ.i .i64 11860) < (ρ.i .i64 1)) := hi
  have hr8 : Typed [(CK.int .i64), (CK.int .i64)] (ρ.z.rl 0) ∧ (((ρ.z.rl 0).length : Nat) : Int) = (((ρ.z.rl 0)).length : Int) := kn.rows 8 _ _ _ _ _ _ rfl
  have hr5 : Typed [(CK.int .i64)] (ρ.l 1004) ∧ (ρ.i .i64 1002) = (((ρ.l 1004)).length : Int) := kn.rows 5 _ _ _ _ _ _ rfl
  have hF : ρ.z.F = rise.Φ := kn.F
  simp only [h_nil, h_cons, d_le, d_eq, d_not, d_var, d_lit, d_cel, d_leq, d_fn, d_and, d_iff, IE.den, LE.den, AL.den, lenV, true_and, and_true, hF, pi1, pi2, pb1] at hp
  obtain ⟨p1, p2, p3, p4, p5, p6, p7, p8, p9, p10, p11, p12⟩ := hp
  refine (show ((ρ.l 1004) = risL (ρ.z.rl 0) (ρ.z.rl 0).length ∧ (0 : Int) = ((risL (ρ.z.rl 0) (0 : Int).toNat).length : Int) ∧ lastP (ρ.z.rl 0) (0 : Int) (0 : Int) (0 : Int)) ∧ ((((ρ.z.rl 0).length + 1) + ((ρ.z.rl 0).length - (0 : Int).toNat) : Nat) < 2 * ((ρ.z.rl 0).length + 1) + ((ρ.z.rl 0).length - (ρ.i .i64 11857).toNat)) from ?_)
  obtain ⟨h1, h2, h3, h4⟩ := hi
  have hx := hr5.2
  first
    | (have e := ris_end (R := ρ.z.rl 0) (J := ρ.i .i64 11857) (by assumption) (by assumption)
       rw [← e, ← h1] at h2
       first
         | omega
         | exact ⟨⟨h1, by simp [risL], fun h => absurd h (by omega)⟩, by omega⟩)
    | (have hb : isR (ρ.z.rl 0) (ρ.i .i64 11857).toNat = true := by
         first
           | exact is_zero (by omega) (by assumption)
           | (rw [is_of (by omega) h3]; assumption)
       obtain ⟨a, b, c⟩ := ris_step h1 h2 hx (by omega) (by omega) (by omega) hb
       first
         | omega
         | exact ⟨⟨h1, c.symm, last_yes (by omega) hb⟩, by omega⟩
         | exact ⟨⟨h1, c.symm, last_yes (by omega) hb, by omega⟩, by omega⟩
         | exact ⟨⟨h1, by simp [risL], fun h => absurd h (by omega)⟩, by omega⟩)
    | (have hb : ¬ isR (ρ.z.rl 0) (ρ.i .i64 11857).toNat = true := by rw [is_of (by omega) h3]; assumption
       have c := ris_skip (R := ρ.z.rl 0) (J := ρ.i .i64 11857) (by omega) hb
       rw [← c] at h2
       first
         | exact ⟨⟨h1, h2, last_no (by omega) hb h3⟩, by omega⟩
         | exact ⟨⟨h1, h2, last_no (by omega) hb h3, h4⟩, by omega⟩)
theorem vclaw3_5 : VC (T rise.Φ cLaw.roms [cWorks, cRefOrder, cRefLatest, cLatest, cLater]) invlaw mslaw 3 tlaw3 wlaw3_5 := by
  intro ρ kn hi hp
  have hi : (ρ.l 1004) = risL (ρ.z.rl 0) (ρ.z.rl 0).length ∧ (ρ.i .i64 11860) = ((risL (ρ.z.rl 0) (ρ.i .i64 11857).toNat).length : Int) ∧ lastP (ρ.z.rl 0) (ρ.i .i64 11857) (ρ.i .i64 11858) (ρ.i .i64 11859) ∧ ((ρ.i .i64 11860) = 0 ∨ (ρ.i .i64 11860) < (ρ.i .i64 1)) := hi
  have hr8 : Typed [(CK.int .i64), (CK.int .i64)] (ρ.z.rl 0) ∧ (((ρ.z.rl 0).length : Nat) : Int) = (((ρ.z.rl 0)).length : Int) := kn.rows 8 _ _ _ _ _ _ rfl
  have hr5 : Typed [(CK.int .i64)] (ρ.l 1004) ∧ (ρ.i .i64 1002) = (((ρ.l 1004)).length : Int) := kn.rows 5 _ _ _ _ _ _ rfl
  have hF : ρ.z.F = rise.Φ := kn.F
  simp only [h_nil, h_cons, d_le, d_eq, d_not, d_var, d_lit, d_cel, d_leq, d_fn, d_and, d_iff, IE.den, LE.den, AL.den, lenV, true_and, and_true, hF, pi1, pi2, pb1] at hp
  obtain ⟨p1, p2, p3, p4, p5, p6, p7, p8, p9, p10, p11, p12⟩ := hp
  exfalso
  obtain ⟨h1, h2, h3, h4⟩ := hi
  have hx := hr5.2
  first
    | (have e := ris_end (R := ρ.z.rl 0) (J := ρ.i .i64 11857) (by assumption) (by assumption)
       rw [← e, ← h1] at h2
       first
         | omega
         | exact ⟨⟨h1, by simp [risL], fun h => absurd h (by omega)⟩, by omega⟩)
    | (have hb : isR (ρ.z.rl 0) (ρ.i .i64 11857).toNat = true := by
         first
           | exact is_zero (by omega) (by assumption)
           | (rw [is_of (by omega) h3]; assumption)
       obtain ⟨a, b, c⟩ := ris_step h1 h2 hx (by omega) (by omega) (by omega) hb
       first
         | omega
         | exact ⟨⟨h1, c.symm, last_yes (by omega) hb⟩, by omega⟩
         | exact ⟨⟨h1, c.symm, last_yes (by omega) hb, by omega⟩, by omega⟩
         | exact ⟨⟨h1, by simp [risL], fun h => absurd h (by omega)⟩, by omega⟩)
    | (have hb : ¬ isR (ρ.z.rl 0) (ρ.i .i64 11857).toNat = true := by rw [is_of (by omega) h3]; assumption
       have c := ris_skip (R := ρ.z.rl 0) (J := ρ.i .i64 11857) (by omega) hb
       rw [← c] at h2
       first
         | exact ⟨⟨h1, h2, last_no (by omega) hb h3⟩, by omega⟩
         | exact ⟨⟨h1, h2, last_no (by omega) hb h3, h4⟩, by omega⟩)
theorem vclaw3_6 : VC (T rise.Φ cLaw.roms [cWorks, cRefOrder, cRefLatest, cLatest, cLater]) invlaw mslaw 3 tlaw3 wlaw3_6 := by
  intro ρ kn hi hp
  have hi : (ρ.l 1004) = risL (ρ.z.rl 0) (ρ.z.rl 0).length ∧ (ρ.i .i64 11860) = ((risL (ρ.z.rl 0) (ρ.i .i64 11857).toNat).length : Int) ∧ lastP (ρ.z.rl 0) (ρ.i .i64 11857) (ρ.i .i64 11858) (ρ.i .i64 11859) ∧ ((ρ.i .i64 11860) = 0 ∨ (ρ.i .i64 11860) < (ρ.i .i64 1)) := hi
  have hr8 : Typed [(CK.int .i64), (CK.int .i64)] (ρ.z.rl 0) ∧ (((ρ.z.rl 0).length : Nat) : Int) = (((ρ.z.rl 0)).length : Int) := kn.rows 8 _ _ _ _ _ _ rfl
  have hr5 : Typed [(CK.int .i64)] (ρ.l 1004) ∧ (ρ.i .i64 1002) = (((ρ.l 1004)).length : Int) := kn.rows 5 _ _ _ _ _ _ rfl
  have hF : ρ.z.F = rise.Φ := kn.F
  simp only [h_nil, h_cons, d_le, d_eq, d_not, d_var, d_lit, d_cel, d_leq, d_fn, d_and, d_iff, IE.den, LE.den, AL.den, lenV, true_and, and_true, hF, pi1, pi2, pb1] at hp
  obtain ⟨p1, p2, p3, p4, p5, p6, p7, p8, p9, p10, p11, p12⟩ := hp
  refine (show ((ρ.l 1004) = risL (ρ.z.rl 0) (ρ.z.rl 0).length ∧ (0 : Int) = ((risL (ρ.z.rl 0) (0 : Int).toNat).length : Int) ∧ lastP (ρ.z.rl 0) (0 : Int) (0 : Int) (0 : Int)) ∧ ((((ρ.z.rl 0).length + 1) + ((ρ.z.rl 0).length - (0 : Int).toNat) : Nat) < 2 * ((ρ.z.rl 0).length + 1) + ((ρ.z.rl 0).length - (ρ.i .i64 11857).toNat)) from ?_)
  obtain ⟨h1, h2, h3, h4⟩ := hi
  have hx := hr5.2
  first
    | (have e := ris_end (R := ρ.z.rl 0) (J := ρ.i .i64 11857) (by assumption) (by assumption)
       rw [← e, ← h1] at h2
       first
         | omega
         | exact ⟨⟨h1, by simp [risL], fun h => absurd h (by omega)⟩, by omega⟩)
    | (have hb : isR (ρ.z.rl 0) (ρ.i .i64 11857).toNat = true := by
         first
           | exact is_zero (by omega) (by assumption)
           | (rw [is_of (by omega) h3]; assumption)
       obtain ⟨a, b, c⟩ := ris_step h1 h2 hx (by omega) (by omega) (by omega) hb
       first
         | omega
         | exact ⟨⟨h1, c.symm, last_yes (by omega) hb⟩, by omega⟩
         | exact ⟨⟨h1, c.symm, last_yes (by omega) hb, by omega⟩, by omega⟩
         | exact ⟨⟨h1, by simp [risL], fun h => absurd h (by omega)⟩, by omega⟩)
    | (have hb : ¬ isR (ρ.z.rl 0) (ρ.i .i64 11857).toNat = true := by rw [is_of (by omega) h3]; assumption
       have c := ris_skip (R := ρ.z.rl 0) (J := ρ.i .i64 11857) (by omega) hb
       rw [← c] at h2
       first
         | exact ⟨⟨h1, h2, last_no (by omega) hb h3⟩, by omega⟩
         | exact ⟨⟨h1, h2, last_no (by omega) hb h3, h4⟩, by omega⟩)
theorem vclaw3_7 : VC (T rise.Φ cLaw.roms [cWorks, cRefOrder, cRefLatest, cLatest, cLater]) invlaw mslaw 3 tlaw3 wlaw3_7 := by
  intro ρ kn hi hp
  have hi : (ρ.l 1004) = risL (ρ.z.rl 0) (ρ.z.rl 0).length ∧ (ρ.i .i64 11860) = ((risL (ρ.z.rl 0) (ρ.i .i64 11857).toNat).length : Int) ∧ lastP (ρ.z.rl 0) (ρ.i .i64 11857) (ρ.i .i64 11858) (ρ.i .i64 11859) ∧ ((ρ.i .i64 11860) = 0 ∨ (ρ.i .i64 11860) < (ρ.i .i64 1)) := hi
  have hr8 : Typed [(CK.int .i64), (CK.int .i64)] (ρ.z.rl 0) ∧ (((ρ.z.rl 0).length : Nat) : Int) = (((ρ.z.rl 0)).length : Int) := kn.rows 8 _ _ _ _ _ _ rfl
  have hr5 : Typed [(CK.int .i64)] (ρ.l 1004) ∧ (ρ.i .i64 1002) = (((ρ.l 1004)).length : Int) := kn.rows 5 _ _ _ _ _ _ rfl
  have hF : ρ.z.F = rise.Φ := kn.F
  simp only [h_nil, h_cons, d_le, d_eq, d_not, d_var, d_lit, d_cel, d_leq, d_fn, d_and, d_iff, IE.den, LE.den, AL.den, lenV, true_and, and_true, hF, pi1, pi2, pb1] at hp
  obtain ⟨p1, p2, p3, p4, p5, p6, p7, p8, p9, p10, p11, p12⟩ := hp
  exfalso
  obtain ⟨h1, h2, h3, h4⟩ := hi
  have hx := hr5.2
  first
    | (have e := ris_end (R := ρ.z.rl 0) (J := ρ.i .i64 11857) (by assumption) (by assumption)
       rw [← e, ← h1] at h2
       first
         | omega
         | exact ⟨⟨h1, by simp [risL], fun h => absurd h (by omega)⟩, by omega⟩)
    | (have hb : isR (ρ.z.rl 0) (ρ.i .i64 11857).toNat = true := by
         first
           | exact is_zero (by omega) (by assumption)
           | (rw [is_of (by omega) h3]; assumption)
       obtain ⟨a, b, c⟩ := ris_step h1 h2 hx (by omega) (by omega) (by omega) hb
       first
         | omega
         | exact ⟨⟨h1, c.symm, last_yes (by omega) hb⟩, by omega⟩
         | exact ⟨⟨h1, c.symm, last_yes (by omega) hb, by omega⟩, by omega⟩
         | exact ⟨⟨h1, by simp [risL], fun h => absurd h (by omega)⟩, by omega⟩)
    | (have hb : ¬ isR (ρ.z.rl 0) (ρ.i .i64 11857).toNat = true := by rw [is_of (by omega) h3]; assumption
       have c := ris_skip (R := ρ.z.rl 0) (J := ρ.i .i64 11857) (by omega) hb
       rw [← c] at h2
       first
         | exact ⟨⟨h1, h2, last_no (by omega) hb h3⟩, by omega⟩
         | exact ⟨⟨h1, h2, last_no (by omega) hb h3, h4⟩, by omega⟩)
theorem vclaw3_8 : VC (T rise.Φ cLaw.roms [cWorks, cRefOrder, cRefLatest, cLatest, cLater]) invlaw mslaw 3 tlaw3 wlaw3_8 := by
  intro ρ kn hi hp
  have hi : (ρ.l 1004) = risL (ρ.z.rl 0) (ρ.z.rl 0).length ∧ (ρ.i .i64 11860) = ((risL (ρ.z.rl 0) (ρ.i .i64 11857).toNat).length : Int) ∧ lastP (ρ.z.rl 0) (ρ.i .i64 11857) (ρ.i .i64 11858) (ρ.i .i64 11859) ∧ ((ρ.i .i64 11860) = 0 ∨ (ρ.i .i64 11860) < (ρ.i .i64 1)) := hi
  have hr8 : Typed [(CK.int .i64), (CK.int .i64)] (ρ.z.rl 0) ∧ (((ρ.z.rl 0).length : Nat) : Int) = (((ρ.z.rl 0)).length : Int) := kn.rows 8 _ _ _ _ _ _ rfl
  have hr5 : Typed [(CK.int .i64)] (ρ.l 1004) ∧ (ρ.i .i64 1002) = (((ρ.l 1004)).length : Int) := kn.rows 5 _ _ _ _ _ _ rfl
  have hF : ρ.z.F = rise.Φ := kn.F
  simp only [h_nil, h_cons, d_le, d_eq, d_not, d_var, d_lit, d_cel, d_leq, d_fn, d_and, d_iff, IE.den, LE.den, AL.den, lenV, true_and, and_true, hF, pi1, pi2, pb1] at hp
  obtain ⟨p1, p2, p3, p4, p5, p6, p7, p8, p9, p10, p11, p12, p13, p14⟩ := hp
  refine (show ((ρ.l 1004) = risL (ρ.z.rl 0) (ρ.z.rl 0).length ∧ (0 : Int) = ((risL (ρ.z.rl 0) (0 : Int).toNat).length : Int) ∧ lastP (ρ.z.rl 0) (0 : Int) (0 : Int) (0 : Int)) ∧ ((((ρ.z.rl 0).length + 1) + ((ρ.z.rl 0).length - (0 : Int).toNat) : Nat) < 2 * ((ρ.z.rl 0).length + 1) + ((ρ.z.rl 0).length - (ρ.i .i64 11857).toNat)) from ?_)
  obtain ⟨h1, h2, h3, h4⟩ := hi
  have hx := hr5.2
  first
    | (have e := ris_end (R := ρ.z.rl 0) (J := ρ.i .i64 11857) (by assumption) (by assumption)
       rw [← e, ← h1] at h2
       first
         | omega
         | exact ⟨⟨h1, by simp [risL], fun h => absurd h (by omega)⟩, by omega⟩)
    | (have hb : isR (ρ.z.rl 0) (ρ.i .i64 11857).toNat = true := by
         first
           | exact is_zero (by omega) (by assumption)
           | (rw [is_of (by omega) h3]; assumption)
       obtain ⟨a, b, c⟩ := ris_step h1 h2 hx (by omega) (by omega) (by omega) hb
       first
         | omega
         | exact ⟨⟨h1, c.symm, last_yes (by omega) hb⟩, by omega⟩
         | exact ⟨⟨h1, c.symm, last_yes (by omega) hb, by omega⟩, by omega⟩
         | exact ⟨⟨h1, by simp [risL], fun h => absurd h (by omega)⟩, by omega⟩)
    | (have hb : ¬ isR (ρ.z.rl 0) (ρ.i .i64 11857).toNat = true := by rw [is_of (by omega) h3]; assumption
       have c := ris_skip (R := ρ.z.rl 0) (J := ρ.i .i64 11857) (by omega) hb
       rw [← c] at h2
       first
         | exact ⟨⟨h1, h2, last_no (by omega) hb h3⟩, by omega⟩
         | exact ⟨⟨h1, h2, last_no (by omega) hb h3, h4⟩, by omega⟩)
theorem vclaw3_9 : VC (T rise.Φ cLaw.roms [cWorks, cRefOrder, cRefLatest, cLatest, cLater]) invlaw mslaw 3 tlaw3 wlaw3_9 := by
  intro ρ kn hi hp
  have hi : (ρ.l 1004) = risL (ρ.z.rl 0) (ρ.z.rl 0).length ∧ (ρ.i .i64 11860) = ((risL (ρ.z.rl 0) (ρ.i .i64 11857).toNat).length : Int) ∧ lastP (ρ.z.rl 0) (ρ.i .i64 11857) (ρ.i .i64 11858) (ρ.i .i64 11859) ∧ ((ρ.i .i64 11860) = 0 ∨ (ρ.i .i64 11860) < (ρ.i .i64 1)) := hi
  have hr8 : Typed [(CK.int .i64), (CK.int .i64)] (ρ.z.rl 0) ∧ (((ρ.z.rl 0).length : Nat) : Int) = (((ρ.z.rl 0)).length : Int) := kn.rows 8 _ _ _ _ _ _ rfl
  have hr5 : Typed [(CK.int .i64)] (ρ.l 1004) ∧ (ρ.i .i64 1002) = (((ρ.l 1004)).length : Int) := kn.rows 5 _ _ _ _ _ _ rfl
  have hF : ρ.z.F = rise.Φ := kn.F
  simp only [h_nil, h_cons, d_le, d_eq, d_not, d_var, d_lit, d_cel, d_leq, d_fn, d_and, d_iff, IE.den, LE.den, AL.den, lenV, true_and, and_true, hF, pi1, pi2, pb1] at hp
  obtain ⟨p1, p2, p3, p4, p5, p6, p7, p8, p9, p10, p11, p12, p13, p14⟩ := hp
  refine (show ((ρ.l 1004) = risL (ρ.z.rl 0) (ρ.z.rl 0).length ∧ (0 : Int) = ((risL (ρ.z.rl 0) (0 : Int).toNat).length : Int) ∧ lastP (ρ.z.rl 0) (0 : Int) (0 : Int) (0 : Int)) ∧ ((((ρ.z.rl 0).length + 1) + ((ρ.z.rl 0).length - (0 : Int).toNat) : Nat) < 2 * ((ρ.z.rl 0).length + 1) + ((ρ.z.rl 0).length - (ρ.i .i64 11857).toNat)) from ?_)
  obtain ⟨h1, h2, h3, h4⟩ := hi
  have hx := hr5.2
  first
    | (have e := ris_end (R := ρ.z.rl 0) (J := ρ.i .i64 11857) (by assumption) (by assumption)
       rw [← e, ← h1] at h2
       first
         | omega
         | exact ⟨⟨h1, by simp [risL], fun h => absurd h (by omega)⟩, by omega⟩)
    | (have hb : isR (ρ.z.rl 0) (ρ.i .i64 11857).toNat = true := by
         first
           | exact is_zero (by omega) (by assumption)
           | (rw [is_of (by omega) h3]; assumption)
       obtain ⟨a, b, c⟩ := ris_step h1 h2 hx (by omega) (by omega) (by omega) hb
       first
         | omega
         | exact ⟨⟨h1, c.symm, last_yes (by omega) hb⟩, by omega⟩
         | exact ⟨⟨h1, c.symm, last_yes (by omega) hb, by omega⟩, by omega⟩
         | exact ⟨⟨h1, by simp [risL], fun h => absurd h (by omega)⟩, by omega⟩)
    | (have hb : ¬ isR (ρ.z.rl 0) (ρ.i .i64 11857).toNat = true := by rw [is_of (by omega) h3]; assumption
       have c := ris_skip (R := ρ.z.rl 0) (J := ρ.i .i64 11857) (by omega) hb
       rw [← c] at h2
       first
         | exact ⟨⟨h1, h2, last_no (by omega) hb h3⟩, by omega⟩
         | exact ⟨⟨h1, h2, last_no (by omega) hb h3, h4⟩, by omega⟩)
theorem vclaw3_10 : VC (T rise.Φ cLaw.roms [cWorks, cRefOrder, cRefLatest, cLatest, cLater]) invlaw mslaw 3 tlaw3 wlaw3_10 := by
  intro ρ kn hi hp
  have hi : (ρ.l 1004) = risL (ρ.z.rl 0) (ρ.z.rl 0).length ∧ (ρ.i .i64 11860) = ((risL (ρ.z.rl 0) (ρ.i .i64 11857).toNat).length : Int) ∧ lastP (ρ.z.rl 0) (ρ.i .i64 11857) (ρ.i .i64 11858) (ρ.i .i64 11859) ∧ ((ρ.i .i64 11860) = 0 ∨ (ρ.i .i64 11860) < (ρ.i .i64 1)) := hi
  have hr8 : Typed [(CK.int .i64), (CK.int .i64)] (ρ.z.rl 0) ∧ (((ρ.z.rl 0).length : Nat) : Int) = (((ρ.z.rl 0)).length : Int) := kn.rows 8 _ _ _ _ _ _ rfl
  have hr5 : Typed [(CK.int .i64)] (ρ.l 1004) ∧ (ρ.i .i64 1002) = (((ρ.l 1004)).length : Int) := kn.rows 5 _ _ _ _ _ _ rfl
  have hF : ρ.z.F = rise.Φ := kn.F
  simp only [h_nil, h_cons, d_le, d_eq, d_not, d_var, d_lit, d_cel, d_leq, d_fn, d_and, d_iff, IE.den, LE.den, AL.den, lenV, true_and, and_true, hF, pi1, pi2, pb1] at hp
  obtain ⟨p1, p2, p3, p4, p5, p6, p7, p8, p9, p10, p11, p12, p13, p14⟩ := hp
  refine (show ((ρ.l 1004) = risL (ρ.z.rl 0) (ρ.z.rl 0).length ∧ (0 : Int) = ((risL (ρ.z.rl 0) (0 : Int).toNat).length : Int) ∧ lastP (ρ.z.rl 0) (0 : Int) (0 : Int) (0 : Int)) ∧ ((((ρ.z.rl 0).length + 1) + ((ρ.z.rl 0).length - (0 : Int).toNat) : Nat) < 2 * ((ρ.z.rl 0).length + 1) + ((ρ.z.rl 0).length - (ρ.i .i64 11857).toNat)) from ?_)
  obtain ⟨h1, h2, h3, h4⟩ := hi
  have hx := hr5.2
  first
    | (have e := ris_end (R := ρ.z.rl 0) (J := ρ.i .i64 11857) (by assumption) (by assumption)
       rw [← e, ← h1] at h2
       first
         | omega
         | exact ⟨⟨h1, by simp [risL], fun h => absurd h (by omega)⟩, by omega⟩)
    | (have hb : isR (ρ.z.rl 0) (ρ.i .i64 11857).toNat = true := by
         first
           | exact is_zero (by omega) (by assumption)
           | (rw [is_of (by omega) h3]; assumption)
       obtain ⟨a, b, c⟩ := ris_step h1 h2 hx (by omega) (by omega) (by omega) hb
       first
         | omega
         | exact ⟨⟨h1, c.symm, last_yes (by omega) hb⟩, by omega⟩
         | exact ⟨⟨h1, c.symm, last_yes (by omega) hb, by omega⟩, by omega⟩
         | exact ⟨⟨h1, by simp [risL], fun h => absurd h (by omega)⟩, by omega⟩)
    | (have hb : ¬ isR (ρ.z.rl 0) (ρ.i .i64 11857).toNat = true := by rw [is_of (by omega) h3]; assumption
       have c := ris_skip (R := ρ.z.rl 0) (J := ρ.i .i64 11857) (by omega) hb
       rw [← c] at h2
       first
         | exact ⟨⟨h1, h2, last_no (by omega) hb h3⟩, by omega⟩
         | exact ⟨⟨h1, h2, last_no (by omega) hb h3, h4⟩, by omega⟩)
theorem vclaw3_11 : VC (T rise.Φ cLaw.roms [cWorks, cRefOrder, cRefLatest, cLatest, cLater]) invlaw mslaw 3 tlaw3 wlaw3_11 := by
  intro ρ kn hi hp
  have hi : (ρ.l 1004) = risL (ρ.z.rl 0) (ρ.z.rl 0).length ∧ (ρ.i .i64 11860) = ((risL (ρ.z.rl 0) (ρ.i .i64 11857).toNat).length : Int) ∧ lastP (ρ.z.rl 0) (ρ.i .i64 11857) (ρ.i .i64 11858) (ρ.i .i64 11859) ∧ ((ρ.i .i64 11860) = 0 ∨ (ρ.i .i64 11860) < (ρ.i .i64 1)) := hi
  have hr8 : Typed [(CK.int .i64), (CK.int .i64)] (ρ.z.rl 0) ∧ (((ρ.z.rl 0).length : Nat) : Int) = (((ρ.z.rl 0)).length : Int) := kn.rows 8 _ _ _ _ _ _ rfl
  have hr5 : Typed [(CK.int .i64)] (ρ.l 1004) ∧ (ρ.i .i64 1002) = (((ρ.l 1004)).length : Int) := kn.rows 5 _ _ _ _ _ _ rfl
  have hF : ρ.z.F = rise.Φ := kn.F
  simp only [h_nil, h_cons, d_le, d_eq, d_not, d_var, d_lit, d_cel, d_leq, d_fn, d_and, d_iff, IE.den, LE.den, AL.den, lenV, true_and, and_true, hF, pi1, pi2, pb1] at hp
  obtain ⟨p1, p2, p3, p4, p5, p6, p7, p8, p9, p10, p11, p12, p13, p14⟩ := hp
  refine (show ((ρ.l 1004) = risL (ρ.z.rl 0) (ρ.z.rl 0).length ∧ (0 : Int) = ((risL (ρ.z.rl 0) (0 : Int).toNat).length : Int) ∧ lastP (ρ.z.rl 0) (0 : Int) (0 : Int) (0 : Int)) ∧ ((((ρ.z.rl 0).length + 1) + ((ρ.z.rl 0).length - (0 : Int).toNat) : Nat) < 2 * ((ρ.z.rl 0).length + 1) + ((ρ.z.rl 0).length - (ρ.i .i64 11857).toNat)) from ?_)
  obtain ⟨h1, h2, h3, h4⟩ := hi
  have hx := hr5.2
  first
    | (have e := ris_end (R := ρ.z.rl 0) (J := ρ.i .i64 11857) (by assumption) (by assumption)
       rw [← e, ← h1] at h2
       first
         | omega
         | exact ⟨⟨h1, by simp [risL], fun h => absurd h (by omega)⟩, by omega⟩)
    | (have hb : isR (ρ.z.rl 0) (ρ.i .i64 11857).toNat = true := by
         first
           | exact is_zero (by omega) (by assumption)
           | (rw [is_of (by omega) h3]; assumption)
       obtain ⟨a, b, c⟩ := ris_step h1 h2 hx (by omega) (by omega) (by omega) hb
       first
         | omega
         | exact ⟨⟨h1, c.symm, last_yes (by omega) hb⟩, by omega⟩
         | exact ⟨⟨h1, c.symm, last_yes (by omega) hb, by omega⟩, by omega⟩
         | exact ⟨⟨h1, by simp [risL], fun h => absurd h (by omega)⟩, by omega⟩)
    | (have hb : ¬ isR (ρ.z.rl 0) (ρ.i .i64 11857).toNat = true := by rw [is_of (by omega) h3]; assumption
       have c := ris_skip (R := ρ.z.rl 0) (J := ρ.i .i64 11857) (by omega) hb
       rw [← c] at h2
       first
         | exact ⟨⟨h1, h2, last_no (by omega) hb h3⟩, by omega⟩
         | exact ⟨⟨h1, h2, last_no (by omega) hb h3, h4⟩, by omega⟩)
theorem vclaw3_12 : VC (T rise.Φ cLaw.roms [cWorks, cRefOrder, cRefLatest, cLatest, cLater]) invlaw mslaw 3 tlaw3 wlaw3_12 := by
  intro ρ kn hi hp
  have hi : (ρ.l 1004) = risL (ρ.z.rl 0) (ρ.z.rl 0).length ∧ (ρ.i .i64 11860) = ((risL (ρ.z.rl 0) (ρ.i .i64 11857).toNat).length : Int) ∧ lastP (ρ.z.rl 0) (ρ.i .i64 11857) (ρ.i .i64 11858) (ρ.i .i64 11859) ∧ ((ρ.i .i64 11860) = 0 ∨ (ρ.i .i64 11860) < (ρ.i .i64 1)) := hi
  have hr8 : Typed [(CK.int .i64), (CK.int .i64)] (ρ.z.rl 0) ∧ (((ρ.z.rl 0).length : Nat) : Int) = (((ρ.z.rl 0)).length : Int) := kn.rows 8 _ _ _ _ _ _ rfl
  have hr5 : Typed [(CK.int .i64)] (ρ.l 1004) ∧ (ρ.i .i64 1002) = (((ρ.l 1004)).length : Int) := kn.rows 5 _ _ _ _ _ _ rfl
  have hF : ρ.z.F = rise.Φ := kn.F
  simp only [h_nil, h_cons, d_le, d_eq, d_not, d_var, d_lit, d_cel, d_leq, d_fn, d_and, d_iff, IE.den, LE.den, AL.den, lenV, true_and, and_true, hF, pi1, pi2, pb1] at hp
  obtain ⟨p1, p2, p3, p4, p5, p6, p7, p8, p9, p10, p11, p12⟩ := hp
  refine (show ((ρ.l 1004) = risL (ρ.z.rl 0) (ρ.z.rl 0).length ∧ ((ρ.i .i64 11860) + (1 : Int)) = ((risL (ρ.z.rl 0) ((ρ.i .i64 11857) + (1 : Int)).toNat).length : Int) ∧ lastP (ρ.z.rl 0) ((ρ.i .i64 11857) + (1 : Int)) (clampK .i64 (intV (celV (ρ.z.rl 0) (ρ.i .i64 11857) 0))) (clampK .i64 (intV (celV (ρ.z.rl 0) (ρ.i .i64 11857) 1))) ∧ (((ρ.i .i64 11860) + (1 : Int)) = 0 ∨ ((ρ.i .i64 11860) + (1 : Int)) < (ρ.i .i64 1))) ∧ ((2 * ((ρ.z.rl 0).length + 1) + ((ρ.z.rl 0).length - ((ρ.i .i64 11857) + (1 : Int)).toNat) : Nat) < 2 * ((ρ.z.rl 0).length + 1) + ((ρ.z.rl 0).length - (ρ.i .i64 11857).toNat)) from ?_)
  obtain ⟨h1, h2, h3, h4⟩ := hi
  have hx := hr5.2
  first
    | (have e := ris_end (R := ρ.z.rl 0) (J := ρ.i .i64 11857) (by assumption) (by assumption)
       rw [← e, ← h1] at h2
       first
         | omega
         | exact ⟨⟨h1, by simp [risL], fun h => absurd h (by omega)⟩, by omega⟩)
    | (have hb : isR (ρ.z.rl 0) (ρ.i .i64 11857).toNat = true := by
         first
           | exact is_zero (by omega) (by assumption)
           | (rw [is_of (by omega) h3]; assumption)
       obtain ⟨a, b, c⟩ := ris_step h1 h2 hx (by omega) (by omega) (by omega) hb
       first
         | omega
         | exact ⟨⟨h1, c.symm, last_yes (by omega) hb⟩, by omega⟩
         | exact ⟨⟨h1, c.symm, last_yes (by omega) hb, by omega⟩, by omega⟩
         | exact ⟨⟨h1, by simp [risL], fun h => absurd h (by omega)⟩, by omega⟩)
    | (have hb : ¬ isR (ρ.z.rl 0) (ρ.i .i64 11857).toNat = true := by rw [is_of (by omega) h3]; assumption
       have c := ris_skip (R := ρ.z.rl 0) (J := ρ.i .i64 11857) (by omega) hb
       rw [← c] at h2
       first
         | exact ⟨⟨h1, h2, last_no (by omega) hb h3⟩, by omega⟩
         | exact ⟨⟨h1, h2, last_no (by omega) hb h3, h4⟩, by omega⟩)
theorem vclaw3_13 : VC (T rise.Φ cLaw.roms [cWorks, cRefOrder, cRefLatest, cLatest, cLater]) invlaw mslaw 3 tlaw3 wlaw3_13 := by
  intro ρ kn hi hp
  have hi : (ρ.l 1004) = risL (ρ.z.rl 0) (ρ.z.rl 0).length ∧ (ρ.i .i64 11860) = ((risL (ρ.z.rl 0) (ρ.i .i64 11857).toNat).length : Int) ∧ lastP (ρ.z.rl 0) (ρ.i .i64 11857) (ρ.i .i64 11858) (ρ.i .i64 11859) ∧ ((ρ.i .i64 11860) = 0 ∨ (ρ.i .i64 11860) < (ρ.i .i64 1)) := hi
  have hr8 : Typed [(CK.int .i64), (CK.int .i64)] (ρ.z.rl 0) ∧ (((ρ.z.rl 0).length : Nat) : Int) = (((ρ.z.rl 0)).length : Int) := kn.rows 8 _ _ _ _ _ _ rfl
  have hr5 : Typed [(CK.int .i64)] (ρ.l 1004) ∧ (ρ.i .i64 1002) = (((ρ.l 1004)).length : Int) := kn.rows 5 _ _ _ _ _ _ rfl
  have hF : ρ.z.F = rise.Φ := kn.F
  simp only [h_nil, h_cons, d_le, d_eq, d_not, d_var, d_lit, d_cel, d_leq, d_fn, d_and, d_iff, IE.den, LE.den, AL.den, lenV, true_and, and_true, hF, pi1, pi2, pb1] at hp
  obtain ⟨p1, p2, p3, p4, p5, p6, p7, p8, p9, p10, p11⟩ := hp
  exfalso
  obtain ⟨h1, h2, h3, h4⟩ := hi
  have hx := hr5.2
  first
    | (have e := ris_end (R := ρ.z.rl 0) (J := ρ.i .i64 11857) (by assumption) (by assumption)
       rw [← e, ← h1] at h2
       first
         | omega
         | exact ⟨⟨h1, by simp [risL], fun h => absurd h (by omega)⟩, by omega⟩)
    | (have hb : isR (ρ.z.rl 0) (ρ.i .i64 11857).toNat = true := by
         first
           | exact is_zero (by omega) (by assumption)
           | (rw [is_of (by omega) h3]; assumption)
       obtain ⟨a, b, c⟩ := ris_step h1 h2 hx (by omega) (by omega) (by omega) hb
       first
         | omega
         | exact ⟨⟨h1, c.symm, last_yes (by omega) hb⟩, by omega⟩
         | exact ⟨⟨h1, c.symm, last_yes (by omega) hb, by omega⟩, by omega⟩
         | exact ⟨⟨h1, by simp [risL], fun h => absurd h (by omega)⟩, by omega⟩)
    | (have hb : ¬ isR (ρ.z.rl 0) (ρ.i .i64 11857).toNat = true := by rw [is_of (by omega) h3]; assumption
       have c := ris_skip (R := ρ.z.rl 0) (J := ρ.i .i64 11857) (by omega) hb
       rw [← c] at h2
       first
         | exact ⟨⟨h1, h2, last_no (by omega) hb h3⟩, by omega⟩
         | exact ⟨⟨h1, h2, last_no (by omega) hb h3, h4⟩, by omega⟩)
theorem vclaw3_14 : VC (T rise.Φ cLaw.roms [cWorks, cRefOrder, cRefLatest, cLatest, cLater]) invlaw mslaw 3 tlaw3 wlaw3_14 := by
  intro ρ kn hi hp
  have hi : (ρ.l 1004) = risL (ρ.z.rl 0) (ρ.z.rl 0).length ∧ (ρ.i .i64 11860) = ((risL (ρ.z.rl 0) (ρ.i .i64 11857).toNat).length : Int) ∧ lastP (ρ.z.rl 0) (ρ.i .i64 11857) (ρ.i .i64 11858) (ρ.i .i64 11859) ∧ ((ρ.i .i64 11860) = 0 ∨ (ρ.i .i64 11860) < (ρ.i .i64 1)) := hi
  have hr8 : Typed [(CK.int .i64), (CK.int .i64)] (ρ.z.rl 0) ∧ (((ρ.z.rl 0).length : Nat) : Int) = (((ρ.z.rl 0)).length : Int) := kn.rows 8 _ _ _ _ _ _ rfl
  have hr5 : Typed [(CK.int .i64)] (ρ.l 1004) ∧ (ρ.i .i64 1002) = (((ρ.l 1004)).length : Int) := kn.rows 5 _ _ _ _ _ _ rfl
  have hF : ρ.z.F = rise.Φ := kn.F
  simp only [h_nil, h_cons, d_le, d_eq, d_not, d_var, d_lit, d_cel, d_leq, d_fn, d_and, d_iff, IE.den, LE.den, AL.den, lenV, true_and, and_true, hF, pi1, pi2, pb1] at hp
  obtain ⟨p1, p2, p3, p4, p5, p6, p7, p8, p9, p10, p11, p12⟩ := hp
  exfalso
  obtain ⟨h1, h2, h3, h4⟩ := hi
  have hx := hr5.2
  first
    | (have e := ris_end (R := ρ.z.rl 0) (J := ρ.i .i64 11857) (by assumption) (by assumption)
       rw [← e, ← h1] at h2
       first
         | omega
         | exact ⟨⟨h1, by simp [risL], fun h => absurd h (by omega)⟩, by omega⟩)
    | (have hb : isR (ρ.z.rl 0) (ρ.i .i64 11857).toNat = true := by
         first
           | exact is_zero (by omega) (by assumption)
           | (rw [is_of (by omega) h3]; assumption)
       obtain ⟨a, b, c⟩ := ris_step h1 h2 hx (by omega) (by omega) (by omega) hb
       first
         | omega
         | exact ⟨⟨h1, c.symm, last_yes (by omega) hb⟩, by omega⟩
         | exact ⟨⟨h1, c.symm, last_yes (by omega) hb, by omega⟩, by omega⟩
         | exact ⟨⟨h1, by simp [risL], fun h => absurd h (by omega)⟩, by omega⟩)
    | (have hb : ¬ isR (ρ.z.rl 0) (ρ.i .i64 11857).toNat = true := by rw [is_of (by omega) h3]; assumption
       have c := ris_skip (R := ρ.z.rl 0) (J := ρ.i .i64 11857) (by omega) hb
       rw [← c] at h2
       first
         | exact ⟨⟨h1, h2, last_no (by omega) hb h3⟩, by omega⟩
         | exact ⟨⟨h1, h2, last_no (by omega) hb h3, h4⟩, by omega⟩)
theorem vclaw3_15 : VC (T rise.Φ cLaw.roms [cWorks, cRefOrder, cRefLatest, cLatest, cLater]) invlaw mslaw 3 tlaw3 wlaw3_15 := by
  intro ρ kn hi hp
  have hi : (ρ.l 1004) = risL (ρ.z.rl 0) (ρ.z.rl 0).length ∧ (ρ.i .i64 11860) = ((risL (ρ.z.rl 0) (ρ.i .i64 11857).toNat).length : Int) ∧ lastP (ρ.z.rl 0) (ρ.i .i64 11857) (ρ.i .i64 11858) (ρ.i .i64 11859) ∧ ((ρ.i .i64 11860) = 0 ∨ (ρ.i .i64 11860) < (ρ.i .i64 1)) := hi
  have hr8 : Typed [(CK.int .i64), (CK.int .i64)] (ρ.z.rl 0) ∧ (((ρ.z.rl 0).length : Nat) : Int) = (((ρ.z.rl 0)).length : Int) := kn.rows 8 _ _ _ _ _ _ rfl
  have hr5 : Typed [(CK.int .i64)] (ρ.l 1004) ∧ (ρ.i .i64 1002) = (((ρ.l 1004)).length : Int) := kn.rows 5 _ _ _ _ _ _ rfl
  have hF : ρ.z.F = rise.Φ := kn.F
  simp only [h_nil, h_cons, d_le, d_eq, d_not, d_var, d_lit, d_cel, d_leq, d_fn, d_and, d_iff, IE.den, LE.den, AL.den, lenV, true_and, and_true, hF, pi1, pi2, pb1] at hp
  obtain ⟨p1, p2, p3, p4, p5, p6, p7, p8, p9, p10, p11, p12, p13, p14, p15, p16⟩ := hp
  refine (show ((ρ.l 1004) = risL (ρ.z.rl 0) (ρ.z.rl 0).length ∧ (0 : Int) = ((risL (ρ.z.rl 0) (0 : Int).toNat).length : Int) ∧ lastP (ρ.z.rl 0) (0 : Int) (0 : Int) (0 : Int)) ∧ ((((ρ.z.rl 0).length + 1) + ((ρ.z.rl 0).length - (0 : Int).toNat) : Nat) < 2 * ((ρ.z.rl 0).length + 1) + ((ρ.z.rl 0).length - (ρ.i .i64 11857).toNat)) from ?_)
  obtain ⟨h1, h2, h3, h4⟩ := hi
  have hx := hr5.2
  first
    | (have e := ris_end (R := ρ.z.rl 0) (J := ρ.i .i64 11857) (by assumption) (by assumption)
       rw [← e, ← h1] at h2
       first
         | omega
         | exact ⟨⟨h1, by simp [risL], fun h => absurd h (by omega)⟩, by omega⟩)
    | (have hb : isR (ρ.z.rl 0) (ρ.i .i64 11857).toNat = true := by
         first
           | exact is_zero (by omega) (by assumption)
           | (rw [is_of (by omega) h3]; assumption)
       obtain ⟨a, b, c⟩ := ris_step h1 h2 hx (by omega) (by omega) (by omega) hb
       first
         | omega
         | exact ⟨⟨h1, c.symm, last_yes (by omega) hb⟩, by omega⟩
         | exact ⟨⟨h1, c.symm, last_yes (by omega) hb, by omega⟩, by omega⟩
         | exact ⟨⟨h1, by simp [risL], fun h => absurd h (by omega)⟩, by omega⟩)
    | (have hb : ¬ isR (ρ.z.rl 0) (ρ.i .i64 11857).toNat = true := by rw [is_of (by omega) h3]; assumption
       have c := ris_skip (R := ρ.z.rl 0) (J := ρ.i .i64 11857) (by omega) hb
       rw [← c] at h2
       first
         | exact ⟨⟨h1, h2, last_no (by omega) hb h3⟩, by omega⟩
         | exact ⟨⟨h1, h2, last_no (by omega) hb h3, h4⟩, by omega⟩)
theorem vclaw3_16 : VC (T rise.Φ cLaw.roms [cWorks, cRefOrder, cRefLatest, cLatest, cLater]) invlaw mslaw 3 tlaw3 wlaw3_16 := by
  intro ρ kn hi hp
  have hi : (ρ.l 1004) = risL (ρ.z.rl 0) (ρ.z.rl 0).length ∧ (ρ.i .i64 11860) = ((risL (ρ.z.rl 0) (ρ.i .i64 11857).toNat).length : Int) ∧ lastP (ρ.z.rl 0) (ρ.i .i64 11857) (ρ.i .i64 11858) (ρ.i .i64 11859) ∧ ((ρ.i .i64 11860) = 0 ∨ (ρ.i .i64 11860) < (ρ.i .i64 1)) := hi
  have hr8 : Typed [(CK.int .i64), (CK.int .i64)] (ρ.z.rl 0) ∧ (((ρ.z.rl 0).length : Nat) : Int) = (((ρ.z.rl 0)).length : Int) := kn.rows 8 _ _ _ _ _ _ rfl
  have hr5 : Typed [(CK.int .i64)] (ρ.l 1004) ∧ (ρ.i .i64 1002) = (((ρ.l 1004)).length : Int) := kn.rows 5 _ _ _ _ _ _ rfl
  have hF : ρ.z.F = rise.Φ := kn.F
  simp only [h_nil, h_cons, d_le, d_eq, d_not, d_var, d_lit, d_cel, d_leq, d_fn, d_and, d_iff, IE.den, LE.den, AL.den, lenV, true_and, and_true, hF, pi1, pi2, pb1] at hp
  obtain ⟨p1, p2, p3, p4, p5, p6, p7, p8, p9, p10, p11, p12, p13, p14, p15, p16, p17⟩ := hp
  refine (show ((ρ.l 1004) = risL (ρ.z.rl 0) (ρ.z.rl 0).length ∧ (0 : Int) = ((risL (ρ.z.rl 0) (0 : Int).toNat).length : Int) ∧ lastP (ρ.z.rl 0) (0 : Int) (0 : Int) (0 : Int)) ∧ ((((ρ.z.rl 0).length + 1) + ((ρ.z.rl 0).length - (0 : Int).toNat) : Nat) < 2 * ((ρ.z.rl 0).length + 1) + ((ρ.z.rl 0).length - (ρ.i .i64 11857).toNat)) from ?_)
  obtain ⟨h1, h2, h3, h4⟩ := hi
  have hx := hr5.2
  first
    | (have e := ris_end (R := ρ.z.rl 0) (J := ρ.i .i64 11857) (by assumption) (by assumption)
       rw [← e, ← h1] at h2
       first
         | omega
         | exact ⟨⟨h1, by simp [risL], fun h => absurd h (by omega)⟩, by omega⟩)
    | (have hb : isR (ρ.z.rl 0) (ρ.i .i64 11857).toNat = true := by
         first
           | exact is_zero (by omega) (by assumption)
           | (rw [is_of (by omega) h3]; assumption)
       obtain ⟨a, b, c⟩ := ris_step h1 h2 hx (by omega) (by omega) (by omega) hb
       first
         | omega
         | exact ⟨⟨h1, c.symm, last_yes (by omega) hb⟩, by omega⟩
         | exact ⟨⟨h1, c.symm, last_yes (by omega) hb, by omega⟩, by omega⟩
         | exact ⟨⟨h1, by simp [risL], fun h => absurd h (by omega)⟩, by omega⟩)
    | (have hb : ¬ isR (ρ.z.rl 0) (ρ.i .i64 11857).toNat = true := by rw [is_of (by omega) h3]; assumption
       have c := ris_skip (R := ρ.z.rl 0) (J := ρ.i .i64 11857) (by omega) hb
       rw [← c] at h2
       first
         | exact ⟨⟨h1, h2, last_no (by omega) hb h3⟩, by omega⟩
         | exact ⟨⟨h1, h2, last_no (by omega) hb h3, h4⟩, by omega⟩)
theorem vclaw3_17 : VC (T rise.Φ cLaw.roms [cWorks, cRefOrder, cRefLatest, cLatest, cLater]) invlaw mslaw 3 tlaw3 wlaw3_17 := by
  intro ρ kn hi hp
  have hi : (ρ.l 1004) = risL (ρ.z.rl 0) (ρ.z.rl 0).length ∧ (ρ.i .i64 11860) = ((risL (ρ.z.rl 0) (ρ.i .i64 11857).toNat).length : Int) ∧ lastP (ρ.z.rl 0) (ρ.i .i64 11857) (ρ.i .i64 11858) (ρ.i .i64 11859) ∧ ((ρ.i .i64 11860) = 0 ∨ (ρ.i .i64 11860) < (ρ.i .i64 1)) := hi
  have hr8 : Typed [(CK.int .i64), (CK.int .i64)] (ρ.z.rl 0) ∧ (((ρ.z.rl 0).length : Nat) : Int) = (((ρ.z.rl 0)).length : Int) := kn.rows 8 _ _ _ _ _ _ rfl
  have hr5 : Typed [(CK.int .i64)] (ρ.l 1004) ∧ (ρ.i .i64 1002) = (((ρ.l 1004)).length : Int) := kn.rows 5 _ _ _ _ _ _ rfl
  have hF : ρ.z.F = rise.Φ := kn.F
  simp only [h_nil, h_cons, d_le, d_eq, d_not, d_var, d_lit, d_cel, d_leq, d_fn, d_and, d_iff, IE.den, LE.den, AL.den, lenV, true_and, and_true, hF, pi1, pi2, pb1] at hp
  obtain ⟨p1, p2, p3, p4, p5, p6, p7, p8, p9, p10, p11, p12, p13, p14, p15, p16, p17⟩ := hp
  exfalso
  obtain ⟨h1, h2, h3, h4⟩ := hi
  have hx := hr5.2
  first
    | (have e := ris_end (R := ρ.z.rl 0) (J := ρ.i .i64 11857) (by assumption) (by assumption)
       rw [← e, ← h1] at h2
       first
         | omega
         | exact ⟨⟨h1, by simp [risL], fun h => absurd h (by omega)⟩, by omega⟩)
    | (have hb : isR (ρ.z.rl 0) (ρ.i .i64 11857).toNat = true := by
         first
           | exact is_zero (by omega) (by assumption)
           | (rw [is_of (by omega) h3]; assumption)
       obtain ⟨a, b, c⟩ := ris_step h1 h2 hx (by omega) (by omega) (by omega) hb
       first
         | omega
         | exact ⟨⟨h1, c.symm, last_yes (by omega) hb⟩, by omega⟩
         | exact ⟨⟨h1, c.symm, last_yes (by omega) hb, by omega⟩, by omega⟩
         | exact ⟨⟨h1, by simp [risL], fun h => absurd h (by omega)⟩, by omega⟩)
    | (have hb : ¬ isR (ρ.z.rl 0) (ρ.i .i64 11857).toNat = true := by rw [is_of (by omega) h3]; assumption
       have c := ris_skip (R := ρ.z.rl 0) (J := ρ.i .i64 11857) (by omega) hb
       rw [← c] at h2
       first
         | exact ⟨⟨h1, h2, last_no (by omega) hb h3⟩, by omega⟩
         | exact ⟨⟨h1, h2, last_no (by omega) hb h3, h4⟩, by omega⟩)
theorem vclaw3_18 : VC (T rise.Φ cLaw.roms [cWorks, cRefOrder, cRefLatest, cLatest, cLater]) invlaw mslaw 3 tlaw3 wlaw3_18 := by
  intro ρ kn hi hp
  have hi : (ρ.l 1004) = risL (ρ.z.rl 0) (ρ.z.rl 0).length ∧ (ρ.i .i64 11860) = ((risL (ρ.z.rl 0) (ρ.i .i64 11857).toNat).length : Int) ∧ lastP (ρ.z.rl 0) (ρ.i .i64 11857) (ρ.i .i64 11858) (ρ.i .i64 11859) ∧ ((ρ.i .i64 11860) = 0 ∨ (ρ.i .i64 11860) < (ρ.i .i64 1)) := hi
  have hr8 : Typed [(CK.int .i64), (CK.int .i64)] (ρ.z.rl 0) ∧ (((ρ.z.rl 0).length : Nat) : Int) = (((ρ.z.rl 0)).length : Int) := kn.rows 8 _ _ _ _ _ _ rfl
  have hr5 : Typed [(CK.int .i64)] (ρ.l 1004) ∧ (ρ.i .i64 1002) = (((ρ.l 1004)).length : Int) := kn.rows 5 _ _ _ _ _ _ rfl
  have hF : ρ.z.F = rise.Φ := kn.F
  simp only [h_nil, h_cons, d_le, d_eq, d_not, d_var, d_lit, d_cel, d_leq, d_fn, d_and, d_iff, IE.den, LE.den, AL.den, lenV, true_and, and_true, hF, pi1, pi2, pb1] at hp
  obtain ⟨p1, p2, p3, p4, p5, p6, p7, p8, p9, p10, p11, p12, p13, p14, p15, p16⟩ := hp
  refine (show ((ρ.l 1004) = risL (ρ.z.rl 0) (ρ.z.rl 0).length ∧ (0 : Int) = ((risL (ρ.z.rl 0) (0 : Int).toNat).length : Int) ∧ lastP (ρ.z.rl 0) (0 : Int) (0 : Int) (0 : Int)) ∧ ((((ρ.z.rl 0).length + 1) + ((ρ.z.rl 0).length - (0 : Int).toNat) : Nat) < 2 * ((ρ.z.rl 0).length + 1) + ((ρ.z.rl 0).length - (ρ.i .i64 11857).toNat)) from ?_)
  obtain ⟨h1, h2, h3, h4⟩ := hi
  have hx := hr5.2
  first
    | (have e := ris_end (R := ρ.z.rl 0) (J := ρ.i .i64 11857) (by assumption) (by assumption)
       rw [← e, ← h1] at h2
       first
         | omega
         | exact ⟨⟨h1, by simp [risL], fun h => absurd h (by omega)⟩, by omega⟩)
    | (have hb : isR (ρ.z.rl 0) (ρ.i .i64 11857).toNat = true := by
         first
           | exact is_zero (by omega) (by assumption)
           | (rw [is_of (by omega) h3]; assumption)
       obtain ⟨a, b, c⟩ := ris_step h1 h2 hx (by omega) (by omega) (by omega) hb
       first
         | omega
         | exact ⟨⟨h1, c.symm, last_yes (by omega) hb⟩, by omega⟩
         | exact ⟨⟨h1, c.symm, last_yes (by omega) hb, by omega⟩, by omega⟩
         | exact ⟨⟨h1, by simp [risL], fun h => absurd h (by omega)⟩, by omega⟩)
    | (have hb : ¬ isR (ρ.z.rl 0) (ρ.i .i64 11857).toNat = true := by rw [is_of (by omega) h3]; assumption
       have c := ris_skip (R := ρ.z.rl 0) (J := ρ.i .i64 11857) (by omega) hb
       rw [← c] at h2
       first
         | exact ⟨⟨h1, h2, last_no (by omega) hb h3⟩, by omega⟩
         | exact ⟨⟨h1, h2, last_no (by omega) hb h3, h4⟩, by omega⟩)
theorem vclaw3_19 : VC (T rise.Φ cLaw.roms [cWorks, cRefOrder, cRefLatest, cLatest, cLater]) invlaw mslaw 3 tlaw3 wlaw3_19 := by
  intro ρ kn hi hp
  have hi : (ρ.l 1004) = risL (ρ.z.rl 0) (ρ.z.rl 0).length ∧ (ρ.i .i64 11860) = ((risL (ρ.z.rl 0) (ρ.i .i64 11857).toNat).length : Int) ∧ lastP (ρ.z.rl 0) (ρ.i .i64 11857) (ρ.i .i64 11858) (ρ.i .i64 11859) ∧ ((ρ.i .i64 11860) = 0 ∨ (ρ.i .i64 11860) < (ρ.i .i64 1)) := hi
  have hr8 : Typed [(CK.int .i64), (CK.int .i64)] (ρ.z.rl 0) ∧ (((ρ.z.rl 0).length : Nat) : Int) = (((ρ.z.rl 0)).length : Int) := kn.rows 8 _ _ _ _ _ _ rfl
  have hr5 : Typed [(CK.int .i64)] (ρ.l 1004) ∧ (ρ.i .i64 1002) = (((ρ.l 1004)).length : Int) := kn.rows 5 _ _ _ _ _ _ rfl
  have hF : ρ.z.F = rise.Φ := kn.F
  simp only [h_nil, h_cons, d_le, d_eq, d_not, d_var, d_lit, d_cel, d_leq, d_fn, d_and, d_iff, IE.den, LE.den, AL.den, lenV, true_and, and_true, hF, pi1, pi2, pb1] at hp
  obtain ⟨p1, p2, p3, p4, p5, p6, p7, p8, p9, p10, p11, p12, p13, p14, p15, p16, p17⟩ := hp
  refine (show ((ρ.l 1004) = risL (ρ.z.rl 0) (ρ.z.rl 0).length ∧ (0 : Int) = ((risL (ρ.z.rl 0) (0 : Int).toNat).length : Int) ∧ lastP (ρ.z.rl 0) (0 : Int) (0 : Int) (0 : Int)) ∧ ((((ρ.z.rl 0).length + 1) + ((ρ.z.rl 0).length - (0 : Int).toNat) : Nat) < 2 * ((ρ.z.rl 0).length + 1) + ((ρ.z.rl 0).length - (ρ.i .i64 11857).toNat)) from ?_)
  obtain ⟨h1, h2, h3, h4⟩ := hi
  have hx := hr5.2
  first
    | (have e := ris_end (R := ρ.z.rl 0) (J := ρ.i .i64 11857) (by assumption) (by assumption)
       rw [← e, ← h1] at h2
       first
         | omega
         | exact ⟨⟨h1, by simp [risL], fun h => absurd h (by omega)⟩, by omega⟩)
    | (have hb : isR (ρ.z.rl 0) (ρ.i .i64 11857).toNat = true := by
         first
           | exact is_zero (by omega) (by assumption)
           | (rw [is_of (by omega) h3]; assumption)
       obtain ⟨a, b, c⟩ := ris_step h1 h2 hx (by omega) (by omega) (by omega) hb
       first
         | omega
         | exact ⟨⟨h1, c.symm, last_yes (by omega) hb⟩, by omega⟩
         | exact ⟨⟨h1, c.symm, last_yes (by omega) hb, by omega⟩, by omega⟩
         | exact ⟨⟨h1, by simp [risL], fun h => absurd h (by omega)⟩, by omega⟩)
    | (have hb : ¬ isR (ρ.z.rl 0) (ρ.i .i64 11857).toNat = true := by rw [is_of (by omega) h3]; assumption
       have c := ris_skip (R := ρ.z.rl 0) (J := ρ.i .i64 11857) (by omega) hb
       rw [← c] at h2
       first
         | exact ⟨⟨h1, h2, last_no (by omega) hb h3⟩, by omega⟩
         | exact ⟨⟨h1, h2, last_no (by omega) hb h3, h4⟩, by omega⟩)
theorem vclaw3_20 : VC (T rise.Φ cLaw.roms [cWorks, cRefOrder, cRefLatest, cLatest, cLater]) invlaw mslaw 3 tlaw3 wlaw3_20 := by
  intro ρ kn hi hp
  have hi : (ρ.l 1004) = risL (ρ.z.rl 0) (ρ.z.rl 0).length ∧ (ρ.i .i64 11860) = ((risL (ρ.z.rl 0) (ρ.i .i64 11857).toNat).length : Int) ∧ lastP (ρ.z.rl 0) (ρ.i .i64 11857) (ρ.i .i64 11858) (ρ.i .i64 11859) ∧ ((ρ.i .i64 11860) = 0 ∨ (ρ.i .i64 11860) < (ρ.i .i64 1)) := hi
  have hr8 : Typed [(CK.int .i64), (CK.int .i64)] (ρ.z.rl 0) ∧ (((ρ.z.rl 0).length : Nat) : Int) = (((ρ.z.rl 0)).length : Int) := kn.rows 8 _ _ _ _ _ _ rfl
  have hr5 : Typed [(CK.int .i64)] (ρ.l 1004) ∧ (ρ.i .i64 1002) = (((ρ.l 1004)).length : Int) := kn.rows 5 _ _ _ _ _ _ rfl
  have hF : ρ.z.F = rise.Φ := kn.F
  simp only [h_nil, h_cons, d_le, d_eq, d_not, d_var, d_lit, d_cel, d_leq, d_fn, d_and, d_iff, IE.den, LE.den, AL.den, lenV, true_and, and_true, hF, pi1, pi2, pb1] at hp
  obtain ⟨p1, p2, p3, p4, p5, p6, p7, p8, p9, p10, p11, p12, p13, p14, p15, p16, p17⟩ := hp
  exfalso
  obtain ⟨h1, h2, h3, h4⟩ := hi
  have hx := hr5.2
  first
    | (have e := ris_end (R := ρ.z.rl 0) (J := ρ.i .i64 11857) (by assumption) (by assumption)
       rw [← e, ← h1] at h2
       first
         | omega
         | exact ⟨⟨h1, by simp [risL], fun h => absurd h (by omega)⟩, by omega⟩)
    | (have hb : isR (ρ.z.rl 0) (ρ.i .i64 11857).toNat = true := by
         first
           | exact is_zero (by omega) (by assumption)
           | (rw [is_of (by omega) h3]; assumption)
       obtain ⟨a, b, c⟩ := ris_step h1 h2 hx (by omega) (by omega) (by omega) hb
       first
         | omega
         | exact ⟨⟨h1, c.symm, last_yes (by omega) hb⟩, by omega⟩
         | exact ⟨⟨h1, c.symm, last_yes (by omega) hb, by omega⟩, by omega⟩
         | exact ⟨⟨h1, by simp [risL], fun h => absurd h (by omega)⟩, by omega⟩)
    | (have hb : ¬ isR (ρ.z.rl 0) (ρ.i .i64 11857).toNat = true := by rw [is_of (by omega) h3]; assumption
       have c := ris_skip (R := ρ.z.rl 0) (J := ρ.i .i64 11857) (by omega) hb
       rw [← c] at h2
       first
         | exact ⟨⟨h1, h2, last_no (by omega) hb h3⟩, by omega⟩
         | exact ⟨⟨h1, h2, last_no (by omega) hb h3, h4⟩, by omega⟩)
theorem vclaw3_21 : VC (T rise.Φ cLaw.roms [cWorks, cRefOrder, cRefLatest, cLatest, cLater]) invlaw mslaw 3 tlaw3 wlaw3_21 := by
  intro ρ kn hi hp
  have hi : (ρ.l 1004) = risL (ρ.z.rl 0) (ρ.z.rl 0).length ∧ (ρ.i .i64 11860) = ((risL (ρ.z.rl 0) (ρ.i .i64 11857).toNat).length : Int) ∧ lastP (ρ.z.rl 0) (ρ.i .i64 11857) (ρ.i .i64 11858) (ρ.i .i64 11859) ∧ ((ρ.i .i64 11860) = 0 ∨ (ρ.i .i64 11860) < (ρ.i .i64 1)) := hi
  have hr8 : Typed [(CK.int .i64), (CK.int .i64)] (ρ.z.rl 0) ∧ (((ρ.z.rl 0).length : Nat) : Int) = (((ρ.z.rl 0)).length : Int) := kn.rows 8 _ _ _ _ _ _ rfl
  have hr5 : Typed [(CK.int .i64)] (ρ.l 1004) ∧ (ρ.i .i64 1002) = (((ρ.l 1004)).length : Int) := kn.rows 5 _ _ _ _ _ _ rfl
  have hF : ρ.z.F = rise.Φ := kn.F
  simp only [h_nil, h_cons, d_le, d_eq, d_not, d_var, d_lit, d_cel, d_leq, d_fn, d_and, d_iff, IE.den, LE.den, AL.den, lenV, true_and, and_true, hF, pi1, pi2, pb1] at hp
  obtain ⟨p1, p2, p3, p4, p5, p6, p7, p8, p9, p10, p11, p12, p13, p14⟩ := hp
  refine (show ((ρ.l 1004) = risL (ρ.z.rl 0) (ρ.z.rl 0).length ∧ ((ρ.i .i64 11860) + (1 : Int)) = ((risL (ρ.z.rl 0) ((ρ.i .i64 11857) + (1 : Int)).toNat).length : Int) ∧ lastP (ρ.z.rl 0) ((ρ.i .i64 11857) + (1 : Int)) (clampK .i64 (intV (celV (ρ.z.rl 0) (ρ.i .i64 11857) 0))) (clampK .i64 (intV (celV (ρ.z.rl 0) (ρ.i .i64 11857) 1))) ∧ (((ρ.i .i64 11860) + (1 : Int)) = 0 ∨ ((ρ.i .i64 11860) + (1 : Int)) < (ρ.i .i64 1))) ∧ ((2 * ((ρ.z.rl 0).length + 1) + ((ρ.z.rl 0).length - ((ρ.i .i64 11857) + (1 : Int)).toNat) : Nat) < 2 * ((ρ.z.rl 0).length + 1) + ((ρ.z.rl 0).length - (ρ.i .i64 11857).toNat)) from ?_)
  obtain ⟨h1, h2, h3, h4⟩ := hi
  have hx := hr5.2
  first
    | (have e := ris_end (R := ρ.z.rl 0) (J := ρ.i .i64 11857) (by assumption) (by assumption)
       rw [← e, ← h1] at h2
       first
         | omega
         | exact ⟨⟨h1, by simp [risL], fun h => absurd h (by omega)⟩, by omega⟩)
    | (have hb : isR (ρ.z.rl 0) (ρ.i .i64 11857).toNat = true := by
         first
           | exact is_zero (by omega) (by assumption)
           | (rw [is_of (by omega) h3]; assumption)
       obtain ⟨a, b, c⟩ := ris_step h1 h2 hx (by omega) (by omega) (by omega) hb
       first
         | omega
         | exact ⟨⟨h1, c.symm, last_yes (by omega) hb⟩, by omega⟩
         | exact ⟨⟨h1, c.symm, last_yes (by omega) hb, by omega⟩, by omega⟩
         | exact ⟨⟨h1, by simp [risL], fun h => absurd h (by omega)⟩, by omega⟩)
    | (have hb : ¬ isR (ρ.z.rl 0) (ρ.i .i64 11857).toNat = true := by rw [is_of (by omega) h3]; assumption
       have c := ris_skip (R := ρ.z.rl 0) (J := ρ.i .i64 11857) (by omega) hb
       rw [← c] at h2
       first
         | exact ⟨⟨h1, h2, last_no (by omega) hb h3⟩, by omega⟩
         | exact ⟨⟨h1, h2, last_no (by omega) hb h3, h4⟩, by omega⟩)
theorem vclaw3_22 : VC (T rise.Φ cLaw.roms [cWorks, cRefOrder, cRefLatest, cLatest, cLater]) invlaw mslaw 3 tlaw3 wlaw3_22 := by
  intro ρ kn hi hp
  have hi : (ρ.l 1004) = risL (ρ.z.rl 0) (ρ.z.rl 0).length ∧ (ρ.i .i64 11860) = ((risL (ρ.z.rl 0) (ρ.i .i64 11857).toNat).length : Int) ∧ lastP (ρ.z.rl 0) (ρ.i .i64 11857) (ρ.i .i64 11858) (ρ.i .i64 11859) ∧ ((ρ.i .i64 11860) = 0 ∨ (ρ.i .i64 11860) < (ρ.i .i64 1)) := hi
  have hr8 : Typed [(CK.int .i64), (CK.int .i64)] (ρ.z.rl 0) ∧ (((ρ.z.rl 0).length : Nat) : Int) = (((ρ.z.rl 0)).length : Int) := kn.rows 8 _ _ _ _ _ _ rfl
  have hr5 : Typed [(CK.int .i64)] (ρ.l 1004) ∧ (ρ.i .i64 1002) = (((ρ.l 1004)).length : Int) := kn.rows 5 _ _ _ _ _ _ rfl
  have hF : ρ.z.F = rise.Φ := kn.F
  simp only [h_nil, h_cons, d_le, d_eq, d_not, d_var, d_lit, d_cel, d_leq, d_fn, d_and, d_iff, IE.den, LE.den, AL.den, lenV, true_and, and_true, hF, pi1, pi2, pb1] at hp
  obtain ⟨p1, p2, p3, p4, p5, p6, p7, p8, p9, p10, p11, p12, p13⟩ := hp
  exfalso
  obtain ⟨h1, h2, h3, h4⟩ := hi
  have hx := hr5.2
  first
    | (have e := ris_end (R := ρ.z.rl 0) (J := ρ.i .i64 11857) (by assumption) (by assumption)
       rw [← e, ← h1] at h2
       first
         | omega
         | exact ⟨⟨h1, by simp [risL], fun h => absurd h (by omega)⟩, by omega⟩)
    | (have hb : isR (ρ.z.rl 0) (ρ.i .i64 11857).toNat = true := by
         first
           | exact is_zero (by omega) (by assumption)
           | (rw [is_of (by omega) h3]; assumption)
       obtain ⟨a, b, c⟩ := ris_step h1 h2 hx (by omega) (by omega) (by omega) hb
       first
         | omega
         | exact ⟨⟨h1, c.symm, last_yes (by omega) hb⟩, by omega⟩
         | exact ⟨⟨h1, c.symm, last_yes (by omega) hb, by omega⟩, by omega⟩
         | exact ⟨⟨h1, by simp [risL], fun h => absurd h (by omega)⟩, by omega⟩)
    | (have hb : ¬ isR (ρ.z.rl 0) (ρ.i .i64 11857).toNat = true := by rw [is_of (by omega) h3]; assumption
       have c := ris_skip (R := ρ.z.rl 0) (J := ρ.i .i64 11857) (by omega) hb
       rw [← c] at h2
       first
         | exact ⟨⟨h1, h2, last_no (by omega) hb h3⟩, by omega⟩
         | exact ⟨⟨h1, h2, last_no (by omega) hb h3, h4⟩, by omega⟩)
theorem vclaw3_23 : VC (T rise.Φ cLaw.roms [cWorks, cRefOrder, cRefLatest, cLatest, cLater]) invlaw mslaw 3 tlaw3 wlaw3_23 := by
  intro ρ kn hi hp
  have hi : (ρ.l 1004) = risL (ρ.z.rl 0) (ρ.z.rl 0).length ∧ (ρ.i .i64 11860) = ((risL (ρ.z.rl 0) (ρ.i .i64 11857).toNat).length : Int) ∧ lastP (ρ.z.rl 0) (ρ.i .i64 11857) (ρ.i .i64 11858) (ρ.i .i64 11859) ∧ ((ρ.i .i64 11860) = 0 ∨ (ρ.i .i64 11860) < (ρ.i .i64 1)) := hi
  have hr8 : Typed [(CK.int .i64), (CK.int .i64)] (ρ.z.rl 0) ∧ (((ρ.z.rl 0).length : Nat) : Int) = (((ρ.z.rl 0)).length : Int) := kn.rows 8 _ _ _ _ _ _ rfl
  have hr5 : Typed [(CK.int .i64)] (ρ.l 1004) ∧ (ρ.i .i64 1002) = (((ρ.l 1004)).length : Int) := kn.rows 5 _ _ _ _ _ _ rfl
  have hF : ρ.z.F = rise.Φ := kn.F
  simp only [h_nil, h_cons, d_le, d_eq, d_not, d_var, d_lit, d_cel, d_leq, d_fn, d_and, d_iff, IE.den, LE.den, AL.den, lenV, true_and, and_true, hF, pi1, pi2, pb1] at hp
  obtain ⟨p1, p2, p3, p4, p5, p6, p7, p8, p9, p10, p11⟩ := hp
  refine (show ((ρ.l 1004) = risL (ρ.z.rl 0) (ρ.z.rl 0).length ∧ (ρ.i .i64 11860) = ((risL (ρ.z.rl 0) ((ρ.i .i64 11857) + (1 : Int)).toNat).length : Int) ∧ lastP (ρ.z.rl 0) ((ρ.i .i64 11857) + (1 : Int)) (ρ.i .i64 11858) (ρ.i .i64 11859) ∧ ((ρ.i .i64 11860) = 0 ∨ (ρ.i .i64 11860) < (ρ.i .i64 1))) ∧ ((2 * ((ρ.z.rl 0).length + 1) + ((ρ.z.rl 0).length - ((ρ.i .i64 11857) + (1 : Int)).toNat) : Nat) < 2 * ((ρ.z.rl 0).length + 1) + ((ρ.z.rl 0).length - (ρ.i .i64 11857).toNat)) from ?_)
  obtain ⟨h1, h2, h3, h4⟩ := hi
  have hx := hr5.2
  first
    | (have e := ris_end (R := ρ.z.rl 0) (J := ρ.i .i64 11857) (by assumption) (by assumption)
       rw [← e, ← h1] at h2
       first
         | omega
         | exact ⟨⟨h1, by simp [risL], fun h => absurd h (by omega)⟩, by omega⟩)
    | (have hb : isR (ρ.z.rl 0) (ρ.i .i64 11857).toNat = true := by
         first
           | exact is_zero (by omega) (by assumption)
           | (rw [is_of (by omega) h3]; assumption)
       obtain ⟨a, b, c⟩ := ris_step h1 h2 hx (by omega) (by omega) (by omega) hb
       first
         | omega
         | exact ⟨⟨h1, c.symm, last_yes (by omega) hb⟩, by omega⟩
         | exact ⟨⟨h1, c.symm, last_yes (by omega) hb, by omega⟩, by omega⟩
         | exact ⟨⟨h1, by simp [risL], fun h => absurd h (by omega)⟩, by omega⟩)
    | (have hb : ¬ isR (ρ.z.rl 0) (ρ.i .i64 11857).toNat = true := by rw [is_of (by omega) h3]; assumption
       have c := ris_skip (R := ρ.z.rl 0) (J := ρ.i .i64 11857) (by omega) hb
       rw [← c] at h2
       first
         | exact ⟨⟨h1, h2, last_no (by omega) hb h3⟩, by omega⟩
         | exact ⟨⟨h1, h2, last_no (by omega) hb h3, h4⟩, by omega⟩)
theorem vclaw4_0 : VC (T rise.Φ cLaw.roms [cWorks, cRefOrder, cRefLatest, cLatest, cLater]) invlaw mslaw 4 tlaw4 wlaw4_0 := by
  intro ρ kn hi hp
  exact all_nil
theorem vclaw4_1 : VC (T rise.Φ cLaw.roms [cWorks, cRefOrder, cRefLatest, cLatest, cLater]) invlaw mslaw 4 tlaw4 wlaw4_1 := by
  intro ρ kn hi hp
  have hi : (ρ.l 1004) = risL (ρ.z.rl 0) (ρ.z.rl 0).length ∧ (ρ.i .i64 301860) = ((risL (ρ.z.rl 0) (ρ.i .i64 301857).toNat).length : Int) ∧ lastP (ρ.z.rl 0) (ρ.i .i64 301857) (ρ.i .i64 301858) (ρ.i .i64 301859) := hi
  have hr8 : Typed [(CK.int .i64), (CK.int .i64)] (ρ.z.rl 0) ∧ (((ρ.z.rl 0).length : Nat) : Int) = (((ρ.z.rl 0)).length : Int) := kn.rows 8 _ _ _ _ _ _ rfl
  have hr5 : Typed [(CK.int .i64)] (ρ.l 1004) ∧ (ρ.i .i64 1002) = (((ρ.l 1004)).length : Int) := kn.rows 5 _ _ _ _ _ _ rfl
  have hF : ρ.z.F = rise.Φ := kn.F
  simp only [h_nil, h_cons, d_le, d_eq, d_not, d_var, d_lit, d_cel, d_leq, d_fn, d_and, d_iff, IE.den, LE.den, AL.den, lenV, true_and, and_true, hF, pi1, pi2, pb1] at hp
  obtain ⟨p1, p2, p3, p4, p5, p6, p7, p8, p9, p10⟩ := hp
  exfalso
  obtain ⟨h1, h2, h3⟩ := hi
  have hx := hr5.2
  first
    | (have e := ris_end (R := ρ.z.rl 0) (J := ρ.i .i64 301857) (by assumption) (by assumption)
       rw [← e, ← h1] at h2
       first
         | omega
         | exact ⟨⟨h1, by simp [risL], fun h => absurd h (by omega)⟩, by omega⟩)
    | (have hb : isR (ρ.z.rl 0) (ρ.i .i64 301857).toNat = true := by
         first
           | exact is_zero (by omega) (by assumption)
           | (rw [is_of (by omega) h3]; assumption)
       obtain ⟨a, b, c⟩ := ris_step h1 h2 hx (by omega) (by omega) (by omega) hb
       first
         | omega
         | exact ⟨⟨h1, c.symm, last_yes (by omega) hb⟩, by omega⟩
         | exact ⟨⟨h1, c.symm, last_yes (by omega) hb, by omega⟩, by omega⟩
         | exact ⟨⟨h1, by simp [risL], fun h => absurd h (by omega)⟩, by omega⟩)
    | (have hb : ¬ isR (ρ.z.rl 0) (ρ.i .i64 301857).toNat = true := by rw [is_of (by omega) h3]; assumption
       have c := ris_skip (R := ρ.z.rl 0) (J := ρ.i .i64 301857) (by omega) hb
       rw [← c] at h2
       first
         | exact ⟨⟨h1, h2, last_no (by omega) hb h3⟩, by omega⟩
         | exact ⟨⟨h1, h2, last_no (by omega) hb h3, h4⟩, by omega⟩)
theorem vclaw4_2 : VC (T rise.Φ cLaw.roms [cWorks, cRefOrder, cRefLatest, cLatest, cLater]) invlaw mslaw 4 tlaw4 wlaw4_2 := by
  intro ρ kn hi hp
  have hi : (ρ.l 1004) = risL (ρ.z.rl 0) (ρ.z.rl 0).length ∧ (ρ.i .i64 301860) = ((risL (ρ.z.rl 0) (ρ.i .i64 301857).toNat).length : Int) ∧ lastP (ρ.z.rl 0) (ρ.i .i64 301857) (ρ.i .i64 301858) (ρ.i .i64 301859) := hi
  have hr8 : Typed [(CK.int .i64), (CK.int .i64)] (ρ.z.rl 0) ∧ (((ρ.z.rl 0).length : Nat) : Int) = (((ρ.z.rl 0)).length : Int) := kn.rows 8 _ _ _ _ _ _ rfl
  have hr5 : Typed [(CK.int .i64)] (ρ.l 1004) ∧ (ρ.i .i64 1002) = (((ρ.l 1004)).length : Int) := kn.rows 5 _ _ _ _ _ _ rfl
  have hF : ρ.z.F = rise.Φ := kn.F
  simp only [h_nil, h_cons, d_le, d_eq, d_not, d_var, d_lit, d_cel, d_leq, d_fn, d_and, d_iff, IE.den, LE.den, AL.den, lenV, true_and, and_true, hF, pi1, pi2, pb1] at hp
  obtain ⟨p1, p2, p3, p4, p5, p6, p7, p8, p9, p10, p11⟩ := hp
  refine (show ((ρ.l 1004) = risL (ρ.z.rl 0) (ρ.z.rl 0).length ∧ ((ρ.i .i64 301860) + (1 : Int)) = ((risL (ρ.z.rl 0) ((ρ.i .i64 301857) + (1 : Int)).toNat).length : Int) ∧ lastP (ρ.z.rl 0) ((ρ.i .i64 301857) + (1 : Int)) (clampK .i64 (intV (celV (ρ.z.rl 0) (ρ.i .i64 301857) 0))) (clampK .i64 (intV (celV (ρ.z.rl 0) (ρ.i .i64 301857) 1)))) ∧ ((((ρ.z.rl 0).length + 1) + ((ρ.z.rl 0).length - ((ρ.i .i64 301857) + (1 : Int)).toNat) : Nat) < ((ρ.z.rl 0).length + 1) + ((ρ.z.rl 0).length - (ρ.i .i64 301857).toNat)) from ?_)
  obtain ⟨h1, h2, h3⟩ := hi
  have hx := hr5.2
  first
    | (have e := ris_end (R := ρ.z.rl 0) (J := ρ.i .i64 301857) (by assumption) (by assumption)
       rw [← e, ← h1] at h2
       first
         | omega
         | exact ⟨⟨h1, by simp [risL], fun h => absurd h (by omega)⟩, by omega⟩)
    | (have hb : isR (ρ.z.rl 0) (ρ.i .i64 301857).toNat = true := by
         first
           | exact is_zero (by omega) (by assumption)
           | (rw [is_of (by omega) h3]; assumption)
       obtain ⟨a, b, c⟩ := ris_step h1 h2 hx (by omega) (by omega) (by omega) hb
       first
         | omega
         | exact ⟨⟨h1, c.symm, last_yes (by omega) hb⟩, by omega⟩
         | exact ⟨⟨h1, c.symm, last_yes (by omega) hb, by omega⟩, by omega⟩
         | exact ⟨⟨h1, by simp [risL], fun h => absurd h (by omega)⟩, by omega⟩)
    | (have hb : ¬ isR (ρ.z.rl 0) (ρ.i .i64 301857).toNat = true := by rw [is_of (by omega) h3]; assumption
       have c := ris_skip (R := ρ.z.rl 0) (J := ρ.i .i64 301857) (by omega) hb
       rw [← c] at h2
       first
         | exact ⟨⟨h1, h2, last_no (by omega) hb h3⟩, by omega⟩
         | exact ⟨⟨h1, h2, last_no (by omega) hb h3, h4⟩, by omega⟩)
theorem vclaw4_3 : VC (T rise.Φ cLaw.roms [cWorks, cRefOrder, cRefLatest, cLatest, cLater]) invlaw mslaw 4 tlaw4 wlaw4_3 := by
  intro ρ kn hi hp
  have hi : (ρ.l 1004) = risL (ρ.z.rl 0) (ρ.z.rl 0).length ∧ (ρ.i .i64 301860) = ((risL (ρ.z.rl 0) (ρ.i .i64 301857).toNat).length : Int) ∧ lastP (ρ.z.rl 0) (ρ.i .i64 301857) (ρ.i .i64 301858) (ρ.i .i64 301859) := hi
  have hr8 : Typed [(CK.int .i64), (CK.int .i64)] (ρ.z.rl 0) ∧ (((ρ.z.rl 0).length : Nat) : Int) = (((ρ.z.rl 0)).length : Int) := kn.rows 8 _ _ _ _ _ _ rfl
  have hr5 : Typed [(CK.int .i64)] (ρ.l 1004) ∧ (ρ.i .i64 1002) = (((ρ.l 1004)).length : Int) := kn.rows 5 _ _ _ _ _ _ rfl
  have hF : ρ.z.F = rise.Φ := kn.F
  simp only [h_nil, h_cons, d_le, d_eq, d_not, d_var, d_lit, d_cel, d_leq, d_fn, d_and, d_iff, IE.den, LE.den, AL.den, lenV, true_and, and_true, hF, pi1, pi2, pb1] at hp
  obtain ⟨p1, p2, p3, p4, p5, p6, p7, p8, p9, p10, p11⟩ := hp
  exfalso
  obtain ⟨h1, h2, h3⟩ := hi
  have hx := hr5.2
  first
    | (have e := ris_end (R := ρ.z.rl 0) (J := ρ.i .i64 301857) (by assumption) (by assumption)
       rw [← e, ← h1] at h2
       first
         | omega
         | exact ⟨⟨h1, by simp [risL], fun h => absurd h (by omega)⟩, by omega⟩)
    | (have hb : isR (ρ.z.rl 0) (ρ.i .i64 301857).toNat = true := by
         first
           | exact is_zero (by omega) (by assumption)
           | (rw [is_of (by omega) h3]; assumption)
       obtain ⟨a, b, c⟩ := ris_step h1 h2 hx (by omega) (by omega) (by omega) hb
       first
         | omega
         | exact ⟨⟨h1, c.symm, last_yes (by omega) hb⟩, by omega⟩
         | exact ⟨⟨h1, c.symm, last_yes (by omega) hb, by omega⟩, by omega⟩
         | exact ⟨⟨h1, by simp [risL], fun h => absurd h (by omega)⟩, by omega⟩)
    | (have hb : ¬ isR (ρ.z.rl 0) (ρ.i .i64 301857).toNat = true := by rw [is_of (by omega) h3]; assumption
       have c := ris_skip (R := ρ.z.rl 0) (J := ρ.i .i64 301857) (by omega) hb
       rw [← c] at h2
       first
         | exact ⟨⟨h1, h2, last_no (by omega) hb h3⟩, by omega⟩
         | exact ⟨⟨h1, h2, last_no (by omega) hb h3, h4⟩, by omega⟩)
theorem vclaw4_4 : VC (T rise.Φ cLaw.roms [cWorks, cRefOrder, cRefLatest, cLatest, cLater]) invlaw mslaw 4 tlaw4 wlaw4_4 := by
  intro ρ kn hi hp
  have hi : (ρ.l 1004) = risL (ρ.z.rl 0) (ρ.z.rl 0).length ∧ (ρ.i .i64 301860) = ((risL (ρ.z.rl 0) (ρ.i .i64 301857).toNat).length : Int) ∧ lastP (ρ.z.rl 0) (ρ.i .i64 301857) (ρ.i .i64 301858) (ρ.i .i64 301859) := hi
  have hr8 : Typed [(CK.int .i64), (CK.int .i64)] (ρ.z.rl 0) ∧ (((ρ.z.rl 0).length : Nat) : Int) = (((ρ.z.rl 0)).length : Int) := kn.rows 8 _ _ _ _ _ _ rfl
  have hr5 : Typed [(CK.int .i64)] (ρ.l 1004) ∧ (ρ.i .i64 1002) = (((ρ.l 1004)).length : Int) := kn.rows 5 _ _ _ _ _ _ rfl
  have hF : ρ.z.F = rise.Φ := kn.F
  simp only [h_nil, h_cons, d_le, d_eq, d_not, d_var, d_lit, d_cel, d_leq, d_fn, d_and, d_iff, IE.den, LE.den, AL.den, lenV, true_and, and_true, hF, pi1, pi2, pb1] at hp
  obtain ⟨p1, p2, p3, p4, p5, p6, p7, p8, p9, p10, p11, p12⟩ := hp
  exfalso
  obtain ⟨h1, h2, h3⟩ := hi
  have hx := hr5.2
  first
    | (have e := ris_end (R := ρ.z.rl 0) (J := ρ.i .i64 301857) (by assumption) (by assumption)
       rw [← e, ← h1] at h2
       first
         | omega
         | exact ⟨⟨h1, by simp [risL], fun h => absurd h (by omega)⟩, by omega⟩)
    | (have hb : isR (ρ.z.rl 0) (ρ.i .i64 301857).toNat = true := by
         first
           | exact is_zero (by omega) (by assumption)
           | (rw [is_of (by omega) h3]; assumption)
       obtain ⟨a, b, c⟩ := ris_step h1 h2 hx (by omega) (by omega) (by omega) hb
       first
         | omega
         | exact ⟨⟨h1, c.symm, last_yes (by omega) hb⟩, by omega⟩
         | exact ⟨⟨h1, c.symm, last_yes (by omega) hb, by omega⟩, by omega⟩
         | exact ⟨⟨h1, by simp [risL], fun h => absurd h (by omega)⟩, by omega⟩)
    | (have hb : ¬ isR (ρ.z.rl 0) (ρ.i .i64 301857).toNat = true := by rw [is_of (by omega) h3]; assumption
       have c := ris_skip (R := ρ.z.rl 0) (J := ρ.i .i64 301857) (by omega) hb
       rw [← c] at h2
       first
         | exact ⟨⟨h1, h2, last_no (by omega) hb h3⟩, by omega⟩
         | exact ⟨⟨h1, h2, last_no (by omega) hb h3, h4⟩, by omega⟩)
theorem vclaw4_5 : VC (T rise.Φ cLaw.roms [cWorks, cRefOrder, cRefLatest, cLatest, cLater]) invlaw mslaw 4 tlaw4 wlaw4_5 := by
  intro ρ kn hi hp
  have hi : (ρ.l 1004) = risL (ρ.z.rl 0) (ρ.z.rl 0).length ∧ (ρ.i .i64 301860) = ((risL (ρ.z.rl 0) (ρ.i .i64 301857).toNat).length : Int) ∧ lastP (ρ.z.rl 0) (ρ.i .i64 301857) (ρ.i .i64 301858) (ρ.i .i64 301859) := hi
  have hr8 : Typed [(CK.int .i64), (CK.int .i64)] (ρ.z.rl 0) ∧ (((ρ.z.rl 0).length : Nat) : Int) = (((ρ.z.rl 0)).length : Int) := kn.rows 8 _ _ _ _ _ _ rfl
  have hr5 : Typed [(CK.int .i64)] (ρ.l 1004) ∧ (ρ.i .i64 1002) = (((ρ.l 1004)).length : Int) := kn.rows 5 _ _ _ _ _ _ rfl
  have hF : ρ.z.F = rise.Φ := kn.F
  simp only [h_nil, h_cons, d_le, d_eq, d_not, d_var, d_lit, d_cel, d_leq, d_fn, d_and, d_iff, IE.den, LE.den, AL.den, lenV, true_and, and_true, hF, pi1, pi2, pb1] at hp
  obtain ⟨p1, p2, p3, p4, p5, p6, p7, p8, p9, p10, p11, p12, p13⟩ := hp
  refine (show ((ρ.l 1004) = risL (ρ.z.rl 0) (ρ.z.rl 0).length ∧ ((ρ.i .i64 301860) + (1 : Int)) = ((risL (ρ.z.rl 0) ((ρ.i .i64 301857) + (1 : Int)).toNat).length : Int) ∧ lastP (ρ.z.rl 0) ((ρ.i .i64 301857) + (1 : Int)) (clampK .i64 (intV (celV (ρ.z.rl 0) (ρ.i .i64 301857) 0))) (clampK .i64 (intV (celV (ρ.z.rl 0) (ρ.i .i64 301857) 1)))) ∧ ((((ρ.z.rl 0).length + 1) + ((ρ.z.rl 0).length - ((ρ.i .i64 301857) + (1 : Int)).toNat) : Nat) < ((ρ.z.rl 0).length + 1) + ((ρ.z.rl 0).length - (ρ.i .i64 301857).toNat)) from ?_)
  obtain ⟨h1, h2, h3⟩ := hi
  have hx := hr5.2
  first
    | (have e := ris_end (R := ρ.z.rl 0) (J := ρ.i .i64 301857) (by assumption) (by assumption)
       rw [← e, ← h1] at h2
       first
         | omega
         | exact ⟨⟨h1, by simp [risL], fun h => absurd h (by omega)⟩, by omega⟩)
    | (have hb : isR (ρ.z.rl 0) (ρ.i .i64 301857).toNat = true := by
         first
           | exact is_zero (by omega) (by assumption)
           | (rw [is_of (by omega) h3]; assumption)
       obtain ⟨a, b, c⟩ := ris_step h1 h2 hx (by omega) (by omega) (by omega) hb
       first
         | omega
         | exact ⟨⟨h1, c.symm, last_yes (by omega) hb⟩, by omega⟩
         | exact ⟨⟨h1, c.symm, last_yes (by omega) hb, by omega⟩, by omega⟩
         | exact ⟨⟨h1, by simp [risL], fun h => absurd h (by omega)⟩, by omega⟩)
    | (have hb : ¬ isR (ρ.z.rl 0) (ρ.i .i64 301857).toNat = true := by rw [is_of (by omega) h3]; assumption
       have c := ris_skip (R := ρ.z.rl 0) (J := ρ.i .i64 301857) (by omega) hb
       rw [← c] at h2
       first
         | exact ⟨⟨h1, h2, last_no (by omega) hb h3⟩, by omega⟩
         | exact ⟨⟨h1, h2, last_no (by omega) hb h3, h4⟩, by omega⟩)
theorem vclaw4_6 : VC (T rise.Φ cLaw.roms [cWorks, cRefOrder, cRefLatest, cLatest, cLater]) invlaw mslaw 4 tlaw4 wlaw4_6 := by
  intro ρ kn hi hp
  have hi : (ρ.l 1004) = risL (ρ.z.rl 0) (ρ.z.rl 0).length ∧ (ρ.i .i64 301860) = ((risL (ρ.z.rl 0) (ρ.i .i64 301857).toNat).length : Int) ∧ lastP (ρ.z.rl 0) (ρ.i .i64 301857) (ρ.i .i64 301858) (ρ.i .i64 301859) := hi
  have hr8 : Typed [(CK.int .i64), (CK.int .i64)] (ρ.z.rl 0) ∧ (((ρ.z.rl 0).length : Nat) : Int) = (((ρ.z.rl 0)).length : Int) := kn.rows 8 _ _ _ _ _ _ rfl
  have hr5 : Typed [(CK.int .i64)] (ρ.l 1004) ∧ (ρ.i .i64 1002) = (((ρ.l 1004)).length : Int) := kn.rows 5 _ _ _ _ _ _ rfl
  have hF : ρ.z.F = rise.Φ := kn.F
  simp only [h_nil, h_cons, d_le, d_eq, d_not, d_var, d_lit, d_cel, d_leq, d_fn, d_and, d_iff, IE.den, LE.den, AL.den, lenV, true_and, and_true, hF, pi1, pi2, pb1] at hp
  obtain ⟨p1, p2, p3, p4, p5, p6, p7, p8, p9, p10, p11, p12, p13⟩ := hp
  exfalso
  obtain ⟨h1, h2, h3⟩ := hi
  have hx := hr5.2
  first
    | (have e := ris_end (R := ρ.z.rl 0) (J := ρ.i .i64 301857) (by assumption) (by assumption)
       rw [← e, ← h1] at h2
       first
         | omega
         | exact ⟨⟨h1, by simp [risL], fun h => absurd h (by omega)⟩, by omega⟩)
    | (have hb : isR (ρ.z.rl 0) (ρ.i .i64 301857).toNat = true := by
         first
           | exact is_zero (by omega) (by assumption)
           | (rw [is_of (by omega) h3]; assumption)
       obtain ⟨a, b, c⟩ := ris_step h1 h2 hx (by omega) (by omega) (by omega) hb
       first
         | omega
         | exact ⟨⟨h1, c.symm, last_yes (by omega) hb⟩, by omega⟩
         | exact ⟨⟨h1, c.symm, last_yes (by omega) hb, by omega⟩, by omega⟩
         | exact ⟨⟨h1, by simp [risL], fun h => absurd h (by omega)⟩, by omega⟩)
    | (have hb : ¬ isR (ρ.z.rl 0) (ρ.i .i64 301857).toNat = true := by rw [is_of (by omega) h3]; assumption
       have c := ris_skip (R := ρ.z.rl 0) (J := ρ.i .i64 301857) (by omega) hb
       rw [← c] at h2
       first
         | exact ⟨⟨h1, h2, last_no (by omega) hb h3⟩, by omega⟩
         | exact ⟨⟨h1, h2, last_no (by omega) hb h3, h4⟩, by omega⟩)
theorem vclaw4_7 : VC (T rise.Φ cLaw.roms [cWorks, cRefOrder, cRefLatest, cLatest, cLater]) invlaw mslaw 4 tlaw4 wlaw4_7 := by
  intro ρ kn hi hp
  have hi : (ρ.l 1004) = risL (ρ.z.rl 0) (ρ.z.rl 0).length ∧ (ρ.i .i64 301860) = ((risL (ρ.z.rl 0) (ρ.i .i64 301857).toNat).length : Int) ∧ lastP (ρ.z.rl 0) (ρ.i .i64 301857) (ρ.i .i64 301858) (ρ.i .i64 301859) := hi
  have hr8 : Typed [(CK.int .i64), (CK.int .i64)] (ρ.z.rl 0) ∧ (((ρ.z.rl 0).length : Nat) : Int) = (((ρ.z.rl 0)).length : Int) := kn.rows 8 _ _ _ _ _ _ rfl
  have hr5 : Typed [(CK.int .i64)] (ρ.l 1004) ∧ (ρ.i .i64 1002) = (((ρ.l 1004)).length : Int) := kn.rows 5 _ _ _ _ _ _ rfl
  have hF : ρ.z.F = rise.Φ := kn.F
  simp only [h_nil, h_cons, d_le, d_eq, d_not, d_var, d_lit, d_cel, d_leq, d_fn, d_and, d_iff, IE.den, LE.den, AL.den, lenV, true_and, and_true, hF, pi1, pi2, pb1] at hp
  obtain ⟨p1, p2, p3, p4, p5, p6, p7, p8, p9, p10, p11⟩ := hp
  refine (show ((ρ.l 1004) = risL (ρ.z.rl 0) (ρ.z.rl 0).length ∧ (ρ.i .i64 301860) = ((risL (ρ.z.rl 0) ((ρ.i .i64 301857) + (1 : Int)).toNat).length : Int) ∧ lastP (ρ.z.rl 0) ((ρ.i .i64 301857) + (1 : Int)) (ρ.i .i64 301858) (ρ.i .i64 301859)) ∧ ((((ρ.z.rl 0).length + 1) + ((ρ.z.rl 0).length - ((ρ.i .i64 301857) + (1 : Int)).toNat) : Nat) < ((ρ.z.rl 0).length + 1) + ((ρ.z.rl 0).length - (ρ.i .i64 301857).toNat)) from ?_)
  obtain ⟨h1, h2, h3⟩ := hi
  have hx := hr5.2
  first
    | (have e := ris_end (R := ρ.z.rl 0) (J := ρ.i .i64 301857) (by assumption) (by assumption)
       rw [← e, ← h1] at h2
       first
         | omega
         | exact ⟨⟨h1, by simp [risL], fun h => absurd h (by omega)⟩, by omega⟩)
    | (have hb : isR (ρ.z.rl 0) (ρ.i .i64 301857).toNat = true := by
         first
           | exact is_zero (by omega) (by assumption)
           | (rw [is_of (by omega) h3]; assumption)
       obtain ⟨a, b, c⟩ := ris_step h1 h2 hx (by omega) (by omega) (by omega) hb
       first
         | omega
         | exact ⟨⟨h1, c.symm, last_yes (by omega) hb⟩, by omega⟩
         | exact ⟨⟨h1, c.symm, last_yes (by omega) hb, by omega⟩, by omega⟩
         | exact ⟨⟨h1, by simp [risL], fun h => absurd h (by omega)⟩, by omega⟩)
    | (have hb : ¬ isR (ρ.z.rl 0) (ρ.i .i64 301857).toNat = true := by rw [is_of (by omega) h3]; assumption
       have c := ris_skip (R := ρ.z.rl 0) (J := ρ.i .i64 301857) (by omega) hb
       rw [← c] at h2
       first
         | exact ⟨⟨h1, h2, last_no (by omega) hb h3⟩, by omega⟩
         | exact ⟨⟨h1, h2, last_no (by omega) hb h3, h4⟩, by omega⟩)
theorem vcslaw0 : ∀ v ∈ vwlaw 0, VC (T rise.Φ cLaw.roms [cWorks, cRefOrder, cRefLatest, cLatest, cLater]) invlaw mslaw 0 (startF 10 cLaw.pat (.lit true :: cLaw.pre)) v := all_cons vclaw0_0 (all_cons vclaw0_1 (all_nil))
theorem oklaw0 : cfgOk (startF 10 cLaw.pat (.lit true :: cLaw.pre)) = true := by kernel_rfl
theorem sglaw0 : segL cLaw.roms cLaw (seg (T rise.Φ cLaw.roms [cWorks, cRefOrder, cRefLatest, cLatest, cLater]) sellaw 3000 tmlaw (startF 10 cLaw.pat (.lit true :: cLaw.pre))) = (true, codesR tmlaw (views (seg (T rise.Φ cLaw.roms [cWorks, cRefOrder, cRefLatest, cLatest, cLater]) sellaw 3000 tmlaw (startF 10 cLaw.pat (.lit true :: cLaw.pre)))), vwlaw 0) := by kernel_rfl
theorem vcslaw1 : ∀ v ∈ vwlaw 1, VC (T rise.Φ cLaw.roms [cWorks, cRefOrder, cRefLatest, cLatest, cLater]) invlaw mslaw 1 tlaw1 v := all_cons vclaw1_0 (all_nil)
theorem oklaw1 : cfgOk tlaw1 = true := by kernel_rfl
theorem sglaw1 : segL cLaw.roms cLaw (seg (T rise.Φ cLaw.roms [cWorks, cRefOrder, cRefLatest, cLatest, cLater]) sellaw 3000 tmlaw tlaw1) = (true, codesR tmlaw (views (seg (T rise.Φ cLaw.roms [cWorks, cRefOrder, cRefLatest, cLatest, cLater]) sellaw 3000 tmlaw tlaw1)), vwlaw 1) := by kernel_rfl
theorem vcslaw2 : ∀ v ∈ vwlaw 2, VC (T rise.Φ cLaw.roms [cWorks, cRefOrder, cRefLatest, cLatest, cLater]) invlaw mslaw 2 tlaw2 v := all_cons vclaw2_0 (all_cons vclaw2_1 (all_cons vclaw2_2 (all_nil)))
theorem oklaw2 : cfgOk tlaw2 = true := by kernel_rfl
theorem sglaw2 : segL cLaw.roms cLaw (seg (T rise.Φ cLaw.roms [cWorks, cRefOrder, cRefLatest, cLatest, cLater]) sellaw 3000 tmlaw tlaw2) = (true, codesR tmlaw (views (seg (T rise.Φ cLaw.roms [cWorks, cRefOrder, cRefLatest, cLatest, cLater]) sellaw 3000 tmlaw tlaw2)), vwlaw 2) := by kernel_rfl
theorem vcslaw3 : ∀ v ∈ vwlaw 3, VC (T rise.Φ cLaw.roms [cWorks, cRefOrder, cRefLatest, cLatest, cLater]) invlaw mslaw 3 tlaw3 v := all_cons vclaw3_0 (all_cons vclaw3_1 (all_cons vclaw3_2 (all_cons vclaw3_3 (all_cons vclaw3_4 (all_cons vclaw3_5 (all_cons vclaw3_6 (all_cons vclaw3_7 (all_cons vclaw3_8 (all_cons vclaw3_9 (all_cons vclaw3_10 (all_cons vclaw3_11 (all_cons vclaw3_12 (all_cons vclaw3_13 (all_cons vclaw3_14 (all_cons vclaw3_15 (all_cons vclaw3_16 (all_cons vclaw3_17 (all_cons vclaw3_18 (all_cons vclaw3_19 (all_cons vclaw3_20 (all_cons vclaw3_21 (all_cons vclaw3_22 (all_cons vclaw3_23 (all_nil))))))))))))))))))))))))
theorem oklaw3 : cfgOk tlaw3 = true := by kernel_rfl
theorem sglaw3 : segL cLaw.roms cLaw (seg (T rise.Φ cLaw.roms [cWorks, cRefOrder, cRefLatest, cLatest, cLater]) sellaw 3000 tmlaw tlaw3) = (true, codesR tmlaw (views (seg (T rise.Φ cLaw.roms [cWorks, cRefOrder, cRefLatest, cLatest, cLater]) sellaw 3000 tmlaw tlaw3)), vwlaw 3) := by kernel_rfl
theorem vcslaw4 : ∀ v ∈ vwlaw 4, VC (T rise.Φ cLaw.roms [cWorks, cRefOrder, cRefLatest, cLatest, cLater]) invlaw mslaw 4 tlaw4 v := all_cons vclaw4_0 (all_cons vclaw4_1 (all_cons vclaw4_2 (all_cons vclaw4_3 (all_cons vclaw4_4 (all_cons vclaw4_5 (all_cons vclaw4_6 (all_cons vclaw4_7 (all_nil))))))))
theorem oklaw4 : cfgOk tlaw4 = true := by kernel_rfl
theorem sglaw4 : segL cLaw.roms cLaw (seg (T rise.Φ cLaw.roms [cWorks, cRefOrder, cRefLatest, cLatest, cLater]) sellaw 3000 tmlaw tlaw4) = (true, codesR tmlaw (views (seg (T rise.Φ cLaw.roms [cWorks, cRefOrder, cRefLatest, cLatest, cLater]) sellaw 3000 tmlaw tlaw4)), vwlaw 4) := by kernel_rfl
theorem lnlaw0 : ∀ ρ, Known (T rise.Φ cLaw.roms [cWorks, cRefOrder, cRefLatest, cLatest, cLater]) (startF 10 cLaw.pat (.lit true :: cLaw.pre)) ρ → invlaw 0 ρ.lt → Holds ρ (leanOf (Cfg.pc (startF 10 cLaw.pat (.lit true :: cLaw.pre)))) := by
  intro ρ _ _
  exact (show Holds ρ [] from fun p hp => by cases hp)
theorem lnlaw1 : ∀ ρ, Known (T rise.Φ cLaw.roms [cWorks, cRefOrder, cRefLatest, cLatest, cLater]) tlaw1 ρ → invlaw 1 ρ.lt → Holds ρ (leanOf (Cfg.pc tlaw1)) := by
  intro ρ _ _
  exact (show Holds ρ [] from fun p hp => by cases hp)
theorem lnlaw2 : ∀ ρ, Known (T rise.Φ cLaw.roms [cWorks, cRefOrder, cRefLatest, cLatest, cLater]) tlaw2 ρ → invlaw 2 ρ.lt → Holds ρ (leanOf (Cfg.pc tlaw2)) := by
  intro ρ kn hi
  refine (show Holds ρ [.le (.lit 0) (.cel .i64 (.var 1004) (.sub (.var .i64 1002) (.lit 1)) 0), .not (.le (.len (.rom 0)) (.cel .i64 (.var 1004) (.sub (.var .i64 1002) (.lit 1)) 0))] from ?_)
  have hi : (ρ.l 1004) = risL (ρ.z.rl 0) (ρ.i .i64 1001).toNat ∧ 1 ≤ (ρ.i .i64 1001) ∧ (ρ.i .i64 1001) ≤ ((ρ.z.rl 0).length : Int) ∧ (ρ.i .i64 1002) = ((ρ.l 1004).length : Int) ∧ ((ρ.z.rl 0).length : Int) ≤ 60 := hi
  have hF : ρ.z.F = rise.Φ := kn.F
  simp only [h_nil, h_cons, d_le, d_eq, d_not, d_var, d_lit, d_cel, d_leq, d_fn, d_and, d_iff, IE.den, LE.den, AL.den, lenV, true_and, and_true, hF, pi1, pi2, pb1]
  have hr5 : Typed [CK.int .i64] (ρ.l 1004) ∧ (ρ.i .i64 1002) = ((ρ.l 1004).length : Int) := kn.rows 5 _ _ _ _ _ _ rfl
  obtain ⟨h1, h2, h3, h4, h5⟩ := hi
  have e := ris_lastc h1 h2 h3 h5 h4
  have := top_le (ρ.z.rl 0) ((ρ.i .i64 1001).toNat - 1)
  rw [e]
  omega
theorem lnlaw3 : ∀ ρ, Known (T rise.Φ cLaw.roms [cWorks, cRefOrder, cRefLatest, cLatest, cLater]) tlaw3 ρ → invlaw 3 ρ.lt → Holds ρ (leanOf (Cfg.pc tlaw3)) := by
  intro ρ _ _
  exact (show Holds ρ [] from fun p hp => by cases hp)
theorem lnlaw4 : ∀ ρ, Known (T rise.Φ cLaw.roms [cWorks, cRefOrder, cRefLatest, cLatest, cLater]) tlaw4 ρ → invlaw 4 ρ.lt → Holds ρ (leanOf (Cfg.pc tlaw4)) := by
  intro ρ _ _
  exact (show Holds ρ [] from fun p hp => by cases hp)
theorem told_law : Sx.Told rise.Φ cLaw := by
  refine told_of (cs := [cWorks, cRefOrder, cRefLatest, cLatest, cLater]) (all_cons told_works (all_cons told_refOrder (all_cons told_refLatest (all_cons told_latest (all_cons told_later (all_nil)))))) (sel := sellaw) 3000 tmlaw invlaw mslaw vwlaw 0 (pc0 := (.lit true :: cLaw.pre)) (by kernel_rfl) (by kernel_rfl) (by kernel_rfl) (post_nil rfl) ?_ ?_ ?_ rfl (fun ρ _ h => h.cons (p := .lit true) (by simp only [BE.den])) (fun _ _ _ _ => trivial) ?_
  · intro k C h
    have := lk_mem h
    simp only [tmlaw, List.mem_cons, Prod.mk.injEq, List.not_mem_nil, or_false] at this
    rcases this with ⟨rfl, rfl⟩ | ⟨rfl, rfl⟩ | ⟨rfl, rfl⟩ | ⟨rfl, rfl⟩ | ⟨rfl, rfl⟩
    · exact oklaw0
    · exact oklaw1
    · exact oklaw2
    · exact oklaw3
    · exact oklaw4
  · intro k C h
    have := lk_mem h
    simp only [tmlaw, List.mem_cons, Prod.mk.injEq, List.not_mem_nil, or_false] at this
    rcases this with ⟨rfl, rfl⟩ | ⟨rfl, rfl⟩ | ⟨rfl, rfl⟩ | ⟨rfl, rfl⟩ | ⟨rfl, rfl⟩
    · exact sglaw0
    · exact sglaw1
    · exact sglaw2
    · exact sglaw3
    · exact sglaw4
  · intro k C h
    have := lk_mem h
    simp only [tmlaw, List.mem_cons, Prod.mk.injEq, List.not_mem_nil, or_false] at this
    rcases this with ⟨rfl, rfl⟩ | ⟨rfl, rfl⟩ | ⟨rfl, rfl⟩ | ⟨rfl, rfl⟩ | ⟨rfl, rfl⟩
    · exact vcslaw0
    · exact vcslaw1
    · exact vcslaw2
    · exact vcslaw3
    · exact vcslaw4
  · intro k C h
    have := lk_mem h
    simp only [tmlaw, List.mem_cons, Prod.mk.injEq, List.not_mem_nil, or_false] at this
    rcases this with ⟨rfl, rfl⟩ | ⟨rfl, rfl⟩ | ⟨rfl, rfl⟩ | ⟨rfl, rfl⟩ | ⟨rfl, rfl⟩
    · exact lnlaw0
    · exact lnlaw1
    · exact lnlaw2
    · exact lnlaw3
    · exact lnlaw4
end Go.Proofs.Ytjgkaimgocnkmab.rise
