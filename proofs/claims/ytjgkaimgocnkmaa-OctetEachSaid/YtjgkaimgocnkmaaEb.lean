/- Layer octet: the law OctetEach. No condition. -/
import Derived.Test.YtjgkaimgocnkmaaEc
set_option linter.unusedVariables false
set_option linter.unusedSimpArgs false
set_option linter.deprecated false
namespace Go.Proofs.Ytjgkaimgocnkmaa.oct
open Go Go.Proofs.Ytjgkaimgocnkmaa.Sx
theorem told_eachz : Sx.Told oct.Φ cEach0 := told_auto (cs := [cWorks, cRRead]) (all_cons told_works (all_cons told_rread (all_nil))) 9000 (by kernel_rfl) (by kernel_rfl) (by kernel_rfl) (post_nil rfl) (by kernel_rfl) (by kernel_rfl)
noncomputable section
abbrev TTeach : Tab := T oct.Φ cEach.roms [cWorks, cRRead]
def teach1 : Cfg := { top := ⟨8, over (opqS 10000 104) [(0, (SV.rom 0 (IE.lit 0) (IE.len (LE.rom 0)) none)), (3, (SV.ptr 0 0)), (4, (SV.ptr 1 0)), (5, (SV.ptr 2 0)), (6, (SV.ptr 3 0)), (7, (SV.int .i64 (IE.var .i64 1000)))], ogt (loopTodo (bodyOf (T oct.Φ [] []) 8) 0), [], false, none⟩, rest := [], heap := [(0, .cells [(SV.int .i64 (IE.var .i64 1))] 3), (1, .cells [(SV.bool (BE.lit false))] 4), (2, .cells [(SV.const (Go.Value.slice none 0 0))] 57), (3, .cells [(SV.const (Go.Value.slice none 0 0))] 58)], next := 4, pc := .lit true :: ([] ++ [(BE.le (IE.lit 1) (IE.len (LE.rom 0))), (BE.le (IE.len (LE.rom 0)) (IE.lit 300)), (BE.le (IE.lit 0) (IE.var .i64 1000)), (BE.not (BE.le (IE.len (LE.rom 0)) (IE.var .i64 1000)))] ++ (.and (.lit true) (.lit true)) :: [.le (ln 0) (.rcap 0)]) }
def teach2 : Cfg := { top := ⟨8, over (opqS 10000 104) [(0, (SV.rom 0 (IE.lit 0) (IE.len (LE.rom 0)) none)), (3, (SV.ptr 0 0)), (4, (SV.ptr 1 0)), (5, (SV.ptr 2 0)), (6, (SV.ptr 3 0)), (7, (SV.int .i64 (IE.var .i64 1001)))], ogt (loopTodo (bodyOf (T oct.Φ [] []) 8) 0), [], false, none⟩, rest := [], heap := [(0, .cells [(SV.int .i64 (IE.var .i64 1))] 3), (1, .cells [(SV.bool (BE.lit false))] 4), (2, .cells [(SV.sll 5 6 1 (IE.lit 0) (IE.var .i64 1005) none)] 57), (3, .cells [(SV.sll 8 9 1 (IE.lit 0) (IE.var .i64 1005) none)] 58), (5, .rowl (LE.var 1002) (IE.var .i64 1005) [(CK.int .u64)] 22 6 1), (8, .rowl (LE.var 1004) (IE.var .i64 1005) [(CK.int .i64)] 3 9 1)], next := 10, pc := .lit true :: ([] ++ [(BE.le (IE.len (LE.rom 0)) (IE.lit 300)), (BE.le (IE.lit 1) (IE.len (LE.rom 0))), (BE.le (IE.len (LE.rom 0)) (IE.rcap 0)), (BE.le (IE.lit 0) (IE.var .i64 1001)), (BE.le (IE.var .i64 1001) (IE.len (LE.rom 0))), (BE.le (IE.lit 0) (IE.var .i64 1005))] ++ (.and (.lit true) (.lit true)) :: [.le (.var .i64 1005) (.lit 300)]) }
def teach3 : Cfg := { top := ⟨60, over (opqS 10000 64) [(0, (SV.ptr 21 0)), (4, (SV.int .u64 (IE.var .u64 11655))), (5, (SV.int .i64 (IE.lit 110))), (21, (SV.sll 11 12 1 (IE.var .i64 11649) (IE.sub (IE.len (LE.rom 0)) (IE.var .i64 11653)) (some (IE.var .i64 11651)))), (22, (SV.int .i64 (IE.sub (IE.len (LE.rom 0)) (IE.var .i64 11653)))), (23, (SV.int .i64 (IE.var .i64 11652)))], ogt (loopTodo (bodyOf (T oct.Φ [] []) 60) 0), [], false, none⟩, rest := [⟨83, over (opqS 30000 25) [(0, (SV.func (Go.Fn.yield 20) [] [])), (3, (SV.ptr 21 0)), (4, (SV.int .i64 (IE.var .i64 11653)))], ogt (callTodo (bodyOf (T oct.Φ [] []) 83) 2 [0, 1, 2, 3, 4, 5]), [], false, none⟩, ⟨67, over (opqS 50000 15) [], ogt (rangeTodo (bodyOf (T oct.Φ [] []) 67) 0 20), [19], false, none⟩, ⟨8, over (opqS 70000 104) [(3, (SV.ptr 0 0)), (4, (SV.ptr 1 0)), (5, (SV.ptr 2 0)), (6, (SV.ptr 3 0)), (11, (SV.func (Go.Fn.func 67) [] [(SV.ptr 10 0)])), (12, (SV.ptr 13 0)), (13, (SV.ptr 14 0))], ogt (rangeTodo (bodyOf (T oct.Φ [] []) 8) 0 16), [15], false, none⟩], heap := [(21, .cells [(SV.sll 11 12 1 (IE.lit 0) (IE.len (LE.rom 0)) none), (SV.int .i64 (IE.var .i64 11653))] 110), (11, .rowl (LE.rom 0) (IE.len (LE.rom 0)) [(CK.int .u8)] 5 12 1), (20, .loop .ready none 67 (over (opqS 240000 15) [(2, (SV.ptr 17 0))]) [8, 9] ((rangeCode (bodyOf (T oct.Φ [] []) 67) 0).getD (.skip, .skip)).1 ((rangeCode (bodyOf (T oct.Φ [] []) 67) 0).getD (.skip, .skip)).2 19), (19, .defd true), (15, .defd true), (16, .loop .ready none 8 (over (opqS 300000 104) [(3, (SV.ptr 0 0)), (4, (SV.ptr 1 0)), (5, (SV.ptr 2 0)), (6, (SV.ptr 3 0)), (12, (SV.ptr 13 0)), (13, (SV.ptr 14 0))]) [50, 51] ((rangeCode (bodyOf (T oct.Φ [] []) 8) 0).getD (.skip, .skip)).1 ((rangeCode (bodyOf (T oct.Φ [] []) 8) 0).getD (.skip, .skip)).2 15), (0, .cells [(SV.int .i64 (IE.var .i64 1))] 3), (1, .cells [(SV.bool (BE.lit false))] 4), (2, .cells [(SV.sll 5 6 1 (IE.lit 0) (IE.var .i64 1005) none)] 57), (3, .cells [(SV.sll 8 9 1 (IE.lit 0) (IE.var .i64 1005) none)] 58), (10, .cells [(SV.sll 11 12 1 (IE.lit 0) (IE.len (LE.rom 0)) none)] 104), (13, .cells [(SV.int .i64 (IE.lit 0))] 3), (14, .cells [(SV.int .i64 (IE.var .i64 11654))] 3), (17, .cells [(SV.func (Go.Fn.yield 16) [] [])] 120), (5, .rowl (LE.var 1002) (IE.var .i64 1005) [(CK.int .u64)] 22 6 1), (8, .rowl (LE.var 1004) (IE.var .i64 1005) [(CK.int .i64)] 3 9 1)], next := 22, pc := .lit true :: ([.le (.var .i64 11649) (.var .i64 11653)] ++ [(BE.le (IE.len (LE.rom 0)) (IE.rcap 0)), (BE.le (IE.lit 1) (IE.len (LE.rom 0))), (BE.le (IE.len (LE.rom 0)) (IE.lit 300)), (BE.le (IE.lit 0) (IE.var .i64 1005)), (BE.le (IE.var .i64 1005) (IE.lit 300)), (BE.le (IE.lit 0) (IE.var .i64 11649)), (BE.le (IE.lit 0) (IE.var .i64 11651)), (BE.le (IE.lit 0) (IE.var .i64 11652)), (BE.le (IE.lit 0) (IE.var .i64 11653)), (BE.le (IE.var .i64 11653) (IE.len (LE.rom 0))), (BE.le (IE.lit 0) (IE.var .i64 11654))] ++ (.and (.lit true) (.lit true)) :: [.le (.var .i64 11652) (.lit 9), .le (.var .i64 11653) (.lit 300), .le (.var .i64 11654) (.lit 300)]) }
def teach4 : Cfg := { top := ⟨8, over (opqS 10000 104) [(3, (SV.ptr 0 0)), (4, (SV.ptr 1 0)), (5, (SV.ptr 2 0)), (6, (SV.ptr 3 0)), (11, (SV.func (Go.Fn.func 67) [] [(SV.ptr 10 0)])), (12, (SV.ptr 13 0))], ogt (atTodo (bodyOf (T oct.Φ [] []) 8) 26), [15], false, none⟩, rest := [], heap := [(15, .defd true), (0, .cells [(SV.int .i64 (IE.var .i64 1))] 3), (1, .cells [(SV.bool (BE.lit false))] 4), (2, .cells [(SV.sll 5 6 1 (IE.lit 0) (IE.var .i64 1005) none)] 57), (3, .cells [(SV.sll 8 9 1 (IE.lit 0) (IE.var .i64 1005) none)] 58), (10, .cells [(SV.sll 11 12 1 (IE.lit 0) (IE.len (LE.rom 0)) none)] 104), (13, .cells [(SV.int .i64 (IE.lit 0))] 3), (5, .rowl (LE.var 1002) (IE.var .i64 1005) [(CK.int .u64)] 22 6 1), (8, .rowl (LE.var 1004) (IE.var .i64 1005) [(CK.int .i64)] 3 9 1), (11, .rowl (LE.rom 0) (IE.len (LE.rom 0)) [(CK.int .u8)] 5 12 1)], next := 16, pc := .lit true :: ([] ++ [(BE.le (IE.len (LE.rom 0)) (IE.lit 300)), (BE.le (IE.lit 1) (IE.len (LE.rom 0))), (BE.le (IE.len (LE.rom 0)) (IE.rcap 0)), (BE.le (IE.lit 0) (IE.var .i64 1005)), (BE.le (IE.var .i64 1005) (IE.lit 300))] ++ (.and (.lit true) (.lit true)) :: [.le (.var .i64 1005) (.lit 300)]) }
def teach5 : Cfg := { top := ⟨60, over (opqS 10000 64) [(0, (SV.ptr 24 0)), (4, (SV.int .u64 (IE.var .u64 11655))), (5, (SV.int .i64 (IE.lit 110))), (21, (SV.sll 11 12 1 (IE.var .i64 11649) (IE.sub (IE.len (LE.rom 0)) (IE.var .i64 11653)) (some (IE.var .i64 11651)))), (22, (SV.int .i64 (IE.sub (IE.len (LE.rom 0)) (IE.var .i64 11653)))), (23, (SV.int .i64 (IE.var .i64 11652)))], ogt (loopTodo (bodyOf (T oct.Φ [] []) 60) 0), [], false, none⟩, rest := [⟨83, over (opqS 30000 25) [(0, (SV.func (Go.Fn.yield 23) [] [])), (3, (SV.ptr 24 0)), (4, (SV.int .i64 (IE.var .i64 11653)))], ogt (callTodo (bodyOf (T oct.Φ [] []) 83) 2 [0, 1, 2, 3, 4, 5]), [], false, none⟩, ⟨67, over (opqS 50000 15) [], ogt (rangeTodo (bodyOf (T oct.Φ [] []) 67) 0 23), [22], false, none⟩, ⟨8, over (opqS 70000 104) [(3, (SV.ptr 0 0)), (4, (SV.ptr 1 0)), (5, (SV.ptr 2 0)), (6, (SV.ptr 3 0)), (11, (SV.func (Go.Fn.func 67) [] [(SV.ptr 10 0)])), (12, (SV.ptr 16 0)), (13, (SV.ptr 17 0))], ogt (rangeTodo (bodyOf (T oct.Φ [] []) 8) 0 19), [18, 15], false, none⟩], heap := [(24, .cells [(SV.sll 11 12 1 (IE.lit 0) (IE.len (LE.rom 0)) none), (SV.int .i64 (IE.var .i64 11653))] 110), (11, .rowl (LE.rom 0) (IE.len (LE.rom 0)) [(CK.int .u8)] 5 12 1), (23, .loop .ready none 67 (over (opqS 240000 15) [(2, (SV.ptr 20 0))]) [8, 9] ((rangeCode (bodyOf (T oct.Φ [] []) 67) 0).getD (.skip, .skip)).1 ((rangeCode (bodyOf (T oct.Φ [] []) 67) 0).getD (.skip, .skip)).2 22), (22, .defd true), (18, .defd true), (15, .defd true), (19, .loop .ready none 8 (over (opqS 320000 104) [(3, (SV.ptr 0 0)), (4, (SV.ptr 1 0)), (5, (SV.ptr 2 0)), (6, (SV.ptr 3 0)), (12, (SV.ptr 16 0)), (13, (SV.ptr 17 0))]) [50, 51] ((rangeCode (bodyOf (T oct.Φ [] []) 8) 0).getD (.skip, .skip)).1 ((rangeCode (bodyOf (T oct.Φ [] []) 8) 0).getD (.skip, .skip)).2 18), (0, .cells [(SV.int .i64 (IE.var .i64 1))] 3), (1, .cells [(SV.bool (BE.lit false))] 4), (2, .cells [(SV.sll 5 6 1 (IE.lit 0) (IE.var .i64 1005) none)] 57), (3, .cells [(SV.sll 8 9 1 (IE.lit 0) (IE.var .i64 1005) none)] 58), (10, .cells [(SV.sll 11 12 1 (IE.lit 0) (IE.len (LE.rom 0)) none)] 104), (16, .cells [(SV.int .i64 (IE.lit 1))] 3), (17, .cells [(SV.int .i64 (IE.var .i64 11654))] 3), (20, .cells [(SV.func (Go.Fn.yield 19) [] [])] 120), (5, .rowl (LE.var 1002) (IE.var .i64 1005) [(CK.int .u64)] 22 6 1), (8, .rowl (LE.var 1004) (IE.var .i64 1005) [(CK.int .i64)] 3 9 1)], next := 25, pc := .lit true :: ([.le (.var .i64 11649) (.var .i64 11653)] ++ [(BE.le (IE.len (LE.rom 0)) (IE.rcap 0)), (BE.le (IE.lit 1) (IE.len (LE.rom 0))), (BE.le (IE.len (LE.rom 0)) (IE.lit 300)), (BE.le (IE.lit 0) (IE.var .i64 1005)), (BE.le (IE.var .i64 1005) (IE.lit 300)), (BE.le (IE.lit 0) (IE.var .i64 11649)), (BE.le (IE.lit 0) (IE.var .i64 11651)), (BE.le (IE.lit 0) (IE.var .i64 11652)), (BE.le (IE.lit 0) (IE.var .i64 11653)), (BE.le (IE.var .i64 11653) (IE.len (LE.rom 0))), (BE.le (IE.lit 0) (IE.var .i64 11654))] ++ (.and (.lit true) (.lit true)) :: [.le (.var .i64 11652) (.lit 9), .le (.var .i64 11653) (.lit 300), .le (.var .i64 11654) (.lit 300)]) }
def teach6 : Cfg := { top := ⟨60, over (opqS 10000 64) [(0, (SV.ptr 15 0)), (4, (SV.int .u64 (IE.var .u64 11649))), (5, (SV.int .i64 (IE.lit 110))), (21, (SV.sll 5 6 1 (IE.lit 0) (IE.len (LE.rom 0)) (some (IE.len (LE.rom 0))))), (22, (SV.int .i64 (IE.len (LE.rom 0)))), (23, (SV.int .i64 (IE.var .i64 11650)))], ogt (loopTodo (bodyOf (T oct.Φ [] []) 60) 0), [], false, none⟩, rest := [⟨83, over (opqS 30000 25) [(0, (SV.func (Go.Fn.yield 14) [] [])), (3, (SV.ptr 15 0)), (4, (SV.int .i64 (IE.lit 0)))], ogt (callTodo (bodyOf (T oct.Φ [] []) 83) 2 [0, 1, 2, 3, 4, 5]), [], false, none⟩, ⟨67, over (opqS 50000 15) [], ogt (rangeTodo (bodyOf (T oct.Φ [] []) 67) 0 14), [13], false, none⟩, ⟨8, over (opqS 70000 104) [(3, (SV.ptr 0 0)), (4, (SV.ptr 1 0)), (5, (SV.ptr 2 0)), (6, (SV.ptr 3 0)), (11, (SV.func (Go.Fn.func 67) [] [(SV.ptr 4 0)])), (12, (SV.ptr 7 0)), (13, (SV.ptr 8 0))], ogt (rangeTodo (bodyOf (T oct.Φ [] []) 8) 0 10), [9], false, none⟩], heap := [(15, .cells [(SV.sll 5 6 1 (IE.lit 0) (IE.len (LE.rom 0)) none), (SV.int .i64 (IE.lit 0))] 110), (5, .rowl (LE.rom 0) (IE.len (LE.rom 0)) [(CK.int .u8)] 5 6 1), (14, .loop .ready none 67 (over (opqS 240000 15) [(2, (SV.ptr 11 0))]) [8, 9] ((rangeCode (bodyOf (T oct.Φ [] []) 67) 0).getD (.skip, .skip)).1 ((rangeCode (bodyOf (T oct.Φ [] []) 67) 0).getD (.skip, .skip)).2 13), (13, .defd true), (9, .defd true), (10, .loop .ready none 8 (over (opqS 300000 104) [(3, (SV.ptr 0 0)), (4, (SV.ptr 1 0)), (5, (SV.ptr 2 0)), (6, (SV.ptr 3 0)), (12, (SV.ptr 7 0)), (13, (SV.ptr 8 0))]) [50, 51] ((rangeCode (bodyOf (T oct.Φ [] []) 8) 0).getD (.skip, .skip)).1 ((rangeCode (bodyOf (T oct.Φ [] []) 8) 0).getD (.skip, .skip)).2 9), (0, .cells [(SV.int .i64 (IE.var .i64 1))] 3), (1, .cells [(SV.bool (BE.lit false))] 4), (2, .cells [(SV.const (Go.Value.slice none 0 0))] 57), (3, .cells [(SV.const (Go.Value.slice none 0 0))] 58), (4, .cells [(SV.sll 5 6 1 (IE.lit 0) (IE.len (LE.rom 0)) none)] 104), (7, .cells [(SV.int .i64 (IE.lit 0))] 3), (8, .cells [(SV.int .i64 (IE.lit 0))] 3), (11, .cells [(SV.func (Go.Fn.yield 10) [] [])] 120)], next := 16, pc := .lit true :: ([] ++ [(BE.le (IE.len (LE.rom 0)) (IE.lit 300)), (BE.le (IE.lit 1) (IE.len (LE.rom 0))), (BE.le (IE.len (LE.rom 0)) (IE.rcap 0)), (BE.le (IE.lit 0) (IE.var .i64 11650)), (BE.le (IE.var .i64 11650) (IE.len (LE.rom 0)))]) }
def teach7 : Cfg := { top := ⟨60, over (opqS 10000 64) [(0, (SV.ptr 24 0)), (4, (SV.int .u64 (IE.var .u64 301649))), (5, (SV.int .i64 (IE.lit 110))), (21, (SV.sll 5 6 1 (IE.lit 0) (IE.len (LE.rom 0)) (some (IE.len (LE.rom 0))))), (22, (SV.int .i64 (IE.len (LE.rom 0)))), (23, (SV.int .i64 (IE.var .i64 301650)))], ogt (loopTodo (bodyOf (T oct.Φ [] []) 60) 0), [], false, none⟩, rest := [⟨83, over (opqS 30000 25) [(0, (SV.func (Go.Fn.yield 23) [] [])), (3, (SV.ptr 24 0)), (4, (SV.int .i64 (IE.lit 0)))], ogt (callTodo (bodyOf (T oct.Φ [] []) 83) 2 [0, 1, 2, 3, 4, 5]), [], false, none⟩, ⟨67, over (opqS 50000 15) [], ogt (rangeTodo (bodyOf (T oct.Φ [] []) 67) 0 23), [22], false, none⟩, ⟨8, over (opqS 70000 104) [(3, (SV.ptr 0 0)), (4, (SV.ptr 1 0)), (5, (SV.ptr 2 0)), (6, (SV.ptr 3 0)), (11, (SV.func (Go.Fn.func 67) [] [(SV.ptr 4 0)])), (12, (SV.ptr 16 0)), (13, (SV.ptr 17 0))], ogt (rangeTodo (bodyOf (T oct.Φ [] []) 8) 0 19), [18, 9], false, none⟩], heap := [(24, .cells [(SV.sll 5 6 1 (IE.lit 0) (IE.len (LE.rom 0)) none), (SV.int .i64 (IE.lit 0))] 110), (5, .rowl (LE.rom 0) (IE.len (LE.rom 0)) [(CK.int .u8)] 5 6 1), (23, .loop .ready none 67 (over (opqS 240000 15) [(2, (SV.ptr 20 0))]) [8, 9] ((rangeCode (bodyOf (T oct.Φ [] []) 67) 0).getD (.skip, .skip)).1 ((rangeCode (bodyOf (T oct.Φ [] []) 67) 0).getD (.skip, .skip)).2 22), (22, .defd true), (18, .defd true), (9, .defd true), (19, .loop .ready none 8 (over (opqS 320000 104) [(3, (SV.ptr 0 0)), (4, (SV.ptr 1 0)), (5, (SV.ptr 2 0)), (6, (SV.ptr 3 0)), (12, (SV.ptr 16 0)), (13, (SV.ptr 17 0))]) [50, 51] ((rangeCode (bodyOf (T oct.Φ [] []) 8) 0).getD (.skip, .skip)).1 ((rangeCode (bodyOf (T oct.Φ [] []) 8) 0).getD (.skip, .skip)).2 18), (0, .cells [(SV.int .i64 (IE.var .i64 1))] 3), (1, .cells [(SV.bool (BE.lit false))] 4), (2, .cells [(SV.const (Go.Value.slice none 0 0))] 57), (3, .cells [(SV.const (Go.Value.slice none 0 0))] 58), (4, .cells [(SV.sll 5 6 1 (IE.lit 0) (IE.len (LE.rom 0)) none)] 104), (16, .cells [(SV.int .i64 (IE.lit 1))] 3), (17, .cells [(SV.int .i64 (IE.lit 0))] 3), (20, .cells [(SV.func (Go.Fn.yield 19) [] [])] 120)], next := 25, pc := .lit true :: ([] ++ [(BE.le (IE.len (LE.rom 0)) (IE.rcap 0)), (BE.le (IE.lit 1) (IE.len (LE.rom 0))), (BE.le (IE.len (LE.rom 0)) (IE.lit 300)), (BE.le (IE.lit 0) (IE.var .i64 301650)), (BE.le (IE.var .i64 301650) (IE.len (LE.rom 0)))]) }
def tmeach : List (Nat × Cfg) := [(0, startF 8 cEach.pat (.lit true :: cEach.pre)), (1, teach1), (2, teach2), (3, teach3), (4, teach4), (5, teach5), (6, teach6), (7, teach7)]
def seleach : Sel := [(8, 7000001, 643000, 1), (8, 7000001, 644000, 2), (60, 1, 3020098948003, 3), (8, 1026, 20000644000, 4), (60, 1, 3030098948003, 5), (60, 1, 3020098947003, 6), (60, 1, 3030098947003, 7)]
def pceach0_0 : List BE := [(BE.lit true), (BE.le (IE.lit 1) (IE.len (LE.rom 0)))]
def weach0_0 : VW := (VW.cut 1 ((BE.le (IE.len (LE.rom 0)) (IE.lit 300)) :: pceach0_0) (Sx.Sub.mk [(.i64, (1000, (IE.lit 0)))] [] [] [] [] []))
def weach0_1 : VW := (VW.done ((BE.not (BE.le (IE.len (LE.rom 0)) (IE.lit 300))) :: pceach0_0) (some []))
def vweach0 : List VW := [weach0_0, weach0_1]
def pceach1_0 : List BE := [(BE.le (IE.lit 0) (IE.fn .i64 4 (AL.lst (LE.drop (LE.rom 0) (IE.var .i64 1000)) AL.nil))), (BE.le (IE.fn .i64 4 (AL.lst (LE.drop (LE.rom 0) (IE.var .i64 1000)) AL.nil)) (IE.sub (IE.len (LE.rom 0)) (IE.var .i64 1000))), (BE.lit true), (BE.le (IE.lit 1) (IE.len (LE.rom 0))), (BE.le (IE.len (LE.rom 0)) (IE.lit 300)), (BE.le (IE.lit 0) (IE.var .i64 1000)), (BE.not (BE.le (IE.len (LE.rom 0)) (IE.var .i64 1000))), (BE.and (BE.lit true) (BE.lit true)), (BE.le (IE.len (LE.rom 0)) (IE.rcap 0))]
def weach1_0 : VW := (VW.cut 2 ((BE.eq (IE.fn .i64 5 (AL.lst (LE.drop (LE.rom 0) (IE.var .i64 1000)) AL.nil)) (IE.lit 0)) :: pceach1_0) (Sx.Sub.mk [(.i64, (1005, (IE.lit 1))), (.i64, (1001, (IE.add (IE.var .i64 1000) (IE.fn .i64 4 (AL.lst (LE.drop (LE.rom 0) (IE.var .i64 1000)) AL.nil)))))] [] [(1004, (LE.one (AL.int .i64 (IE.var .i64 1000) AL.nil))), (1002, (LE.one (AL.int .u64 (IE.fn .u64 3 (AL.lst (LE.drop (LE.rom 0) (IE.var .i64 1000)) AL.nil)) AL.nil)))] [] [] []))
def weach1_1 : VW := (VW.cut 6 ((BE.not (BE.eq (IE.fn .i64 5 (AL.lst (LE.drop (LE.rom 0) (IE.var .i64 1000)) AL.nil)) (IE.lit 0))) :: pceach1_0) (Sx.Sub.mk [(.i64, (11650, (IE.lit 0))), (.u64, (11649, (IE.lit 0)))] [] [] [] [] []))
def vweach1 : List VW := [weach1_0, weach1_1]
def pceach2_0 : List BE := [(BE.lit true), (BE.le (IE.len (LE.rom 0)) (IE.lit 300)), (BE.le (IE.lit 1) (IE.len (LE.rom 0))), (BE.le (IE.len (LE.rom 0)) (IE.rcap 0)), (BE.le (IE.lit 0) (IE.var .i64 1001)), (BE.le (IE.var .i64 1001) (IE.len (LE.rom 0))), (BE.le (IE.lit 0) (IE.var .i64 1005)), (BE.and (BE.lit true) (BE.lit true)), (BE.le (IE.var .i64 1005) (IE.lit 300))]
def pceach2_1 : List BE := ((BE.le (IE.lit 0) (IE.fn .i64 4 (AL.lst (LE.take (LE.rom 0) (IE.sub (IE.len (LE.rom 0)) (IE.var .i64 1001))) AL.nil))) :: (BE.le (IE.fn .i64 4 (AL.lst (LE.take (LE.rom 0) (IE.sub (IE.len (LE.rom 0)) (IE.var .i64 1001))) AL.nil)) (IE.sub (IE.len (LE.rom 0)) (IE.var .i64 1001))) :: (BE.eq (IE.rcap 0) (IE.var .i64 1001)) :: pceach2_0)
def pceach2_2 : List BE := ((BE.le (IE.lit 0) (IE.fn .i64 4 (AL.lst (LE.drop (LE.rom 0) (IE.var .i64 1001)) AL.nil))) :: (BE.le (IE.fn .i64 4 (AL.lst (LE.drop (LE.rom 0) (IE.var .i64 1001)) AL.nil)) (IE.sub (IE.len (LE.rom 0)) (IE.var .i64 1001))) :: (BE.not (BE.eq (IE.rcap 0) (IE.var .i64 1001))) :: pceach2_0)
def weach2_0 : VW := (VW.cut 2 ((BE.eq (IE.fn .i64 5 (AL.lst (LE.take (LE.rom 0) (IE.sub (IE.len (LE.rom 0)) (IE.var .i64 1001))) AL.nil)) (IE.lit 0)) :: pceach2_1) (Sx.Sub.mk [(.i64, (1005, (IE.add (IE.var .i64 1005) (IE.lit 1)))), (.i64, (1001, (IE.add (IE.var .i64 1001) (IE.fn .i64 4 (AL.lst (LE.take (LE.rom 0) (IE.sub (IE.len (LE.rom 0)) (IE.var .i64 1001))) AL.nil)))))] [] [(1004, (LE.cat (LE.var 1004) (LE.one (AL.int .i64 (IE.var .i64 1001) AL.nil)))), (1002, (LE.cat (LE.var 1002) (LE.one (AL.int .u64 (IE.fn .u64 3 (AL.lst (LE.take (LE.rom 0) (IE.sub (IE.len (LE.rom 0)) (IE.var .i64 1001))) AL.nil)) AL.nil))))] [] [] []))
def weach2_1 : VW := (VW.cut 3 ((BE.not (BE.eq (IE.fn .i64 5 (AL.lst (LE.take (LE.rom 0) (IE.sub (IE.len (LE.rom 0)) (IE.var .i64 1001))) AL.nil)) (IE.lit 0))) :: pceach2_1) (Sx.Sub.mk [(.i64, (11654, (IE.lit 0))), (.i64, (1005, (IE.var .i64 1005))), (.i64, (11653, (IE.lit 0))), (.i64, (11652, (IE.lit 0))), (.i64, (11651, (IE.len (LE.rom 0)))), (.i64, (11649, (IE.lit 0))), (.u64, (11655, (IE.lit 0)))] [] [(1004, (LE.var 1004)), (1002, (LE.var 1002))] [] [] []))
def weach2_2 : VW := (VW.cut 2 ((BE.eq (IE.fn .i64 5 (AL.lst (LE.drop (LE.rom 0) (IE.var .i64 1001)) AL.nil)) (IE.lit 0)) :: pceach2_2) (Sx.Sub.mk [(.i64, (1005, (IE.add (IE.var .i64 1005) (IE.lit 1)))), (.i64, (1001, (IE.add (IE.var .i64 1001) (IE.fn .i64 4 (AL.lst (LE.drop (LE.rom 0) (IE.var .i64 1001)) AL.nil)))))] [] [(1004, (LE.cat (LE.var 1004) (LE.one (AL.int .i64 (IE.var .i64 1001) AL.nil)))), (1002, (LE.cat (LE.var 1002) (LE.one (AL.int .u64 (IE.fn .u64 3 (AL.lst (LE.drop (LE.rom 0) (IE.var .i64 1001)) AL.nil)) AL.nil))))] [] [] []))
def weach2_3 : VW := (VW.cut 3 ((BE.not (BE.eq (IE.fn .i64 5 (AL.lst (LE.drop (LE.rom 0) (IE.var .i64 1001)) AL.nil)) (IE.lit 0))) :: pceach2_2) (Sx.Sub.mk [(.i64, (11654, (IE.lit 0))), (.i64, (1005, (IE.var .i64 1005))), (.i64, (11653, (IE.lit 0))), (.i64, (11652, (IE.lit 0))), (.i64, (11651, (IE.len (LE.rom 0)))), (.i64, (11649, (IE.lit 0))), (.u64, (11655, (IE.lit 0)))] [] [(1004, (LE.var 1004)), (1002, (LE.var 1002))] [] [] []))
def vweach2 : List VW := [weach2_0, weach2_1, weach2_2, weach2_3]
def pceach3_0 : List BE := [(BE.lit true), (BE.le (IE.var .i64 11649) (IE.var .i64 11653)), (BE.le (IE.len (LE.rom 0)) (IE.rcap 0)), (BE.le (IE.lit 1) (IE.len (LE.rom 0))), (BE.le (IE.len (LE.rom 0)) (IE.lit 300)), (BE.le (IE.lit 0) (IE.var .i64 1005)), (BE.le (IE.var .i64 1005) (IE.lit 300)), (BE.le (IE.lit 0) (IE.var .i64 11649)), (BE.le (IE.lit 0) (IE.var .i64 11651)), (BE.le (IE.lit 0) (IE.var .i64 11652)), (BE.le (IE.lit 0) (IE.var .i64 11653)), (BE.le (IE.var .i64 11653) (IE.len (LE.rom 0))), (BE.le (IE.lit 0) (IE.var .i64 11654)), (BE.and (BE.lit true) (BE.lit true)), (BE.le (IE.var .i64 11652) (IE.lit 9)), (BE.le (IE.var .i64 11653) (IE.lit 300)), (BE.le (IE.var .i64 11654) (IE.lit 300))]
def pceach3_1 : List BE := ((BE.le (IE.sub (IE.len (LE.rom 0)) (IE.var .i64 11653)) (IE.var .i64 11652)) :: pceach3_0)
def pceach3_2 : List BE := ((BE.not (BE.le (IE.sub (IE.len (LE.rom 0)) (IE.var .i64 11653)) (IE.var .i64 11652))) :: pceach3_0)
def pceach3_3 : List BE := ((BE.le (IE.lit 1) (IE.var .i64 1)) :: pceach3_1)
def pceach3_4 : List BE := ((BE.not (BE.le (IE.lit 1) (IE.var .i64 1))) :: pceach3_1)
def pceach3_5 : List BE := ((BE.le (IE.var .i64 11652) (IE.lit 0)) :: pceach3_2)
def pceach3_6 : List BE := ((BE.not (BE.le (IE.var .i64 11652) (IE.lit 0))) :: pceach3_2)
def pceach3_7 : List BE := ((BE.le (IE.var .i64 1005) (IE.var .i64 1)) :: pceach3_3)
def pceach3_8 : List BE := ((BE.not (BE.le (IE.var .i64 1005) (IE.var .i64 1))) :: pceach3_3)
def pceach3_9 : List BE := ((BE.le (IE.var .i64 1005) (IE.lit 1)) :: pceach3_4)
def pceach3_10 : List BE := ((BE.not (BE.le (IE.var .i64 1005) (IE.lit 1))) :: pceach3_4)
def pceach3_11 : List BE := ((BE.not (BE.le (IE.lit 128) (IE.cel .u8 (LE.rom 0) (IE.add (IE.var .i64 11649) (IE.var .i64 11652)) 0))) :: pceach3_5)
def pceach3_12 : List BE := ((BE.eq (IE.cel .u8 (LE.rom 0) (IE.add (IE.var .i64 11649) (IE.var .i64 11652)) 0) (IE.lit 0)) :: pceach3_6)
def pceach3_13 : List BE := ((BE.not (BE.eq (IE.cel .u8 (LE.rom 0) (IE.add (IE.var .i64 11649) (IE.var .i64 11652)) 0) (IE.lit 0))) :: pceach3_6)
def pceach3_14 : List BE := ((BE.not (BE.le (IE.var .i64 1005) (IE.var .i64 11654))) :: pceach3_11)
def pceach3_15 : List BE := ((BE.le (IE.lit 1) (IE.var .i64 1)) :: pceach3_12)
def pceach3_16 : List BE := ((BE.not (BE.le (IE.lit 1) (IE.var .i64 1))) :: pceach3_12)
def pceach3_17 : List BE := ((BE.eq (IE.var .i64 11652) (IE.lit 9)) :: pceach3_13)
def pceach3_18 : List BE := ((BE.not (BE.eq (IE.var .i64 11652) (IE.lit 9))) :: pceach3_13)
def pceach3_19 : List BE := ((BE.eq (IE.var .i64 11653) (IE.cel .i64 (LE.var 1004) (IE.var .i64 11654) 0)) :: pceach3_14)
def pceach3_20 : List BE := ((BE.le (IE.var .i64 1005) (IE.var .i64 1)) :: pceach3_15)
def pceach3_21 : List BE := ((BE.not (BE.le (IE.var .i64 1005) (IE.var .i64 1))) :: pceach3_15)
def pceach3_22 : List BE := ((BE.le (IE.var .i64 1005) (IE.lit 1)) :: pceach3_16)
def pceach3_23 : List BE := ((BE.not (BE.le (IE.var .i64 1005) (IE.lit 1))) :: pceach3_16)
def pceach3_24 : List BE := ((BE.le (IE.cel .u8 (LE.rom 0) (IE.add (IE.var .i64 11649) (IE.var .i64 11652)) 0) (IE.lit 1)) :: pceach3_17)
def pceach3_25 : List BE := ((BE.not (BE.le (IE.cel .u8 (LE.rom 0) (IE.add (IE.var .i64 11649) (IE.var .i64 11652)) 0) (IE.lit 1))) :: pceach3_17)
def pceach3_26 : List BE := ((BE.not (BE.le (IE.lit 128) (IE.cel .u8 (LE.rom 0) (IE.add (IE.var .i64 11649) (IE.var .i64 11652)) 0))) :: pceach3_18)
def pceach3_27 : List BE := ((BE.eq (IE.bin BinOp.or .u64 (IE.var .u64 11655) (IE.bin BinOp.shl .u64 (IE.bin BinOp.and .u8 (IE.cel .u8 (LE.rom 0) (IE.add (IE.var .i64 11649) (IE.var .i64 11652)) 0) (IE.lit 127)) (IE.mul (IE.lit 7) (IE.var .i64 11652)))) (IE.cel .u64 (LE.var 1002) (IE.var .i64 11654) 0)) :: pceach3_19)
def pceach3_28 : List BE := ((BE.not (BE.le (IE.var .i64 1005) (IE.var .i64 11654))) :: pceach3_24)
def pceach3_29 : List BE := ((BE.le (IE.lit 1) (IE.var .i64 1)) :: pceach3_25)
def pceach3_30 : List BE := ((BE.not (BE.le (IE.lit 1) (IE.var .i64 1))) :: pceach3_25)
def pceach3_31 : List BE := ((BE.not (BE.le (IE.var .i64 1005) (IE.var .i64 11654))) :: pceach3_26)
def pceach3_32 : List BE := ((BE.le (IE.var .i64 1) (IE.add (IE.var .i64 11654) (IE.lit 1))) :: pceach3_27)
def pceach3_33 : List BE := ((BE.not (BE.le (IE.var .i64 1) (IE.add (IE.var .i64 11654) (IE.lit 1)))) :: pceach3_27)
def pceach3_34 : List BE := ((BE.eq (IE.var .i64 11653) (IE.cel .i64 (LE.var 1004) (IE.var .i64 11654) 0)) :: pceach3_28)
def pceach3_35 : List BE := ((BE.le (IE.var .i64 1005) (IE.var .i64 1)) :: pceach3_29)
def pceach3_36 : List BE := ((BE.not (BE.le (IE.var .i64 1005) (IE.var .i64 1))) :: pceach3_29)
def pceach3_37 : List BE := ((BE.le (IE.var .i64 1005) (IE.lit 1)) :: pceach3_30)
def pceach3_38 : List BE := ((BE.not (BE.le (IE.var .i64 1005) (IE.lit 1))) :: pceach3_30)
def pceach3_39 : List BE := ((BE.eq (IE.var .i64 11653) (IE.cel .i64 (LE.var 1004) (IE.var .i64 11654) 0)) :: pceach3_31)
def pceach3_40 : List BE := ((BE.le (IE.lit 1) (IE.var .i64 1)) :: pceach3_32)
def pceach3_41 : List BE := ((BE.not (BE.le (IE.lit 1) (IE.var .i64 1))) :: pceach3_32)
def pceach3_42 : List BE := ((BE.eq (IE.bin BinOp.or .u64 (IE.var .u64 11655) (IE.bin BinOp.shl .u64 (IE.bin BinOp.and .u8 (IE.cel .u8 (LE.rom 0) (IE.add (IE.var .i64 11649) (IE.var .i64 11652)) 0) (IE.lit 127)) (IE.mul (IE.lit 7) (IE.var .i64 11652)))) (IE.cel .u64 (LE.var 1002) (IE.var .i64 11654) 0)) :: pceach3_34)
def pceach3_43 : List BE := ((BE.eq (IE.bin BinOp.or .u64 (IE.var .u64 11655) (IE.bin BinOp.shl .u64 (IE.bin BinOp.and .u8 (IE.cel .u8 (LE.rom 0) (IE.add (IE.var .i64 11649) (IE.var .i64 11652)) 0) (IE.lit 127)) (IE.mul (IE.lit 7) (IE.var .i64 11652)))) (IE.cel .u64 (LE.var 1002) (IE.var .i64 11654) 0)) :: pceach3_39)
def pceach3_44 : List BE := ((BE.not (BE.le (IE.var .i64 1005) (IE.var .i64 1))) :: pceach3_40)
def pceach3_45 : List BE := ((BE.not (BE.le (IE.var .i64 1005) (IE.lit 1))) :: pceach3_41)
def pceach3_46 : List BE := ((BE.le (IE.var .i64 1) (IE.add (IE.var .i64 11654) (IE.lit 1))) :: pceach3_42)
def pceach3_47 : List BE := ((BE.not (BE.le (IE.var .i64 1) (IE.add (IE.var .i64 11654) (IE.lit 1)))) :: pceach3_42)
def pceach3_48 : List BE := ((BE.le (IE.var .i64 1) (IE.add (IE.var .i64 11654) (IE.lit 1))) :: pceach3_43)
def pceach3_49 : List BE := ((BE.not (BE.le (IE.var .i64 1) (IE.add (IE.var .i64 11654) (IE.lit 1)))) :: pceach3_43)
def pceach3_50 : List BE := ((BE.le (IE.lit 1) (IE.var .i64 1)) :: pceach3_46)
def pceach3_51 : List BE := ((BE.not (BE.le (IE.lit 1) (IE.var .i64 1))) :: pceach3_46)
def pceach3_52 : List BE := ((BE.le (IE.lit 1) (IE.var .i64 1)) :: pceach3_48)
def pceach3_53 : List BE := ((BE.not (BE.le (IE.lit 1) (IE.var .i64 1))) :: pceach3_48)
def pceach3_54 : List BE := ((BE.not (BE.le (IE.var .i64 1005) (IE.var .i64 1))) :: pceach3_50)
def pceach3_55 : List BE := ((BE.not (BE.le (IE.var .i64 1005) (IE.lit 1))) :: pceach3_51)
def pceach3_56 : List BE := ((BE.not (BE.le (IE.var .i64 1005) (IE.var .i64 1))) :: pceach3_52)
def pceach3_57 : List BE := ((BE.not (BE.le (IE.var .i64 1005) (IE.lit 1))) :: pceach3_53)
def weach3_0 : VW := (VW.cut 4 ((BE.eq (IE.var .i64 11654) (IE.var .i64 1005)) :: pceach3_7) (Sx.Sub.mk [(.i64, (1005, (IE.var .i64 1005)))] [] [(1004, (LE.var 1004)), (1002, (LE.var 1002))] [] [] []))
def weach3_1 : VW := (VW.done ((BE.not (BE.eq (IE.var .i64 11654) (IE.var .i64 1005))) :: pceach3_7) (some [(G.b (BE.lit true) (BE.lit false))]))
def weach3_2 : VW := (VW.cut 4 ((BE.eq (IE.var .i64 11654) (IE.var .i64 1)) :: pceach3_8) (Sx.Sub.mk [(.i64, (1005, (IE.var .i64 1005)))] [] [(1004, (LE.var 1004)), (1002, (LE.var 1002))] [] [] []))
def weach3_3 : VW := (VW.done ((BE.not (BE.eq (IE.var .i64 11654) (IE.var .i64 1))) :: pceach3_8) (some [(G.b (BE.lit true) (BE.lit false))]))
def weach3_4 : VW := (VW.cut 4 ((BE.eq (IE.var .i64 11654) (IE.var .i64 1005)) :: pceach3_9) (Sx.Sub.mk [(.i64, (1005, (IE.var .i64 1005)))] [] [(1004, (LE.var 1004)), (1002, (LE.var 1002))] [] [] []))
def weach3_5 : VW := (VW.done ((BE.not (BE.eq (IE.var .i64 11654) (IE.var .i64 1005))) :: pceach3_9) (some [(G.b (BE.lit true) (BE.lit false))]))
def weach3_6 : VW := (VW.cut 4 ((BE.eq (IE.var .i64 11654) (IE.lit 1)) :: pceach3_10) (Sx.Sub.mk [(.i64, (1005, (IE.var .i64 1005)))] [] [(1004, (LE.var 1004)), (1002, (LE.var 1002))] [] [] []))
def weach3_7 : VW := (VW.done ((BE.not (BE.eq (IE.var .i64 11654) (IE.lit 1))) :: pceach3_10) (some [(G.b (BE.lit true) (BE.lit false))]))
def weach3_8 : VW := (VW.cut 3 ((BE.le (IE.lit 128) (IE.cel .u8 (LE.rom 0) (IE.add (IE.var .i64 11649) (IE.var .i64 11652)) 0)) :: pceach3_5) (Sx.Sub.mk [(.i64, (11654, (IE.var .i64 11654))), (.i64, (1005, (IE.var .i64 1005))), (.i64, (11653, (IE.var .i64 11653))), (.i64, (11652, (IE.add (IE.var .i64 11652) (IE.lit 1)))), (.i64, (11651, (IE.var .i64 11651))), (.i64, (11649, (IE.var .i64 11649))), (.u64, (11655, (IE.bin BinOp.or .u64 (IE.var .u64 11655) (IE.bin BinOp.shl .u64 (IE.bin BinOp.and .u8 (IE.cel .u8 (LE.rom 0) (IE.add (IE.var .i64 11649) (IE.var .i64 11652)) 0) (IE.lit 127)) (IE.mul (IE.lit 7) (IE.var .i64 11652))))))] [] [(1004, (LE.var 1004)), (1002, (LE.var 1002))] [] [] []))
def weach3_9 : VW := (VW.done ((BE.le (IE.var .i64 1005) (IE.var .i64 11654)) :: pceach3_11) (some [(G.b (BE.lit true) (BE.lit false))]))
def weach3_10 : VW := (VW.cut 4 ((BE.le (IE.var .i64 1005) (IE.var .i64 1)) :: pceach3_40) (Sx.Sub.mk [(.i64, (1005, (IE.var .i64 1005)))] [] [(1004, (LE.var 1004)), (1002, (LE.var 1002))] [] [] []))
def weach3_11 : VW := (VW.cut 4 ((BE.eq (IE.add (IE.var .i64 11654) (IE.lit 1)) (IE.var .i64 1)) :: pceach3_44) (Sx.Sub.mk [(.i64, (1005, (IE.var .i64 1005)))] [] [(1004, (LE.var 1004)), (1002, (LE.var 1002))] [] [] []))
def weach3_12 : VW := (VW.done ((BE.not (BE.eq (IE.add (IE.var .i64 11654) (IE.lit 1)) (IE.var .i64 1))) :: pceach3_44) (some [(G.b (BE.lit true) (BE.lit false))]))
def weach3_13 : VW := (VW.cut 4 ((BE.le (IE.var .i64 1005) (IE.lit 1)) :: pceach3_41) (Sx.Sub.mk [(.i64, (1005, (IE.var .i64 1005)))] [] [(1004, (LE.var 1004)), (1002, (LE.var 1002))] [] [] []))
def weach3_14 : VW := (VW.cut 4 ((BE.eq (IE.add (IE.var .i64 11654) (IE.lit 1)) (IE.lit 1)) :: pceach3_45) (Sx.Sub.mk [(.i64, (1005, (IE.var .i64 1005)))] [] [(1004, (LE.var 1004)), (1002, (LE.var 1002))] [] [] []))
def weach3_15 : VW := (VW.done ((BE.not (BE.eq (IE.add (IE.var .i64 11654) (IE.lit 1)) (IE.lit 1))) :: pceach3_45) (some [(G.b (BE.lit true) (BE.lit false))]))
def weach3_16 : VW := (VW.cut 3 ((BE.eq (IE.len (LE.rom 0)) (IE.add (IE.var .i64 11653) (IE.add (IE.var .i64 11652) (IE.lit 1)))) :: pceach3_33) (Sx.Sub.mk [(.i64, (11654, (IE.add (IE.var .i64 11654) (IE.lit 1)))), (.i64, (1005, (IE.var .i64 1005))), (.i64, (11653, (IE.add (IE.var .i64 11653) (IE.add (IE.var .i64 11652) (IE.lit 1))))), (.i64, (11652, (IE.lit 0))), (.i64, (11651, (IE.lit 0))), (.i64, (11649, (IE.lit 0))), (.u64, (11655, (IE.lit 0)))] [] [(1004, (LE.var 1004)), (1002, (LE.var 1002))] [] [] []))
def weach3_17 : VW := (VW.cut 3 ((BE.not (BE.eq (IE.len (LE.rom 0)) (IE.add (IE.var .i64 11653) (IE.add (IE.var .i64 11652) (IE.lit 1))))) :: pceach3_33) (Sx.Sub.mk [(.i64, (11654, (IE.add (IE.var .i64 11654) (IE.lit 1)))), (.i64, (1005, (IE.var .i64 1005))), (.i64, (11653, (IE.add (IE.var .i64 11653) (IE.add (IE.var .i64 11652) (IE.lit 1))))), (.i64, (11652, (IE.lit 0))), (.i64, (11651, (IE.sub (IE.len (LE.rom 0)) (IE.add (IE.var .i64 11653) (IE.add (IE.var .i64 11652) (IE.lit 1)))))), (.i64, (11649, (IE.add (IE.var .i64 11653) (IE.add (IE.var .i64 11652) (IE.lit 1))))), (.u64, (11655, (IE.lit 0)))] [] [(1004, (LE.var 1004)), (1002, (LE.var 1002))] [] [] []))
def weach3_18 : VW := (VW.done ((BE.not (BE.eq (IE.bin BinOp.or .u64 (IE.var .u64 11655) (IE.bin BinOp.shl .u64 (IE.bin BinOp.and .u8 (IE.cel .u8 (LE.rom 0) (IE.add (IE.var .i64 11649) (IE.var .i64 11652)) 0) (IE.lit 127)) (IE.mul (IE.lit 7) (IE.var .i64 11652)))) (IE.cel .u64 (LE.var 1002) (IE.var .i64 11654) 0))) :: pceach3_19) (some [(G.b (BE.lit true) (BE.lit false))]))
def weach3_19 : VW := (VW.done ((BE.not (BE.eq (IE.var .i64 11653) (IE.cel .i64 (LE.var 1004) (IE.var .i64 11654) 0))) :: pceach3_14) (some [(G.b (BE.lit true) (BE.lit false))]))
def weach3_20 : VW := (VW.cut 4 ((BE.eq (IE.var .i64 11654) (IE.var .i64 1005)) :: pceach3_20) (Sx.Sub.mk [(.i64, (1005, (IE.var .i64 1005)))] [] [(1004, (LE.var 1004)), (1002, (LE.var 1002))] [] [] []))
def weach3_21 : VW := (VW.done ((BE.not (BE.eq (IE.var .i64 11654) (IE.var .i64 1005))) :: pceach3_20) (some [(G.b (BE.lit true) (BE.lit false))]))
def weach3_22 : VW := (VW.cut 4 ((BE.eq (IE.var .i64 11654) (IE.var .i64 1)) :: pceach3_21) (Sx.Sub.mk [(.i64, (1005, (IE.var .i64 1005)))] [] [(1004, (LE.var 1004)), (1002, (LE.var 1002))] [] [] []))
def weach3_23 : VW := (VW.done ((BE.not (BE.eq (IE.var .i64 11654) (IE.var .i64 1))) :: pceach3_21) (some [(G.b (BE.lit true) (BE.lit false))]))
def weach3_24 : VW := (VW.cut 4 ((BE.eq (IE.var .i64 11654) (IE.var .i64 1005)) :: pceach3_22) (Sx.Sub.mk [(.i64, (1005, (IE.var .i64 1005)))] [] [(1004, (LE.var 1004)), (1002, (LE.var 1002))] [] [] []))
def weach3_25 : VW := (VW.done ((BE.not (BE.eq (IE.var .i64 11654) (IE.var .i64 1005))) :: pceach3_22) (some [(G.b (BE.lit true) (BE.lit false))]))
def weach3_26 : VW := (VW.cut 4 ((BE.eq (IE.var .i64 11654) (IE.lit 1)) :: pceach3_23) (Sx.Sub.mk [(.i64, (1005, (IE.var .i64 1005)))] [] [(1004, (LE.var 1004)), (1002, (LE.var 1002))] [] [] []))
def weach3_27 : VW := (VW.done ((BE.not (BE.eq (IE.var .i64 11654) (IE.lit 1))) :: pceach3_23) (some [(G.b (BE.lit true) (BE.lit false))]))
def weach3_28 : VW := (VW.done ((BE.le (IE.var .i64 1005) (IE.var .i64 11654)) :: pceach3_24) (some [(G.b (BE.lit true) (BE.lit false))]))
def weach3_29 : VW := (VW.cut 4 ((BE.le (IE.var .i64 1005) (IE.var .i64 1)) :: pceach3_50) (Sx.Sub.mk [(.i64, (1005, (IE.var .i64 1005)))] [] [(1004, (LE.var 1004)), (1002, (LE.var 1002))] [] [] []))
def weach3_30 : VW := (VW.cut 4 ((BE.eq (IE.add (IE.var .i64 11654) (IE.lit 1)) (IE.var .i64 1)) :: pceach3_54) (Sx.Sub.mk [(.i64, (1005, (IE.var .i64 1005)))] [] [(1004, (LE.var 1004)), (1002, (LE.var 1002))] [] [] []))
def weach3_31 : VW := (VW.done ((BE.not (BE.eq (IE.add (IE.var .i64 11654) (IE.lit 1)) (IE.var .i64 1))) :: pceach3_54) (some [(G.b (BE.lit true) (BE.lit false))]))
def weach3_32 : VW := (VW.cut 4 ((BE.le (IE.var .i64 1005) (IE.lit 1)) :: pceach3_51) (Sx.Sub.mk [(.i64, (1005, (IE.var .i64 1005)))] [] [(1004, (LE.var 1004)), (1002, (LE.var 1002))] [] [] []))
def weach3_33 : VW := (VW.cut 4 ((BE.eq (IE.add (IE.var .i64 11654) (IE.lit 1)) (IE.lit 1)) :: pceach3_55) (Sx.Sub.mk [(.i64, (1005, (IE.var .i64 1005)))] [] [(1004, (LE.var 1004)), (1002, (LE.var 1002))] [] [] []))
def weach3_34 : VW := (VW.done ((BE.not (BE.eq (IE.add (IE.var .i64 11654) (IE.lit 1)) (IE.lit 1))) :: pceach3_55) (some [(G.b (BE.lit true) (BE.lit false))]))
def weach3_35 : VW := (VW.cut 3 ((BE.eq (IE.len (LE.rom 0)) (IE.add (IE.var .i64 11653) (IE.add (IE.var .i64 11652) (IE.lit 1)))) :: pceach3_47) (Sx.Sub.mk [(.i64, (11654, (IE.add (IE.var .i64 11654) (IE.lit 1)))), (.i64, (1005, (IE.var .i64 1005))), (.i64, (11653, (IE.add (IE.var .i64 11653) (IE.add (IE.var .i64 11652) (IE.lit 1))))), (.i64, (11652, (IE.lit 0))), (.i64, (11651, (IE.lit 0))), (.i64, (11649, (IE.lit 0))), (.u64, (11655, (IE.lit 0)))] [] [(1004, (LE.var 1004)), (1002, (LE.var 1002))] [] [] []))
def weach3_36 : VW := (VW.cut 3 ((BE.not (BE.eq (IE.len (LE.rom 0)) (IE.add (IE.var .i64 11653) (IE.add (IE.var .i64 11652) (IE.lit 1))))) :: pceach3_47) (Sx.Sub.mk [(.i64, (11654, (IE.add (IE.var .i64 11654) (IE.lit 1)))), (.i64, (1005, (IE.var .i64 1005))), (.i64, (11653, (IE.add (IE.var .i64 11653) (IE.add (IE.var .i64 11652) (IE.lit 1))))), (.i64, (11652, (IE.lit 0))), (.i64, (11651, (IE.sub (IE.len (LE.rom 0)) (IE.add (IE.var .i64 11653) (IE.add (IE.var .i64 11652) (IE.lit 1)))))), (.i64, (11649, (IE.add (IE.var .i64 11653) (IE.add (IE.var .i64 11652) (IE.lit 1))))), (.u64, (11655, (IE.lit 0)))] [] [(1004, (LE.var 1004)), (1002, (LE.var 1002))] [] [] []))
def weach3_37 : VW := (VW.done ((BE.not (BE.eq (IE.bin BinOp.or .u64 (IE.var .u64 11655) (IE.bin BinOp.shl .u64 (IE.bin BinOp.and .u8 (IE.cel .u8 (LE.rom 0) (IE.add (IE.var .i64 11649) (IE.var .i64 11652)) 0) (IE.lit 127)) (IE.mul (IE.lit 7) (IE.var .i64 11652)))) (IE.cel .u64 (LE.var 1002) (IE.var .i64 11654) 0))) :: pceach3_34) (some [(G.b (BE.lit true) (BE.lit false))]))
def weach3_38 : VW := (VW.done ((BE.not (BE.eq (IE.var .i64 11653) (IE.cel .i64 (LE.var 1004) (IE.var .i64 11654) 0))) :: pceach3_28) (some [(G.b (BE.lit true) (BE.lit false))]))
def weach3_39 : VW := (VW.cut 4 ((BE.eq (IE.var .i64 11654) (IE.var .i64 1005)) :: pceach3_35) (Sx.Sub.mk [(.i64, (1005, (IE.var .i64 1005)))] [] [(1004, (LE.var 1004)), (1002, (LE.var 1002))] [] [] []))
def weach3_40 : VW := (VW.done ((BE.not (BE.eq (IE.var .i64 11654) (IE.var .i64 1005))) :: pceach3_35) (some [(G.b (BE.lit true) (BE.lit false))]))
def weach3_41 : VW := (VW.cut 4 ((BE.eq (IE.var .i64 11654) (IE.var .i64 1)) :: pceach3_36) (Sx.Sub.mk [(.i64, (1005, (IE.var .i64 1005)))] [] [(1004, (LE.var 1004)), (1002, (LE.var 1002))] [] [] []))
def weach3_42 : VW := (VW.done ((BE.not (BE.eq (IE.var .i64 11654) (IE.var .i64 1))) :: pceach3_36) (some [(G.b (BE.lit true) (BE.lit false))]))
def weach3_43 : VW := (VW.cut 4 ((BE.eq (IE.var .i64 11654) (IE.var .i64 1005)) :: pceach3_37) (Sx.Sub.mk [(.i64, (1005, (IE.var .i64 1005)))] [] [(1004, (LE.var 1004)), (1002, (LE.var 1002))] [] [] []))
def weach3_44 : VW := (VW.done ((BE.not (BE.eq (IE.var .i64 11654) (IE.var .i64 1005))) :: pceach3_37) (some [(G.b (BE.lit true) (BE.lit false))]))
def weach3_45 : VW := (VW.cut 4 ((BE.eq (IE.var .i64 11654) (IE.lit 1)) :: pceach3_38) (Sx.Sub.mk [(.i64, (1005, (IE.var .i64 1005)))] [] [(1004, (LE.var 1004)), (1002, (LE.var 1002))] [] [] []))
def weach3_46 : VW := (VW.done ((BE.not (BE.eq (IE.var .i64 11654) (IE.lit 1))) :: pceach3_38) (some [(G.b (BE.lit true) (BE.lit false))]))
def weach3_47 : VW := (VW.cut 3 ((BE.le (IE.lit 128) (IE.cel .u8 (LE.rom 0) (IE.add (IE.var .i64 11649) (IE.var .i64 11652)) 0)) :: pceach3_18) (Sx.Sub.mk [(.i64, (11654, (IE.var .i64 11654))), (.i64, (1005, (IE.var .i64 1005))), (.i64, (11653, (IE.var .i64 11653))), (.i64, (11652, (IE.add (IE.var .i64 11652) (IE.lit 1)))), (.i64, (11651, (IE.var .i64 11651))), (.i64, (11649, (IE.var .i64 11649))), (.u64, (11655, (IE.bin BinOp.or .u64 (IE.var .u64 11655) (IE.bin BinOp.shl .u64 (IE.bin BinOp.and .u8 (IE.cel .u8 (LE.rom 0) (IE.add (IE.var .i64 11649) (IE.var .i64 11652)) 0) (IE.lit 127)) (IE.mul (IE.lit 7) (IE.var .i64 11652))))))] [] [(1004, (LE.var 1004)), (1002, (LE.var 1002))] [] [] []))
def weach3_48 : VW := (VW.done ((BE.le (IE.var .i64 1005) (IE.var .i64 11654)) :: pceach3_26) (some [(G.b (BE.lit true) (BE.lit false))]))
def weach3_49 : VW := (VW.cut 4 ((BE.le (IE.var .i64 1005) (IE.var .i64 1)) :: pceach3_52) (Sx.Sub.mk [(.i64, (1005, (IE.var .i64 1005)))] [] [(1004, (LE.var 1004)), (1002, (LE.var 1002))] [] [] []))
def weach3_50 : VW := (VW.cut 4 ((BE.eq (IE.add (IE.var .i64 11654) (IE.lit 1)) (IE.var .i64 1)) :: pceach3_56) (Sx.Sub.mk [(.i64, (1005, (IE.var .i64 1005)))] [] [(1004, (LE.var 1004)), (1002, (LE.var 1002))] [] [] []))
def weach3_51 : VW := (VW.done ((BE.not (BE.eq (IE.add (IE.var .i64 11654) (IE.lit 1)) (IE.var .i64 1))) :: pceach3_56) (some [(G.b (BE.lit true) (BE.lit false))]))
def weach3_52 : VW := (VW.cut 4 ((BE.le (IE.var .i64 1005) (IE.lit 1)) :: pceach3_53) (Sx.Sub.mk [(.i64, (1005, (IE.var .i64 1005)))] [] [(1004, (LE.var 1004)), (1002, (LE.var 1002))] [] [] []))
def weach3_53 : VW := (VW.cut 4 ((BE.eq (IE.add (IE.var .i64 11654) (IE.lit 1)) (IE.lit 1)) :: pceach3_57) (Sx.Sub.mk [(.i64, (1005, (IE.var .i64 1005)))] [] [(1004, (LE.var 1004)), (1002, (LE.var 1002))] [] [] []))
def weach3_54 : VW := (VW.done ((BE.not (BE.eq (IE.add (IE.var .i64 11654) (IE.lit 1)) (IE.lit 1))) :: pceach3_57) (some [(G.b (BE.lit true) (BE.lit false))]))
def weach3_55 : VW := (VW.cut 3 ((BE.eq (IE.len (LE.rom 0)) (IE.add (IE.var .i64 11653) (IE.add (IE.var .i64 11652) (IE.lit 1)))) :: pceach3_49) (Sx.Sub.mk [(.i64, (11654, (IE.add (IE.var .i64 11654) (IE.lit 1)))), (.i64, (1005, (IE.var .i64 1005))), (.i64, (11653, (IE.add (IE.var .i64 11653) (IE.add (IE.var .i64 11652) (IE.lit 1))))), (.i64, (11652, (IE.lit 0))), (.i64, (11651, (IE.lit 0))), (.i64, (11649, (IE.lit 0))), (.u64, (11655, (IE.lit 0)))] [] [(1004, (LE.var 1004)), (1002, (LE.var 1002))] [] [] []))
def weach3_56 : VW := (VW.cut 3 ((BE.not (BE.eq (IE.len (LE.rom 0)) (IE.add (IE.var .i64 11653) (IE.add (IE.var .i64 11652) (IE.lit 1))))) :: pceach3_49) (Sx.Sub.mk [(.i64, (11654, (IE.add (IE.var .i64 11654) (IE.lit 1)))), (.i64, (1005, (IE.var .i64 1005))), (.i64, (11653, (IE.add (IE.var .i64 11653) (IE.add (IE.var .i64 11652) (IE.lit 1))))), (.i64, (11652, (IE.lit 0))), (.i64, (11651, (IE.sub (IE.len (LE.rom 0)) (IE.add (IE.var .i64 11653) (IE.add (IE.var .i64 11652) (IE.lit 1)))))), (.i64, (11649, (IE.add (IE.var .i64 11653) (IE.add (IE.var .i64 11652) (IE.lit 1))))), (.u64, (11655, (IE.lit 0)))] [] [(1004, (LE.var 1004)), (1002, (LE.var 1002))] [] [] []))
def weach3_57 : VW := (VW.done ((BE.not (BE.eq (IE.bin BinOp.or .u64 (IE.var .u64 11655) (IE.bin BinOp.shl .u64 (IE.bin BinOp.and .u8 (IE.cel .u8 (LE.rom 0) (IE.add (IE.var .i64 11649) (IE.var .i64 11652)) 0) (IE.lit 127)) (IE.mul (IE.lit 7) (IE.var .i64 11652)))) (IE.cel .u64 (LE.var 1002) (IE.var .i64 11654) 0))) :: pceach3_39) (some [(G.b (BE.lit true) (BE.lit false))]))
def weach3_58 : VW := (VW.done ((BE.not (BE.eq (IE.var .i64 11653) (IE.cel .i64 (LE.var 1004) (IE.var .i64 11654) 0))) :: pceach3_31) (some [(G.b (BE.lit true) (BE.lit false))]))
def vweach3 : List VW := [weach3_0, weach3_1, weach3_2, weach3_3, weach3_4, weach3_5, weach3_6, weach3_7, weach3_8, weach3_9, weach3_10, weach3_11, weach3_12, weach3_13, weach3_14, weach3_15, weach3_16, weach3_17, weach3_18, weach3_19, weach3_20, weach3_21, weach3_22, weach3_23, weach3_24, weach3_25, weach3_26, weach3_27, weach3_28, weach3_29, weach3_30, weach3_31, weach3_32, weach3_33, weach3_34, weach3_35, weach3_36, weach3_37, weach3_38, weach3_39, weach3_40, weach3_41, weach3_42, weach3_43, weach3_44, weach3_45, weach3_46, weach3_47, weach3_48, weach3_49, weach3_50, weach3_51, weach3_52, weach3_53, weach3_54, weach3_55, weach3_56, weach3_57, weach3_58]
def weach4_0 : VW := (VW.cut 5 [(BE.lit true), (BE.le (IE.len (LE.rom 0)) (IE.lit 300)), (BE.le (IE.lit 1) (IE.len (LE.rom 0))), (BE.le (IE.len (LE.rom 0)) (IE.rcap 0)), (BE.le (IE.lit 0) (IE.var .i64 1005)), (BE.le (IE.var .i64 1005) (IE.lit 300)), (BE.and (BE.lit true) (BE.lit true)), (BE.le (IE.var .i64 1005) (IE.lit 300))] (Sx.Sub.mk [(.i64, (11654, (IE.lit 0))), (.i64, (1005, (IE.var .i64 1005))), (.i64, (11653, (IE.lit 0))), (.i64, (11652, (IE.lit 0))), (.i64, (11651, (IE.len (LE.rom 0)))), (.i64, (11649, (IE.lit 0))), (.u64, (11655, (IE.lit 0)))] [] [(1004, (LE.var 1004)), (1002, (LE.var 1002))] [] [] []))
def vweach4 : List VW := [weach4_0]
def pceach5_0 : List BE := [(BE.lit true), (BE.le (IE.var .i64 11649) (IE.var .i64 11653)), (BE.le (IE.len (LE.rom 0)) (IE.rcap 0)), (BE.le (IE.lit 1) (IE.len (LE.rom 0))), (BE.le (IE.len (LE.rom 0)) (IE.lit 300)), (BE.le (IE.lit 0) (IE.var .i64 1005)), (BE.le (IE.var .i64 1005) (IE.lit 300)), (BE.le (IE.lit 0) (IE.var .i64 11649)), (BE.le (IE.lit 0) (IE.var .i64 11651)), (BE.le (IE.lit 0) (IE.var .i64 11652)), (BE.le (IE.lit 0) (IE.var .i64 11653)), (BE.le (IE.var .i64 11653) (IE.len (LE.rom 0))), (BE.le (IE.lit 0) (IE.var .i64 11654)), (BE.and (BE.lit true) (BE.lit true)), (BE.le (IE.var .i64 11652) (IE.lit 9)), (BE.le (IE.var .i64 11653) (IE.lit 300)), (BE.le (IE.var .i64 11654) (IE.lit 300))]
def pceach5_1 : List BE := ((BE.le (IE.sub (IE.len (LE.rom 0)) (IE.var .i64 11653)) (IE.var .i64 11652)) :: pceach5_0)
def pceach5_2 : List BE := ((BE.not (BE.le (IE.sub (IE.len (LE.rom 0)) (IE.var .i64 11653)) (IE.var .i64 11652))) :: pceach5_0)
def pceach5_3 : List BE := ((BE.le (IE.var .i64 11652) (IE.lit 0)) :: pceach5_2)
def pceach5_4 : List BE := ((BE.not (BE.le (IE.var .i64 11652) (IE.lit 0))) :: pceach5_2)
def pceach5_5 : List BE := ((BE.not (BE.le (IE.lit 128) (IE.cel .u8 (LE.rom 0) (IE.add (IE.var .i64 11649) (IE.var .i64 11652)) 0))) :: pceach5_3)
def pceach5_6 : List BE := ((BE.eq (IE.cel .u8 (LE.rom 0) (IE.add (IE.var .i64 11649) (IE.var .i64 11652)) 0) (IE.lit 0)) :: pceach5_4)
def pceach5_7 : List BE := ((BE.not (BE.eq (IE.cel .u8 (LE.rom 0) (IE.add (IE.var .i64 11649) (IE.var .i64 11652)) 0) (IE.lit 0))) :: pceach5_4)
def pceach5_8 : List BE := ((BE.not (BE.le (IE.var .i64 1005) (IE.var .i64 11654))) :: pceach5_5)
def pceach5_9 : List BE := ((BE.eq (IE.var .i64 11652) (IE.lit 9)) :: pceach5_7)
def pceach5_10 : List BE := ((BE.not (BE.eq (IE.var .i64 11652) (IE.lit 9))) :: pceach5_7)
def pceach5_11 : List BE := ((BE.eq (IE.var .i64 11653) (IE.cel .i64 (LE.var 1004) (IE.var .i64 11654) 0)) :: pceach5_8)
def pceach5_12 : List BE := ((BE.le (IE.cel .u8 (LE.rom 0) (IE.add (IE.var .i64 11649) (IE.var .i64 11652)) 0) (IE.lit 1)) :: pceach5_9)
def pceach5_13 : List BE := ((BE.not (BE.le (IE.cel .u8 (LE.rom 0) (IE.add (IE.var .i64 11649) (IE.var .i64 11652)) 0) (IE.lit 1))) :: pceach5_9)
def pceach5_14 : List BE := ((BE.not (BE.le (IE.lit 128) (IE.cel .u8 (LE.rom 0) (IE.add (IE.var .i64 11649) (IE.var .i64 11652)) 0))) :: pceach5_10)
def pceach5_15 : List BE := ((BE.eq (IE.bin BinOp.or .u64 (IE.var .u64 11655) (IE.bin BinOp.shl .u64 (IE.bin BinOp.and .u8 (IE.cel .u8 (LE.rom 0) (IE.add (IE.var .i64 11649) (IE.var .i64 11652)) 0) (IE.lit 127)) (IE.mul (IE.lit 7) (IE.var .i64 11652)))) (IE.cel .u64 (LE.var 1002) (IE.var .i64 11654) 0)) :: pceach5_11)
def pceach5_16 : List BE := ((BE.not (BE.le (IE.var .i64 1005) (IE.var .i64 11654))) :: pceach5_12)
def pceach5_17 : List BE := ((BE.not (BE.le (IE.var .i64 1005) (IE.var .i64 11654))) :: pceach5_14)
def pceach5_18 : List BE := ((BE.eq (IE.var .i64 11653) (IE.cel .i64 (LE.var 1004) (IE.var .i64 11654) 0)) :: pceach5_16)
def pceach5_19 : List BE := ((BE.eq (IE.var .i64 11653) (IE.cel .i64 (LE.var 1004) (IE.var .i64 11654) 0)) :: pceach5_17)
def pceach5_20 : List BE := ((BE.eq (IE.bin BinOp.or .u64 (IE.var .u64 11655) (IE.bin BinOp.shl .u64 (IE.bin BinOp.and .u8 (IE.cel .u8 (LE.rom 0) (IE.add (IE.var .i64 11649) (IE.var .i64 11652)) 0) (IE.lit 127)) (IE.mul (IE.lit 7) (IE.var .i64 11652)))) (IE.cel .u64 (LE.var 1002) (IE.var .i64 11654) 0)) :: pceach5_18)
def pceach5_21 : List BE := ((BE.eq (IE.bin BinOp.or .u64 (IE.var .u64 11655) (IE.bin BinOp.shl .u64 (IE.bin BinOp.and .u8 (IE.cel .u8 (LE.rom 0) (IE.add (IE.var .i64 11649) (IE.var .i64 11652)) 0) (IE.lit 127)) (IE.mul (IE.lit 7) (IE.var .i64 11652)))) (IE.cel .u64 (LE.var 1002) (IE.var .i64 11654) 0)) :: pceach5_19)
def weach5_0 : VW := (VW.done ((BE.eq (IE.var .i64 11654) (IE.var .i64 1005)) :: pceach5_1) (some []))
def weach5_1 : VW := (VW.done ((BE.not (BE.eq (IE.var .i64 11654) (IE.var .i64 1005))) :: pceach5_1) (some [(G.b (BE.lit true) (BE.lit false))]))
def weach5_2 : VW := (VW.cut 5 ((BE.le (IE.lit 128) (IE.cel .u8 (LE.rom 0) (IE.add (IE.var .i64 11649) (IE.var .i64 11652)) 0)) :: pceach5_3) (Sx.Sub.mk [(.i64, (11654, (IE.var .i64 11654))), (.i64, (1005, (IE.var .i64 1005))), (.i64, (11653, (IE.var .i64 11653))), (.i64, (11652, (IE.add (IE.var .i64 11652) (IE.lit 1)))), (.i64, (11651, (IE.var .i64 11651))), (.i64, (11649, (IE.var .i64 11649))), (.u64, (11655, (IE.bin BinOp.or .u64 (IE.var .u64 11655) (IE.bin BinOp.shl .u64 (IE.bin BinOp.and .u8 (IE.cel .u8 (LE.rom 0) (IE.add (IE.var .i64 11649) (IE.var .i64 11652)) 0) (IE.lit 127)) (IE.mul (IE.lit 7) (IE.var .i64 11652))))))] [] [(1004, (LE.var 1004)), (1002, (LE.var 1002))] [] [] []))
def weach5_3 : VW := (VW.done ((BE.le (IE.var .i64 1005) (IE.var .i64 11654)) :: pceach5_5) (some [(G.b (BE.lit true) (BE.lit false))]))
def weach5_4 : VW := (VW.cut 5 ((BE.eq (IE.len (LE.rom 0)) (IE.add (IE.var .i64 11653) (IE.add (IE.var .i64 11652) (IE.lit 1)))) :: pceach5_15) (Sx.Sub.mk [(.i64, (11654, (IE.add (IE.var .i64 11654) (IE.lit 1)))), (.i64, (1005, (IE.var .i64 1005))), (.i64, (11653, (IE.add (IE.var .i64 11653) (IE.add (IE.var .i64 11652) (IE.lit 1))))), (.i64, (11652, (IE.lit 0))), (.i64, (11651, (IE.lit 0))), (.i64, (11649, (IE.lit 0))), (.u64, (11655, (IE.lit 0)))] [] [(1004, (LE.var 1004)), (1002, (LE.var 1002))] [] [] []))
def weach5_5 : VW := (VW.cut 5 ((BE.not (BE.eq (IE.len (LE.rom 0)) (IE.add (IE.var .i64 11653) (IE.add (IE.var .i64 11652) (IE.lit 1))))) :: pceach5_15) (Sx.Sub.mk [(.i64, (11654, (IE.add (IE.var .i64 11654) (IE.lit 1)))), (.i64, (1005, (IE.var .i64 1005))), (.i64, (11653, (IE.add (IE.var .i64 11653) (IE.add (IE.var .i64 11652) (IE.lit 1))))), (.i64, (11652, (IE.lit 0))), (.i64, (11651, (IE.sub (IE.len (LE.rom 0)) (IE.add (IE.var .i64 11653) (IE.add (IE.var .i64 11652) (IE.lit 1)))))), (.i64, (11649, (IE.add (IE.var .i64 11653) (IE.add (IE.var .i64 11652) (IE.lit 1))))), (.u64, (11655, (IE.lit 0)))] [] [(1004, (LE.var 1004)), (1002, (LE.var 1002))] [] [] []))
def weach5_6 : VW := (VW.done ((BE.not (BE.eq (IE.bin BinOp.or .u64 (IE.var .u64 11655) (IE.bin BinOp.shl .u64 (IE.bin BinOp.and .u8 (IE.cel .u8 (LE.rom 0) (IE.add (IE.var .i64 11649) (IE.var .i64 11652)) 0) (IE.lit 127)) (IE.mul (IE.lit 7) (IE.var .i64 11652)))) (IE.cel .u64 (LE.var 1002) (IE.var .i64 11654) 0))) :: pceach5_11) (some [(G.b (BE.lit true) (BE.lit false))]))
def weach5_7 : VW := (VW.done ((BE.not (BE.eq (IE.var .i64 11653) (IE.cel .i64 (LE.var 1004) (IE.var .i64 11654) 0))) :: pceach5_8) (some [(G.b (BE.lit true) (BE.lit false))]))
def weach5_8 : VW := (VW.done ((BE.eq (IE.var .i64 11654) (IE.var .i64 1005)) :: pceach5_6) (some []))
def weach5_9 : VW := (VW.done ((BE.not (BE.eq (IE.var .i64 11654) (IE.var .i64 1005))) :: pceach5_6) (some [(G.b (BE.lit true) (BE.lit false))]))
def weach5_10 : VW := (VW.done ((BE.le (IE.var .i64 1005) (IE.var .i64 11654)) :: pceach5_12) (some [(G.b (BE.lit true) (BE.lit false))]))
def weach5_11 : VW := (VW.cut 5 ((BE.eq (IE.len (LE.rom 0)) (IE.add (IE.var .i64 11653) (IE.add (IE.var .i64 11652) (IE.lit 1)))) :: pceach5_20) (Sx.Sub.mk [(.i64, (11654, (IE.add (IE.var .i64 11654) (IE.lit 1)))), (.i64, (1005, (IE.var .i64 1005))), (.i64, (11653, (IE.add (IE.var .i64 11653) (IE.add (IE.var .i64 11652) (IE.lit 1))))), (.i64, (11652, (IE.lit 0))), (.i64, (11651, (IE.lit 0))), (.i64, (11649, (IE.lit 0))), (.u64, (11655, (IE.lit 0)))] [] [(1004, (LE.var 1004)), (1002, (LE.var 1002))] [] [] []))
def weach5_12 : VW := (VW.cut 5 ((BE.not (BE.eq (IE.len (LE.rom 0)) (IE.add (IE.var .i64 11653) (IE.add (IE.var .i64 11652) (IE.lit 1))))) :: pceach5_20) (Sx.Sub.mk [(.i64, (11654, (IE.add (IE.var .i64 11654) (IE.lit 1)))), (.i64, (1005, (IE.var .i64 1005))), (.i64, (11653, (IE.add (IE.var .i64 11653) (IE.add (IE.var .i64 11652) (IE.lit 1))))), (.i64, (11652, (IE.lit 0))), (.i64, (11651, (IE.sub (IE.len (LE.rom 0)) (IE.add (IE.var .i64 11653) (IE.add (IE.var .i64 11652) (IE.lit 1)))))), (.i64, (11649, (IE.add (IE.var .i64 11653) (IE.add (IE.var .i64 11652) (IE.lit 1))))), (.u64, (11655, (IE.lit 0)))] [] [(1004, (LE.var 1004)), (1002, (LE.var 1002))] [] [] []))
def weach5_13 : VW := (VW.done ((BE.not (BE.eq (IE.bin BinOp.or .u64 (IE.var .u64 11655) (IE.bin BinOp.shl .u64 (IE.bin BinOp.and .u8 (IE.cel .u8 (LE.rom 0) (IE.add (IE.var .i64 11649) (IE.var .i64 11652)) 0) (IE.lit 127)) (IE.mul (IE.lit 7) (IE.var .i64 11652)))) (IE.cel .u64 (LE.var 1002) (IE.var .i64 11654) 0))) :: pceach5_18) (some [(G.b (BE.lit true) (BE.lit false))]))
def weach5_14 : VW := (VW.done ((BE.not (BE.eq (IE.var .i64 11653) (IE.cel .i64 (LE.var 1004) (IE.var .i64 11654) 0))) :: pceach5_16) (some [(G.b (BE.lit true) (BE.lit false))]))
def weach5_15 : VW := (VW.done ((BE.eq (IE.var .i64 11654) (IE.var .i64 1005)) :: pceach5_13) (some []))
def weach5_16 : VW := (VW.done ((BE.not (BE.eq (IE.var .i64 11654) (IE.var .i64 1005))) :: pceach5_13) (some [(G.b (BE.lit true) (BE.lit false))]))
def weach5_17 : VW := (VW.cut 5 ((BE.le (IE.lit 128) (IE.cel .u8 (LE.rom 0) (IE.add (IE.var .i64 11649) (IE.var .i64 11652)) 0)) :: pceach5_10) (Sx.Sub.mk [(.i64, (11654, (IE.var .i64 11654))), (.i64, (1005, (IE.var .i64 1005))), (.i64, (11653, (IE.var .i64 11653))), (.i64, (11652, (IE.add (IE.var .i64 11652) (IE.lit 1)))), (.i64, (11651, (IE.var .i64 11651))), (.i64, (11649, (IE.var .i64 11649))), (.u64, (11655, (IE.bin BinOp.or .u64 (IE.var .u64 11655) (IE.bin BinOp.shl .u64 (IE.bin BinOp.and .u8 (IE.cel .u8 (LE.rom 0) (IE.add (IE.var .i64 11649) (IE.var .i64 11652)) 0) (IE.lit 127)) (IE.mul (IE.lit 7) (IE.var .i64 11652))))))] [] [(1004, (LE.var 1004)), (1002, (LE.var 1002))] [] [] []))
def weach5_18 : VW := (VW.done ((BE.le (IE.var .i64 1005) (IE.var .i64 11654)) :: pceach5_14) (some [(G.b (BE.lit true) (BE.lit false))]))
def weach5_19 : VW := (VW.cut 5 ((BE.eq (IE.len (LE.rom 0)) (IE.add (IE.var .i64 11653) (IE.add (IE.var .i64 11652) (IE.lit 1)))) :: pceach5_21) (Sx.Sub.mk [(.i64, (11654, (IE.add (IE.var .i64 11654) (IE.lit 1)))), (.i64, (1005, (IE.var .i64 1005))), (.i64, (11653, (IE.add (IE.var .i64 11653) (IE.add (IE.var .i64 11652) (IE.lit 1))))), (.i64, (11652, (IE.lit 0))), (.i64, (11651, (IE.lit 0))), (.i64, (11649, (IE.lit 0))), (.u64, (11655, (IE.lit 0)))] [] [(1004, (LE.var 1004)), (1002, (LE.var 1002))] [] [] []))
def weach5_20 : VW := (VW.cut 5 ((BE.not (BE.eq (IE.len (LE.rom 0)) (IE.add (IE.var .i64 11653) (IE.add (IE.var .i64 11652) (IE.lit 1))))) :: pceach5_21) (Sx.Sub.mk [(.i64, (11654, (IE.add (IE.var .i64 11654) (IE.lit 1)))), (.i64, (1005, (IE.var .i64 1005))), (.i64, (11653, (IE.add (IE.var .i64 11653) (IE.add (IE.var .i64 11652) (IE.lit 1))))), (.i64, (11652, (IE.lit 0))), (.i64, (11651, (IE.sub (IE.len (LE.rom 0)) (IE.add (IE.var .i64 11653) (IE.add (IE.var .i64 11652) (IE.lit 1)))))), (.i64, (11649, (IE.add (IE.var .i64 11653) (IE.add (IE.var .i64 11652) (IE.lit 1))))), (.u64, (11655, (IE.lit 0)))] [] [(1004, (LE.var 1004)), (1002, (LE.var 1002))] [] [] []))
def weach5_21 : VW := (VW.done ((BE.not (BE.eq (IE.bin BinOp.or .u64 (IE.var .u64 11655) (IE.bin BinOp.shl .u64 (IE.bin BinOp.and .u8 (IE.cel .u8 (LE.rom 0) (IE.add (IE.var .i64 11649) (IE.var .i64 11652)) 0) (IE.lit 127)) (IE.mul (IE.lit 7) (IE.var .i64 11652)))) (IE.cel .u64 (LE.var 1002) (IE.var .i64 11654) 0))) :: pceach5_19) (some [(G.b (BE.lit true) (BE.lit false))]))
def weach5_22 : VW := (VW.done ((BE.not (BE.eq (IE.var .i64 11653) (IE.cel .i64 (LE.var 1004) (IE.var .i64 11654) 0))) :: pceach5_17) (some [(G.b (BE.lit true) (BE.lit false))]))
def vweach5 : List VW := [weach5_0, weach5_1, weach5_2, weach5_3, weach5_4, weach5_5, weach5_6, weach5_7, weach5_8, weach5_9, weach5_10, weach5_11, weach5_12, weach5_13, weach5_14, weach5_15, weach5_16, weach5_17, weach5_18, weach5_19, weach5_20, weach5_21, weach5_22]
def pceach6_0 : List BE := [(BE.lit true), (BE.le (IE.len (LE.rom 0)) (IE.lit 300)), (BE.le (IE.lit 1) (IE.len (LE.rom 0))), (BE.le (IE.len (LE.rom 0)) (IE.rcap 0)), (BE.le (IE.lit 0) (IE.var .i64 11650)), (BE.le (IE.var .i64 11650) (IE.len (LE.rom 0)))]
def pceach6_1 : List BE := ((BE.le (IE.len (LE.rom 0)) (IE.var .i64 11650)) :: pceach6_0)
def pceach6_2 : List BE := ((BE.not (BE.le (IE.len (LE.rom 0)) (IE.var .i64 11650))) :: pceach6_0)
def pceach6_3 : List BE := ((BE.le (IE.var .i64 11650) (IE.lit 0)) :: pceach6_2)
def pceach6_4 : List BE := ((BE.not (BE.le (IE.var .i64 11650) (IE.lit 0))) :: pceach6_2)
def pceach6_5 : List BE := ((BE.eq (IE.cel .u8 (LE.rom 0) (IE.var .i64 11650) 0) (IE.lit 0)) :: pceach6_4)
def pceach6_6 : List BE := ((BE.not (BE.eq (IE.cel .u8 (LE.rom 0) (IE.var .i64 11650) 0) (IE.lit 0))) :: pceach6_4)
def pceach6_7 : List BE := ((BE.eq (IE.var .i64 11650) (IE.lit 9)) :: pceach6_6)
def pceach6_8 : List BE := ((BE.not (BE.eq (IE.var .i64 11650) (IE.lit 9))) :: pceach6_6)
def pceach6_9 : List BE := ((BE.not (BE.le (IE.cel .u8 (LE.rom 0) (IE.var .i64 11650) 0) (IE.lit 1))) :: pceach6_7)
def weach6_0 : VW := (VW.cut 7 ((BE.le (IE.lit 1) (IE.var .i64 1)) :: pceach6_1) (Sx.Sub.mk [(.i64, (301650, (IE.lit 0))), (.u64, (301649, (IE.lit 0)))] [] [] [] [] []))
def weach6_1 : VW := (VW.cut 7 ((BE.not (BE.le (IE.lit 1) (IE.var .i64 1))) :: pceach6_1) (Sx.Sub.mk [(.i64, (301650, (IE.lit 0))), (.u64, (301649, (IE.lit 0)))] [] [] [] [] []))
def weach6_2 : VW := (VW.cut 6 ((BE.le (IE.lit 128) (IE.cel .u8 (LE.rom 0) (IE.var .i64 11650) 0)) :: pceach6_3) (Sx.Sub.mk [(.i64, (11650, (IE.add (IE.var .i64 11650) (IE.lit 1)))), (.u64, (11649, (IE.bin BinOp.or .u64 (IE.var .u64 11649) (IE.bin BinOp.shl .u64 (IE.bin BinOp.and .u8 (IE.cel .u8 (LE.rom 0) (IE.var .i64 11650) 0) (IE.lit 127)) (IE.mul (IE.lit 7) (IE.var .i64 11650))))))] [] [] [] [] []))
def weach6_3 : VW := (VW.done ((BE.not (BE.le (IE.lit 128) (IE.cel .u8 (LE.rom 0) (IE.var .i64 11650) 0))) :: pceach6_3) (some [(G.b (BE.lit true) (BE.lit false))]))
def weach6_4 : VW := (VW.cut 7 ((BE.le (IE.lit 1) (IE.var .i64 1)) :: pceach6_5) (Sx.Sub.mk [(.i64, (301650, (IE.lit 0))), (.u64, (301649, (IE.lit 0)))] [] [] [] [] []))
def weach6_5 : VW := (VW.cut 7 ((BE.not (BE.le (IE.lit 1) (IE.var .i64 1))) :: pceach6_5) (Sx.Sub.mk [(.i64, (301650, (IE.lit 0))), (.u64, (301649, (IE.lit 0)))] [] [] [] [] []))
def weach6_6 : VW := (VW.done ((BE.le (IE.cel .u8 (LE.rom 0) (IE.var .i64 11650) 0) (IE.lit 1)) :: pceach6_7) (some [(G.b (BE.lit true) (BE.lit false))]))
def weach6_7 : VW := (VW.cut 7 ((BE.le (IE.lit 1) (IE.var .i64 1)) :: pceach6_9) (Sx.Sub.mk [(.i64, (301650, (IE.lit 0))), (.u64, (301649, (IE.lit 0)))] [] [] [] [] []))
def weach6_8 : VW := (VW.cut 7 ((BE.not (BE.le (IE.lit 1) (IE.var .i64 1))) :: pceach6_9) (Sx.Sub.mk [(.i64, (301650, (IE.lit 0))), (.u64, (301649, (IE.lit 0)))] [] [] [] [] []))
def weach6_9 : VW := (VW.cut 6 ((BE.le (IE.lit 128) (IE.cel .u8 (LE.rom 0) (IE.var .i64 11650) 0)) :: pceach6_8) (Sx.Sub.mk [(.i64, (11650, (IE.add (IE.var .i64 11650) (IE.lit 1)))), (.u64, (11649, (IE.bin BinOp.or .u64 (IE.var .u64 11649) (IE.bin BinOp.shl .u64 (IE.bin BinOp.and .u8 (IE.cel .u8 (LE.rom 0) (IE.var .i64 11650) 0) (IE.lit 127)) (IE.mul (IE.lit 7) (IE.var .i64 11650))))))] [] [] [] [] []))
def weach6_10 : VW := (VW.done ((BE.not (BE.le (IE.lit 128) (IE.cel .u8 (LE.rom 0) (IE.var .i64 11650) 0))) :: pceach6_8) (some [(G.b (BE.lit true) (BE.lit false))]))
def vweach6 : List VW := [weach6_0, weach6_1, weach6_2, weach6_3, weach6_4, weach6_5, weach6_6, weach6_7, weach6_8, weach6_9, weach6_10]
def pceach7_0 : List BE := [(BE.lit true), (BE.le (IE.len (LE.rom 0)) (IE.rcap 0)), (BE.le (IE.lit 1) (IE.len (LE.rom 0))), (BE.le (IE.len (LE.rom 0)) (IE.lit 300)), (BE.le (IE.lit 0) (IE.var .i64 301650)), (BE.le (IE.var .i64 301650) (IE.len (LE.rom 0)))]
def pceach7_1 : List BE := ((BE.not (BE.le (IE.len (LE.rom 0)) (IE.var .i64 301650))) :: pceach7_0)
def pceach7_2 : List BE := ((BE.le (IE.var .i64 301650) (IE.lit 0)) :: pceach7_1)
def pceach7_3 : List BE := ((BE.not (BE.le (IE.var .i64 301650) (IE.lit 0))) :: pceach7_1)
def pceach7_4 : List BE := ((BE.not (BE.eq (IE.cel .u8 (LE.rom 0) (IE.var .i64 301650) 0) (IE.lit 0))) :: pceach7_3)
def pceach7_5 : List BE := ((BE.eq (IE.var .i64 301650) (IE.lit 9)) :: pceach7_4)
def pceach7_6 : List BE := ((BE.not (BE.eq (IE.var .i64 301650) (IE.lit 9))) :: pceach7_4)
def weach7_0 : VW := (VW.done ((BE.le (IE.len (LE.rom 0)) (IE.var .i64 301650)) :: pceach7_0) (some []))
def weach7_1 : VW := (VW.cut 7 ((BE.le (IE.lit 128) (IE.cel .u8 (LE.rom 0) (IE.var .i64 301650) 0)) :: pceach7_2) (Sx.Sub.mk [(.i64, (301650, (IE.add (IE.var .i64 301650) (IE.lit 1)))), (.u64, (301649, (IE.bin BinOp.or .u64 (IE.var .u64 301649) (IE.bin BinOp.shl .u64 (IE.bin BinOp.and .u8 (IE.cel .u8 (LE.rom 0) (IE.var .i64 301650) 0) (IE.lit 127)) (IE.mul (IE.lit 7) (IE.var .i64 301650))))))] [] [] [] [] []))
def weach7_2 : VW := (VW.done ((BE.not (BE.le (IE.lit 128) (IE.cel .u8 (LE.rom 0) (IE.var .i64 301650) 0))) :: pceach7_2) (some [(G.b (BE.lit true) (BE.lit false))]))
def weach7_3 : VW := (VW.done ((BE.eq (IE.cel .u8 (LE.rom 0) (IE.var .i64 301650) 0) (IE.lit 0)) :: pceach7_3) (some []))
def weach7_4 : VW := (VW.done ((BE.le (IE.cel .u8 (LE.rom 0) (IE.var .i64 301650) 0) (IE.lit 1)) :: pceach7_5) (some [(G.b (BE.lit true) (BE.lit false))]))
def weach7_5 : VW := (VW.done ((BE.not (BE.le (IE.cel .u8 (LE.rom 0) (IE.var .i64 301650) 0) (IE.lit 1))) :: pceach7_5) (some []))
def weach7_6 : VW := (VW.cut 7 ((BE.le (IE.lit 128) (IE.cel .u8 (LE.rom 0) (IE.var .i64 301650) 0)) :: pceach7_6) (Sx.Sub.mk [(.i64, (301650, (IE.add (IE.var .i64 301650) (IE.lit 1)))), (.u64, (301649, (IE.bin BinOp.or .u64 (IE.var .u64 301649) (IE.bin BinOp.shl .u64 (IE.bin BinOp.and .u8 (IE.cel .u8 (LE.rom 0) (IE.var .i64 301650) 0) (IE.lit 127)) (IE.mul (IE.lit 7) (IE.var .i64 301650))))))] [] [] [] [] []))
def weach7_7 : VW := (VW.done ((BE.not (BE.le (IE.lit 128) (IE.cel .u8 (LE.rom 0) (IE.var .i64 301650) 0))) :: pceach7_6) (some [(G.b (BE.lit true) (BE.lit false))]))
def vweach7 : List VW := [weach7_0, weach7_1, weach7_2, weach7_3, weach7_4, weach7_5, weach7_6, weach7_7]
def vweach : Nat → List VW
  | 0 => vweach0
  | 1 => vweach1
  | 2 => vweach2
  | 3 => vweach3
  | 4 => vweach4
  | 5 => vweach5
  | 6 => vweach6
  | 7 => vweach7
  | _ => []
end
def inveach : Nat → Lt → Prop
  | 1, l => (l.i .i64 1000) = 0
  | 2, l => Gath (l.z.rl 0) (l.l 1002) (l.l 1004) (l.i .i64 1001) ∧ (l.z.rl 0).length ≤ 300
  | 3, l => Und (l.z.rl 0) (l.l 1002) (l.l 1004) (l.i .i64 11654) (l.i .i64 11653) (l.i .i64 11649) (l.i .i64 11652) (l.i .u64 11655) ∧ ((l.i .i64 11654) = 0 ∨ (l.i .i64 11654) < (l.i .i64 1)) ∧ (l.z.rl 0).length ≤ 300
  | 4, l => Whole (l.z.rl 0) (l.l 1002) (l.l 1004) ∧ (l.z.rl 0).length ≤ 300
  | 5, l => Und (l.z.rl 0) (l.l 1002) (l.l 1004) (l.i .i64 11654) (l.i .i64 11653) (l.i .i64 11649) (l.i .i64 11652) (l.i .u64 11655) ∧ (l.z.rl 0).length ≤ 300
  | 6, l => Und (l.z.rl 0) [] [] 0 0 0 (l.i .i64 11650) (l.i .u64 11649)
  | 7, l => Und (l.z.rl 0) [] [] 0 0 0 (l.i .i64 301650) (l.i .u64 301649)
  | _, _ => True
def mseach : Nat → Lt → Nat
  | 0, l => 3 * (l.z.rl 0).length + 10
  | 1, l => 3 * (l.z.rl 0).length + 9
  | 2, l => 2 * (l.z.rl 0).length + 4 + ((l.z.rl 0).length - (l.i .i64 1001).toNat)
  | 3, l => (l.z.rl 0).length + 2 + ((l.z.rl 0).length - ((l.i .i64 11653) + (l.i .i64 11652)).toNat)
  | 4, l => (l.z.rl 0).length + 1
  | 5, l => (l.z.rl 0).length - ((l.i .i64 11653) + (l.i .i64 11652)).toNat
  | 6, l => (l.z.rl 0).length + 2 + ((l.z.rl 0).length - (l.i .i64 11650).toNat)
  | 7, l => (l.z.rl 0).length - (l.i .i64 301650).toNat
  | _, _ => 0
theorem vceach0_0 : VC TTeach inveach mseach 0 (startF 8 cEach.pat (.lit true :: cEach.pre)) weach0_0 := by
  intro ρ kn hi hp
  have hF : ρ.z.F = oct.Φ := kn.F
  simp only [h_nil, h_cons, d_le, d_eq, d_not, d_var, d_lit, d_cel, d_leq, d_fn, d_and, d_iff, IE.den, LE.den, AL.den, lenV, true_and, and_true, pceach0_0, hF, pi2, pi3, pi4, pi5, pi6, pi7, pl1, pi8, pi9, pl3] at hp
  obtain ⟨p1, p2⟩ := hp
  refine (show ((0 : Int) = 0) ∧ ((3 * (ρ.z.rl 0).length + 9 : Nat) < 3 * (ρ.z.rl 0).length + 10) from ?_)
  exact ⟨rfl, by omega⟩
def iveach1 (ρ : Rho) : Prop := (ρ.i .i64 1000) = 0
theorem vceach1_0 : VC TTeach inveach mseach 1 teach1 weach1_0 := by
  intro ρ kn hi hp
  have hi : iveach1 ρ := hi
  unfold iveach1 at hi
  have hF : ρ.z.F = oct.Φ := kn.F
  simp only [h_nil, h_cons, d_le, d_eq, d_not, d_var, d_lit, d_cel, d_leq, d_fn, d_and, d_iff, IE.den, LE.den, AL.den, lenV, true_and, and_true, pceach1_0, hF, pi2, pi3, pi4, pi5, pi6, pi7, pl1, pi8, pi9, pl3] at hp
  obtain ⟨p1, p2, p3, p4, p5, p6, p7, p8⟩ := hp
  refine (show (Gath (ρ.z.rl 0) ([[Go.Value.int .u64 (clampK .u64 (ρ.z.F.i 3 [.lst ((ρ.z.rl 0).drop (ρ.i .i64 1000).toNat)]))]] : LV) ([[Go.Value.int .i64 (ρ.i .i64 1000)]] : LV) ((ρ.i .i64 1000) + (clampK .i64 (ρ.z.F.i 4 [.lst ((ρ.z.rl 0).drop (ρ.i .i64 1000).toNat)]))) ∧ (ρ.z.rl 0).length ≤ 300) ∧ ((2 * (ρ.z.rl 0).length + 4 + ((ρ.z.rl 0).length - ((ρ.i .i64 1000) + (clampK .i64 (ρ.z.F.i 4 [.lst ((ρ.z.rl 0).drop (ρ.i .i64 1000).toNat)]))).toNat) : Nat) < 3 * (ρ.z.rl 0).length + 9) from ?_)
  simp only [hF, pi2, pi3, pi4, pi5, pi6, pi7, pl1, pi8, pi9, pl3]
  simp only [rdE_in, rdN_in, rdV_in] at *
  have hl := kn.ok.rl 0
  exact ⟨⟨gaths (W := []) (P := []) hl (gath0 hi) (by assumption) rfl rfl, by omega⟩, by omega⟩
theorem vceach1_1 : VC TTeach inveach mseach 1 teach1 weach1_1 := by
  intro ρ kn hi hp
  have hi : iveach1 ρ := hi
  unfold iveach1 at hi
  have hF : ρ.z.F = oct.Φ := kn.F
  simp only [h_nil, h_cons, d_le, d_eq, d_not, d_var, d_lit, d_cel, d_leq, d_fn, d_and, d_iff, IE.den, LE.den, AL.den, lenV, true_and, and_true, pceach1_0, hF, pi2, pi3, pi4, pi5, pi6, pi7, pl1, pi8, pi9, pl3] at hp
  obtain ⟨p1, p2, p3, p4, p5, p6, p7, p8⟩ := hp
  refine (show (Und (ρ.z.rl 0) [] [] 0 0 0 (0 : Int) (0 : Int)) ∧ (((ρ.z.rl 0).length + 2 + ((ρ.z.rl 0).length - (0 : Int).toNat) : Nat) < 3 * (ρ.z.rl 0).length + 9) from ?_)
  try simp only [rdE_in] at *
  first
    | (exfalso; omega)
    | exact ⟨und0 (whole_of (gath0 hi) (by assumption)) rfl, by omega⟩
def iveach2 (ρ : Rho) : Prop := Gath (ρ.z.rl 0) (ρ.l 1002) (ρ.l 1004) (ρ.i .i64 1001) ∧ (ρ.z.rl 0).length ≤ 300
theorem vceach2_0 : VC TTeach inveach mseach 2 teach2 weach2_0 := by
  intro ρ kn hi hp
  have hi : iveach2 ρ := hi
  unfold iveach2 at hi
  have hF : ρ.z.F = oct.Φ := kn.F
  simp only [h_nil, h_cons, d_le, d_eq, d_not, d_var, d_lit, d_cel, d_leq, d_fn, d_and, d_iff, IE.den, LE.den, AL.den, lenV, true_and, and_true, pceach2_1, pceach2_0, hF, pi2, pi3, pi4, pi5, pi6, pi7, pl1, pi8, pi9, pl3] at hp
  obtain ⟨p1, p2, p3, p4, p5, p6, p7, p8, p9, p10, p11⟩ := hp
  refine (show (Gath (ρ.z.rl 0) ((ρ.l 1002) ++ ([[Go.Value.int .u64 (clampK .u64 (ρ.z.F.i 3 [.lst ((ρ.z.rl 0).take ((((ρ.z.rl 0).length : Nat) : Int) - (ρ.i .i64 1001)).toNat)]))]] : LV)) ((ρ.l 1004) ++ ([[Go.Value.int .i64 (ρ.i .i64 1001)]] : LV)) ((ρ.i .i64 1001) + (clampK .i64 (ρ.z.F.i 4 [.lst ((ρ.z.rl 0).take ((((ρ.z.rl 0).length : Nat) : Int) - (ρ.i .i64 1001)).toNat)]))) ∧ (ρ.z.rl 0).length ≤ 300) ∧ ((2 * (ρ.z.rl 0).length + 4 + ((ρ.z.rl 0).length - ((ρ.i .i64 1001) + (clampK .i64 (ρ.z.F.i 4 [.lst ((ρ.z.rl 0).take ((((ρ.z.rl 0).length : Nat) : Int) - (ρ.i .i64 1001)).toNat)]))).toNat) : Nat) < 2 * (ρ.z.rl 0).length + 4 + ((ρ.z.rl 0).length - (ρ.i .i64 1001).toNat)) from ?_)
  simp only [hF, pi2, pi3, pi4, pi5, pi6, pi7, pl1, pi8, pi9, pl3]
  obtain ⟨g, hb⟩ := hi
  first
    | (exfalso
       simp only [rdE_in] at *
       have h : rdE (List.take ((((ρ.z.rl 0).length : Nat) : Int) - ρ.i .i64 1001).toNat (ρ.z.rl 0)) = 0 := by assumption
       rw [show ((((ρ.z.rl 0).length : Nat) : Int) - ρ.i .i64 1001).toNat = 0 by omega, List.take_zero] at h
       exact absurd h (by decide))
    | (simp only [rdE_in, rdN_in, rdV_in] at *
       have hl := kn.ok.rl 0
       have q := rdN_pos (L := (ρ.z.rl 0).drop (ρ.i .i64 1001).toNat) (by assumption)
       have q2 := rdN_rng ((ρ.z.rl 0).drop (ρ.i .i64 1001).toNat)
       rw [List.length_drop] at q2
       exact ⟨⟨gaths hl g (by assumption) rfl rfl, hb⟩, by omega⟩)
theorem vceach2_1 : VC TTeach inveach mseach 2 teach2 weach2_1 := by
  intro ρ kn hi hp
  have hi : iveach2 ρ := hi
  unfold iveach2 at hi
  have hF : ρ.z.F = oct.Φ := kn.F
  simp only [h_nil, h_cons, d_le, d_eq, d_not, d_var, d_lit, d_cel, d_leq, d_fn, d_and, d_iff, IE.den, LE.den, AL.den, lenV, true_and, and_true, pceach2_1, pceach2_0, hF, pi2, pi3, pi4, pi5, pi6, pi7, pl1, pi8, pi9, pl3] at hp
  obtain ⟨p1, p2, p3, p4, p5, p6, p7, p8, p9, p10, p11⟩ := hp
  refine (show (Und (ρ.z.rl 0) (ρ.l 1002) (ρ.l 1004) (0 : Int) (0 : Int) (0 : Int) (0 : Int) (0 : Int) ∧ ((0 : Int) = 0 ∨ (0 : Int) < (ρ.i .i64 1)) ∧ (ρ.z.rl 0).length ≤ 300) ∧ (((ρ.z.rl 0).length + 2 + ((ρ.z.rl 0).length - ((0 : Int) + (0 : Int)).toNat) : Nat) < 2 * (ρ.z.rl 0).length + 4 + ((ρ.z.rl 0).length - (ρ.i .i64 1001).toNat)) from ?_)
  obtain ⟨g, hb⟩ := hi
  try simp only [rdE_in] at *
  have w : Whole (ρ.z.rl 0) (ρ.l 1002) (ρ.l 1004) := by first | exact whole_of g (by assumption) | exact whole_of g (rdE_none (by omega))
  exact ⟨⟨und0 w rfl, by first | exact .inl rfl | exact .inl trivial, hb⟩, by omega⟩
theorem vceach2_2 : VC TTeach inveach mseach 2 teach2 weach2_2 := by
  intro ρ kn hi hp
  have hi : iveach2 ρ := hi
  unfold iveach2 at hi
  have hF : ρ.z.F = oct.Φ := kn.F
  simp only [h_nil, h_cons, d_le, d_eq, d_not, d_var, d_lit, d_cel, d_leq, d_fn, d_and, d_iff, IE.den, LE.den, AL.den, lenV, true_and, and_true, pceach2_2, pceach2_0, hF, pi2, pi3, pi4, pi5, pi6, pi7, pl1, pi8, pi9, pl3] at hp
  obtain ⟨p1, p2, p3, p4, p5, p6, p7, p8, p9, p10, p11⟩ := hp
  refine (show (Gath (ρ.z.rl 0) ((ρ.l 1002) ++ ([[Go.Value.int .u64 (clampK .u64 (ρ.z.F.i 3 [.lst ((ρ.z.rl 0).drop (ρ.i .i64 1001).toNat)]))]] : LV)) ((ρ.l 1004) ++ ([[Go.Value.int .i64 (ρ.i .i64 1001)]] : LV)) ((ρ.i .i64 1001) + (clampK .i64 (ρ.z.F.i 4 [.lst ((ρ.z.rl 0).drop (ρ.i .i64 1001).toNat)]))) ∧ (ρ.z.rl 0).length ≤ 300) ∧ ((2 * (ρ.z.rl 0).length + 4 + ((ρ.z.rl 0).length - ((ρ.i .i64 1001) + (clampK .i64 (ρ.z.F.i 4 [.lst ((ρ.z.rl 0).drop (ρ.i .i64 1001).toNat)]))).toNat) : Nat) < 2 * (ρ.z.rl 0).length + 4 + ((ρ.z.rl 0).length - (ρ.i .i64 1001).toNat)) from ?_)
  simp only [hF, pi2, pi3, pi4, pi5, pi6, pi7, pl1, pi8, pi9, pl3]
  obtain ⟨g, hb⟩ := hi
  first
    | (exfalso
       simp only [rdE_in] at *
       have h : rdE (List.take ((((ρ.z.rl 0).length : Nat) : Int) - ρ.i .i64 1001).toNat (ρ.z.rl 0)) = 0 := by assumption
       rw [show ((((ρ.z.rl 0).length : Nat) : Int) - ρ.i .i64 1001).toNat = 0 by omega, List.take_zero] at h
       exact absurd h (by decide))
    | (simp only [rdE_in, rdN_in, rdV_in] at *
       have hl := kn.ok.rl 0
       have q := rdN_pos (L := (ρ.z.rl 0).drop (ρ.i .i64 1001).toNat) (by assumption)
       have q2 := rdN_rng ((ρ.z.rl 0).drop (ρ.i .i64 1001).toNat)
       rw [List.length_drop] at q2
       exact ⟨⟨gaths hl g (by assumption) rfl rfl, hb⟩, by omega⟩)
theorem vceach2_3 : VC TTeach inveach mseach 2 teach2 weach2_3 := by
  intro ρ kn hi hp
  have hi : iveach2 ρ := hi
  unfold iveach2 at hi
  have hF : ρ.z.F = oct.Φ := kn.F
  simp only [h_nil, h_cons, d_le, d_eq, d_not, d_var, d_lit, d_cel, d_leq, d_fn, d_and, d_iff, IE.den, LE.den, AL.den, lenV, true_and, and_true, pceach2_2, pceach2_0, hF, pi2, pi3, pi4, pi5, pi6, pi7, pl1, pi8, pi9, pl3] at hp
  obtain ⟨p1, p2, p3, p4, p5, p6, p7, p8, p9, p10, p11⟩ := hp
  refine (show (Und (ρ.z.rl 0) (ρ.l 1002) (ρ.l 1004) (0 : Int) (0 : Int) (0 : Int) (0 : Int) (0 : Int) ∧ ((0 : Int) = 0 ∨ (0 : Int) < (ρ.i .i64 1)) ∧ (ρ.z.rl 0).length ≤ 300) ∧ (((ρ.z.rl 0).length + 2 + ((ρ.z.rl 0).length - ((0 : Int) + (0 : Int)).toNat) : Nat) < 2 * (ρ.z.rl 0).length + 4 + ((ρ.z.rl 0).length - (ρ.i .i64 1001).toNat)) from ?_)
  obtain ⟨g, hb⟩ := hi
  try simp only [rdE_in] at *
  have w : Whole (ρ.z.rl 0) (ρ.l 1002) (ρ.l 1004) := by first | exact whole_of g (by assumption) | exact whole_of g (rdE_none (by omega))
  exact ⟨⟨und0 w rfl, by first | exact .inl rfl | exact .inl trivial, hb⟩, by omega⟩
def iveach3 (ρ : Rho) : Prop := Und (ρ.z.rl 0) (ρ.l 1002) (ρ.l 1004) (ρ.i .i64 11654) (ρ.i .i64 11653) (ρ.i .i64 11649) (ρ.i .i64 11652) (ρ.i .u64 11655) ∧ ((ρ.i .i64 11654) = 0 ∨ (ρ.i .i64 11654) < (ρ.i .i64 1)) ∧ (ρ.z.rl 0).length ≤ 300
theorem vceach3_0 : VC TTeach inveach mseach 3 teach3 weach3_0 := by
  intro ρ kn hi hp
  have hi : iveach3 ρ := hi
  unfold iveach3 at hi
  have hF : ρ.z.F = oct.Φ := kn.F
  simp only [h_nil, h_cons, d_le, d_eq, d_not, d_var, d_lit, d_cel, d_leq, d_fn, d_and, d_iff, IE.den, LE.den, AL.den, lenV, true_and, and_true, pceach3_7, pceach3_3, pceach3_1, pceach3_0, hF, pi2, pi3, pi4, pi5, pi6, pi7, pl1, pi8, pi9, pl3] at hp
  obtain ⟨p1, p2, p3, p4, p5, p6, p7, p8, p9, p10, p11, p12, p13, p14, p15, p16, p17, p18, p19⟩ := hp
  refine (show (Whole (ρ.z.rl 0) (ρ.l 1002) (ρ.l 1004) ∧ (ρ.z.rl 0).length ≤ 300) ∧ (((ρ.z.rl 0).length + 1 : Nat) < (ρ.z.rl 0).length + 2 + ((ρ.z.rl 0).length - ((ρ.i .i64 11653) + (ρ.i .i64 11652)).toNat)) from ?_)
  obtain ⟨u, h2, h3⟩ := hi
  exact ⟨⟨u.w, h3⟩, by omega⟩
theorem vceach3_1 : VC TTeach inveach mseach 3 teach3 weach3_1 := by
  intro ρ kn hi hp
  have hi : iveach3 ρ := hi
  unfold iveach3 at hi
  have hr11 : Typed [(CK.int .u8)] (ρ.z.rl 0) ∧ (((ρ.z.rl 0).length : Nat) : Int) = (((ρ.z.rl 0)).length : Int) := kn.rows 11 _ _ _ _ _ _ rfl
  have hr5 : Typed [(CK.int .u64)] (ρ.l 1002) ∧ (ρ.i .i64 1005) = (((ρ.l 1002)).length : Int) := kn.rows 5 _ _ _ _ _ _ rfl
  have hr8 : Typed [(CK.int .i64)] (ρ.l 1004) ∧ (ρ.i .i64 1005) = (((ρ.l 1004)).length : Int) := kn.rows 8 _ _ _ _ _ _ rfl
  have hF : ρ.z.F = oct.Φ := kn.F
  simp only [h_nil, h_cons, d_le, d_eq, d_not, d_var, d_lit, d_cel, d_leq, d_fn, d_and, d_iff, IE.den, LE.den, AL.den, lenV, true_and, and_true, pceach3_7, pceach3_3, pceach3_1, pceach3_0, hF, pi2, pi3, pi4, pi5, pi6, pi7, pl1, pi8, pi9, pl3] at hp
  obtain ⟨p1, p2, p3, p4, p5, p6, p7, p8, p9, p10, p11, p12, p13, p14, p15, p16, p17, p18, p19⟩ := hp
  exfalso
  all_goals
    obtain ⟨u, h2, h3⟩ := hi
    have ul := und_len u
    have un := u.n1
    have hr : Typed _ (ρ.l 1002) ∧ ρ.i .i64 1005 = ((ρ.l 1002).length : Int) := kn.rows 5 _ _ _ _ _ _ rfl
    first
      | omega
      | (have k := und_end u (by omega) (by omega)
         omega)
      | (have k := und_bad u (by omega) (by omega) (by first | rfl | rw [Int.zero_add]) (by omega)
         omega)
      | (have r := und_read u (by omega) (by omega) (by first | rfl | rw [Int.zero_add]) (by omega) (by omega) (by omega)
         have r1 := r.lt
         have r2 := r.w
         have r3 := r.p
         first | omega | exact p1 r.w | exact p1 r.w.symm | exact p1 r.p | exact p1 r.p.symm | exact p2 r.w | exact p2 r.w.symm | exact p2 r.p | exact p2 r.p.symm)
theorem vceach3_2 : VC TTeach inveach mseach 3 teach3 weach3_2 := by
  intro ρ kn hi hp
  have hi : iveach3 ρ := hi
  unfold iveach3 at hi
  have hF : ρ.z.F = oct.Φ := kn.F
  simp only [h_nil, h_cons, d_le, d_eq, d_not, d_var, d_lit, d_cel, d_leq, d_fn, d_and, d_iff, IE.den, LE.den, AL.den, lenV, true_and, and_true, pceach3_8, pceach3_3, pceach3_1, pceach3_0, hF, pi2, pi3, pi4, pi5, pi6, pi7, pl1, pi8, pi9, pl3] at hp
  obtain ⟨p1, p2, p3, p4, p5, p6, p7, p8, p9, p10, p11, p12, p13, p14, p15, p16, p17, p18, p19⟩ := hp
  refine (show (Whole (ρ.z.rl 0) (ρ.l 1002) (ρ.l 1004) ∧ (ρ.z.rl 0).length ≤ 300) ∧ (((ρ.z.rl 0).length + 1 : Nat) < (ρ.z.rl 0).length + 2 + ((ρ.z.rl 0).length - ((ρ.i .i64 11653) + (ρ.i .i64 11652)).toNat)) from ?_)
  obtain ⟨u, h2, h3⟩ := hi
  exact ⟨⟨u.w, h3⟩, by omega⟩
theorem vceach3_3 : VC TTeach inveach mseach 3 teach3 weach3_3 := by
  intro ρ kn hi hp
  have hi : iveach3 ρ := hi
  unfold iveach3 at hi
  have hr11 : Typed [(CK.int .u8)] (ρ.z.rl 0) ∧ (((ρ.z.rl 0).length : Nat) : Int) = (((ρ.z.rl 0)).length : Int) := kn.rows 11 _ _ _ _ _ _ rfl
  have hr5 : Typed [(CK.int .u64)] (ρ.l 1002) ∧ (ρ.i .i64 1005) = (((ρ.l 1002)).length : Int) := kn.rows 5 _ _ _ _ _ _ rfl
  have hr8 : Typed [(CK.int .i64)] (ρ.l 1004) ∧ (ρ.i .i64 1005) = (((ρ.l 1004)).length : Int) := kn.rows 8 _ _ _ _ _ _ rfl
  have hF : ρ.z.F = oct.Φ := kn.F
  simp only [h_nil, h_cons, d_le, d_eq, d_not, d_var, d_lit, d_cel, d_leq, d_fn, d_and, d_iff, IE.den, LE.den, AL.den, lenV, true_and, and_true, pceach3_8, pceach3_3, pceach3_1, pceach3_0, hF, pi2, pi3, pi4, pi5, pi6, pi7, pl1, pi8, pi9, pl3] at hp
  obtain ⟨p1, p2, p3, p4, p5, p6, p7, p8, p9, p10, p11, p12, p13, p14, p15, p16, p17, p18, p19⟩ := hp
  exfalso
  all_goals
    obtain ⟨u, h2, h3⟩ := hi
    have ul := und_len u
    have un := u.n1
    have hr : Typed _ (ρ.l 1002) ∧ ρ.i .i64 1005 = ((ρ.l 1002).length : Int) := kn.rows 5 _ _ _ _ _ _ rfl
    first
      | omega
      | (have k := und_end u (by omega) (by omega)
         omega)
      | (have k := und_bad u (by omega) (by omega) (by first | rfl | rw [Int.zero_add]) (by omega)
         omega)
      | (have r := und_read u (by omega) (by omega) (by first | rfl | rw [Int.zero_add]) (by omega) (by omega) (by omega)
         have r1 := r.lt
         have r2 := r.w
         have r3 := r.p
         first | omega | exact p1 r.w | exact p1 r.w.symm | exact p1 r.p | exact p1 r.p.symm | exact p2 r.w | exact p2 r.w.symm | exact p2 r.p | exact p2 r.p.symm)
theorem vceach3_4 : VC TTeach inveach mseach 3 teach3 weach3_4 := by
  intro ρ kn hi hp
  have hi : iveach3 ρ := hi
  unfold iveach3 at hi
  have hF : ρ.z.F = oct.Φ := kn.F
  simp only [h_nil, h_cons, d_le, d_eq, d_not, d_var, d_lit, d_cel, d_leq, d_fn, d_and, d_iff, IE.den, LE.den, AL.den, lenV, true_and, and_true, pceach3_9, pceach3_4, pceach3_1, pceach3_0, hF, pi2, pi3, pi4, pi5, pi6, pi7, pl1, pi8, pi9, pl3] at hp
  obtain ⟨p1, p2, p3, p4, p5, p6, p7, p8, p9, p10, p11, p12, p13, p14, p15, p16, p17, p18, p19⟩ := hp
  refine (show (Whole (ρ.z.rl 0) (ρ.l 1002) (ρ.l 1004) ∧ (ρ.z.rl 0).length ≤ 300) ∧ (((ρ.z.rl 0).length + 1 : Nat) < (ρ.z.rl 0).length + 2 + ((ρ.z.rl 0).length - ((ρ.i .i64 11653) + (ρ.i .i64 11652)).toNat)) from ?_)
  obtain ⟨u, h2, h3⟩ := hi
  exact ⟨⟨u.w, h3⟩, by omega⟩
theorem vceach3_5 : VC TTeach inveach mseach 3 teach3 weach3_5 := by
  intro ρ kn hi hp
  have hi : iveach3 ρ := hi
  unfold iveach3 at hi
  have hr11 : Typed [(CK.int .u8)] (ρ.z.rl 0) ∧ (((ρ.z.rl 0).length : Nat) : Int) = (((ρ.z.rl 0)).length : Int) := kn.rows 11 _ _ _ _ _ _ rfl
  have hr5 : Typed [(CK.int .u64)] (ρ.l 1002) ∧ (ρ.i .i64 1005) = (((ρ.l 1002)).length : Int) := kn.rows 5 _ _ _ _ _ _ rfl
  have hr8 : Typed [(CK.int .i64)] (ρ.l 1004) ∧ (ρ.i .i64 1005) = (((ρ.l 1004)).length : Int) := kn.rows 8 _ _ _ _ _ _ rfl
  have hF : ρ.z.F = oct.Φ := kn.F
  simp only [h_nil, h_cons, d_le, d_eq, d_not, d_var, d_lit, d_cel, d_leq, d_fn, d_and, d_iff, IE.den, LE.den, AL.den, lenV, true_and, and_true, pceach3_9, pceach3_4, pceach3_1, pceach3_0, hF, pi2, pi3, pi4, pi5, pi6, pi7, pl1, pi8, pi9, pl3] at hp
  obtain ⟨p1, p2, p3, p4, p5, p6, p7, p8, p9, p10, p11, p12, p13, p14, p15, p16, p17, p18, p19⟩ := hp
  exfalso
  all_goals
    obtain ⟨u, h2, h3⟩ := hi
    have ul := und_len u
    have un := u.n1
    have hr : Typed _ (ρ.l 1002) ∧ ρ.i .i64 1005 = ((ρ.l 1002).length : Int) := kn.rows 5 _ _ _ _ _ _ rfl
    first
      | omega
      | (have k := und_end u (by omega) (by omega)
         omega)
      | (have k := und_bad u (by omega) (by omega) (by first | rfl | rw [Int.zero_add]) (by omega)
         omega)
      | (have r := und_read u (by omega) (by omega) (by first | rfl | rw [Int.zero_add]) (by omega) (by omega) (by omega)
         have r1 := r.lt
         have r2 := r.w
         have r3 := r.p
         first | omega | exact p1 r.w | exact p1 r.w.symm | exact p1 r.p | exact p1 r.p.symm | exact p2 r.w | exact p2 r.w.symm | exact p2 r.p | exact p2 r.p.symm)
theorem vceach3_6 : VC TTeach inveach mseach 3 teach3 weach3_6 := by
  intro ρ kn hi hp
  have hi : iveach3 ρ := hi
  unfold iveach3 at hi
  have hF : ρ.z.F = oct.Φ := kn.F
  simp only [h_nil, h_cons, d_le, d_eq, d_not, d_var, d_lit, d_cel, d_leq, d_fn, d_and, d_iff, IE.den, LE.den, AL.den, lenV, true_and, and_true, pceach3_10, pceach3_4, pceach3_1, pceach3_0, hF, pi2, pi3, pi4, pi5, pi6, pi7, pl1, pi8, pi9, pl3] at hp
  obtain ⟨p1, p2, p3, p4, p5, p6, p7, p8, p9, p10, p11, p12, p13, p14, p15, p16, p17, p18, p19⟩ := hp
  refine (show (Whole (ρ.z.rl 0) (ρ.l 1002) (ρ.l 1004) ∧ (ρ.z.rl 0).length ≤ 300) ∧ (((ρ.z.rl 0).length + 1 : Nat) < (ρ.z.rl 0).length + 2 + ((ρ.z.rl 0).length - ((ρ.i .i64 11653) + (ρ.i .i64 11652)).toNat)) from ?_)
  obtain ⟨u, h2, h3⟩ := hi
  exact ⟨⟨u.w, h3⟩, by omega⟩
theorem vceach3_7 : VC TTeach inveach mseach 3 teach3 weach3_7 := by
  intro ρ kn hi hp
  have hi : iveach3 ρ := hi
  unfold iveach3 at hi
  have hr11 : Typed [(CK.int .u8)] (ρ.z.rl 0) ∧ (((ρ.z.rl 0).length : Nat) : Int) = (((ρ.z.rl 0)).length : Int) := kn.rows 11 _ _ _ _ _ _ rfl
  have hr5 : Typed [(CK.int .u64)] (ρ.l 1002) ∧ (ρ.i .i64 1005) = (((ρ.l 1002)).length : Int) := kn.rows 5 _ _ _ _ _ _ rfl
  have hr8 : Typed [(CK.int .i64)] (ρ.l 1004) ∧ (ρ.i .i64 1005) = (((ρ.l 1004)).length : Int) := kn.rows 8 _ _ _ _ _ _ rfl
  have hF : ρ.z.F = oct.Φ := kn.F
  simp only [h_nil, h_cons, d_le, d_eq, d_not, d_var, d_lit, d_cel, d_leq, d_fn, d_and, d_iff, IE.den, LE.den, AL.den, lenV, true_and, and_true, pceach3_10, pceach3_4, pceach3_1, pceach3_0, hF, pi2, pi3, pi4, pi5, pi6, pi7, pl1, pi8, pi9, pl3] at hp
  obtain ⟨p1, p2, p3, p4, p5, p6, p7, p8, p9, p10, p11, p12, p13, p14, p15, p16, p17, p18, p19⟩ := hp
  exfalso
  all_goals
    obtain ⟨u, h2, h3⟩ := hi
    have ul := und_len u
    have un := u.n1
    have hr : Typed _ (ρ.l 1002) ∧ ρ.i .i64 1005 = ((ρ.l 1002).length : Int) := kn.rows 5 _ _ _ _ _ _ rfl
    first
      | omega
      | (have k := und_end u (by omega) (by omega)
         omega)
      | (have k := und_bad u (by omega) (by omega) (by first | rfl | rw [Int.zero_add]) (by omega)
         omega)
      | (have r := und_read u (by omega) (by omega) (by first | rfl | rw [Int.zero_add]) (by omega) (by omega) (by omega)
         have r1 := r.lt
         have r2 := r.w
         have r3 := r.p
         first | omega | exact p1 r.w | exact p1 r.w.symm | exact p1 r.p | exact p1 r.p.symm | exact p2 r.w | exact p2 r.w.symm | exact p2 r.p | exact p2 r.p.symm)
theorem vceach3_8 : VC TTeach inveach mseach 3 teach3 weach3_8 := by
  intro ρ kn hi hp
  have hi : iveach3 ρ := hi
  unfold iveach3 at hi
  have hF : ρ.z.F = oct.Φ := kn.F
  simp only [h_nil, h_cons, d_le, d_eq, d_not, d_var, d_lit, d_cel, d_leq, d_fn, d_and, d_iff, IE.den, LE.den, AL.den, lenV, true_and, and_true, pceach3_5, pceach3_2, pceach3_0, hF, pi2, pi3, pi4, pi5, pi6, pi7, pl1, pi8, pi9, pl3] at hp
  obtain ⟨p1, p2, p3, p4, p5, p6, p7, p8, p9, p10, p11, p12, p13, p14, p15, p16, p17, p18⟩ := hp
  refine (show (Und (ρ.z.rl 0) (ρ.l 1002) (ρ.l 1004) (ρ.i .i64 11654) (ρ.i .i64 11653) (ρ.i .i64 11649) ((ρ.i .i64 11652) + (1 : Int)) (binI BinOp.or .u64 (ρ.i .u64 11655) (binI BinOp.shl .u64 (binI BinOp.and .u8 (clampK .u8 (intV (celV (ρ.z.rl 0) ((ρ.i .i64 11649) + (ρ.i .i64 11652)) 0))) (127 : Int)) ((7 : Int) * (ρ.i .i64 11652)))) ∧ ((ρ.i .i64 11654) = 0 ∨ (ρ.i .i64 11654) < (ρ.i .i64 1)) ∧ (ρ.z.rl 0).length ≤ 300) ∧ (((ρ.z.rl 0).length + 2 + ((ρ.z.rl 0).length - ((ρ.i .i64 11653) + ((ρ.i .i64 11652) + (1 : Int))).toNat) : Nat) < (ρ.z.rl 0).length + 2 + ((ρ.z.rl 0).length - ((ρ.i .i64 11653) + (ρ.i .i64 11652)).toNat)) from ?_)
  obtain ⟨u, h2, h3⟩ := hi
  have ul := und_len u
  first
    | exact ⟨⟨und_go u (by omega) (by omega) (by first | rfl | rw [Int.zero_add]) (by omega) (by omega) (by assumption), h2, h3⟩, by omega⟩
    | (have r := und_read u (by omega) (by omega) (by first | rfl | rw [Int.zero_add]) (by omega) (by omega) (by omega)
       exact ⟨⟨r.next _ (by omega), .inr (by omega), h3⟩, by omega⟩)
theorem vceach3_9 : VC TTeach inveach mseach 3 teach3 weach3_9 := by
  intro ρ kn hi hp
  have hi : iveach3 ρ := hi
  unfold iveach3 at hi
  have hr11 : Typed [(CK.int .u8)] (ρ.z.rl 0) ∧ (((ρ.z.rl 0).length : Nat) : Int) = (((ρ.z.rl 0)).length : Int) := kn.rows 11 _ _ _ _ _ _ rfl
  have hr5 : Typed [(CK.int .u64)] (ρ.l 1002) ∧ (ρ.i .i64 1005) = (((ρ.l 1002)).length : Int) := kn.rows 5 _ _ _ _ _ _ rfl
  have hr8 : Typed [(CK.int .i64)] (ρ.l 1004) ∧ (ρ.i .i64 1005) = (((ρ.l 1004)).length : Int) := kn.rows 8 _ _ _ _ _ _ rfl
  have hF : ρ.z.F = oct.Φ := kn.F
  simp only [h_nil, h_cons, d_le, d_eq, d_not, d_var, d_lit, d_cel, d_leq, d_fn, d_and, d_iff, IE.den, LE.den, AL.den, lenV, true_and, and_true, pceach3_11, pceach3_5, pceach3_2, pceach3_0, hF, pi2, pi3, pi4, pi5, pi6, pi7, pl1, pi8, pi9, pl3] at hp
  obtain ⟨p1, p2, p3, p4, p5, p6, p7, p8, p9, p10, p11, p12, p13, p14, p15, p16, p17, p18, p19⟩ := hp
  exfalso
  all_goals
    obtain ⟨u, h2, h3⟩ := hi
    have ul := und_len u
    have un := u.n1
    have hr : Typed _ (ρ.l 1002) ∧ ρ.i .i64 1005 = ((ρ.l 1002).length : Int) := kn.rows 5 _ _ _ _ _ _ rfl
    first
      | omega
      | (have k := und_end u (by omega) (by omega)
         omega)
      | (have k := und_bad u (by omega) (by omega) (by first | rfl | rw [Int.zero_add]) (by omega)
         omega)
      | (have r := und_read u (by omega) (by omega) (by first | rfl | rw [Int.zero_add]) (by omega) (by omega) (by omega)
         have r1 := r.lt
         have r2 := r.w
         have r3 := r.p
         first | omega | exact p1 r.w | exact p1 r.w.symm | exact p1 r.p | exact p1 r.p.symm | exact p2 r.w | exact p2 r.w.symm | exact p2 r.p | exact p2 r.p.symm)
theorem vceach3_10 : VC TTeach inveach mseach 3 teach3 weach3_10 := by
  intro ρ kn hi hp
  have hi : iveach3 ρ := hi
  unfold iveach3 at hi
  have hF : ρ.z.F = oct.Φ := kn.F
  simp only [h_nil, h_cons, d_le, d_eq, d_not, d_var, d_lit, d_cel, d_leq, d_fn, d_and, d_iff, IE.den, LE.den, AL.den, lenV, true_and, and_true, pceach3_40, pceach3_32, pceach3_27, pceach3_19, pceach3_14, pceach3_11, pceach3_5, pceach3_2, pceach3_0, hF, pi2, pi3, pi4, pi5, pi6, pi7, pl1, pi8, pi9, pl3] at hp
  obtain ⟨p1, p2, p3, p4, p5, p6, p7, p8, p9, p10, p11, p12, p13, p14, p15, p16, p17, p18, p19, p20, p21, p22, p23, p24⟩ := hp
  refine (show (Whole (ρ.z.rl 0) (ρ.l 1002) (ρ.l 1004) ∧ (ρ.z.rl 0).length ≤ 300) ∧ (((ρ.z.rl 0).length + 1 : Nat) < (ρ.z.rl 0).length + 2 + ((ρ.z.rl 0).length - ((ρ.i .i64 11653) + (ρ.i .i64 11652)).toNat)) from ?_)
  obtain ⟨u, h2, h3⟩ := hi
  exact ⟨⟨u.w, h3⟩, by omega⟩
theorem vceach3_11 : VC TTeach inveach mseach 3 teach3 weach3_11 := by
  intro ρ kn hi hp
  have hi : iveach3 ρ := hi
  unfold iveach3 at hi
  have hF : ρ.z.F = oct.Φ := kn.F
  simp only [h_nil, h_cons, d_le, d_eq, d_not, d_var, d_lit, d_cel, d_leq, d_fn, d_and, d_iff, IE.den, LE.den, AL.den, lenV, true_and, and_true, pceach3_44, pceach3_40, pceach3_32, pceach3_27, pceach3_19, pceach3_14, pceach3_11, pceach3_5, pceach3_2, pceach3_0, hF, pi2, pi3, pi4, pi5, pi6, pi7, pl1, pi8, pi9, pl3] at hp
  obtain ⟨p1, p2, p3, p4, p5, p6, p7, p8, p9, p10, p11, p12, p13, p14, p15, p16, p17, p18, p19, p20, p21, p22, p23, p24, p25⟩ := hp
  refine (show (Whole (ρ.z.rl 0) (ρ.l 1002) (ρ.l 1004) ∧ (ρ.z.rl 0).length ≤ 300) ∧ (((ρ.z.rl 0).length + 1 : Nat) < (ρ.z.rl 0).length + 2 + ((ρ.z.rl 0).length - ((ρ.i .i64 11653) + (ρ.i .i64 11652)).toNat)) from ?_)
  obtain ⟨u, h2, h3⟩ := hi
  exact ⟨⟨u.w, h3⟩, by omega⟩
theorem vceach3_12 : VC TTeach inveach mseach 3 teach3 weach3_12 := by
  intro ρ kn hi hp
  have hi : iveach3 ρ := hi
  unfold iveach3 at hi
  have hr11 : Typed [(CK.int .u8)] (ρ.z.rl 0) ∧ (((ρ.z.rl 0).length : Nat) : Int) = (((ρ.z.rl 0)).length : Int) := kn.rows 11 _ _ _ _ _ _ rfl
  have hr5 : Typed [(CK.int .u64)] (ρ.l 1002) ∧ (ρ.i .i64 1005) = (((ρ.l 1002)).length : Int) := kn.rows 5 _ _ _ _ _ _ rfl
  have hr8 : Typed [(CK.int .i64)] (ρ.l 1004) ∧ (ρ.i .i64 1005) = (((ρ.l 1004)).length : Int) := kn.rows 8 _ _ _ _ _ _ rfl
  have hF : ρ.z.F = oct.Φ := kn.F
  simp only [h_nil, h_cons, d_le, d_eq, d_not, d_var, d_lit, d_cel, d_leq, d_fn, d_and, d_iff, IE.den, LE.den, AL.den, lenV, true_and, and_true, pceach3_44, pceach3_40, pceach3_32, pceach3_27, pceach3_19, pceach3_14, pceach3_11, pceach3_5, pceach3_2, pceach3_0, hF, pi2, pi3, pi4, pi5, pi6, pi7, pl1, pi8, pi9, pl3] at hp
  obtain ⟨p1, p2, p3, p4, p5, p6, p7, p8, p9, p10, p11, p12, p13, p14, p15, p16, p17, p18, p19, p20, p21, p22, p23, p24, p25⟩ := hp
  exfalso
  all_goals
    obtain ⟨u, h2, h3⟩ := hi
    have ul := und_len u
    have un := u.n1
    have hr : Typed _ (ρ.l 1002) ∧ ρ.i .i64 1005 = ((ρ.l 1002).length : Int) := kn.rows 5 _ _ _ _ _ _ rfl
    first
      | omega
      | (have k := und_end u (by omega) (by omega)
         omega)
      | (have k := und_bad u (by omega) (by omega) (by first | rfl | rw [Int.zero_add]) (by omega)
         omega)
      | (have r := und_read u (by omega) (by omega) (by first | rfl | rw [Int.zero_add]) (by omega) (by omega) (by omega)
         have r1 := r.lt
         have r2 := r.w
         have r3 := r.p
         first | omega | exact p1 r.w | exact p1 r.w.symm | exact p1 r.p | exact p1 r.p.symm | exact p2 r.w | exact p2 r.w.symm | exact p2 r.p | exact p2 r.p.symm)
theorem vceach3_13 : VC TTeach inveach mseach 3 teach3 weach3_13 := by
  intro ρ kn hi hp
  have hi : iveach3 ρ := hi
  unfold iveach3 at hi
  have hF : ρ.z.F = oct.Φ := kn.F
  simp only [h_nil, h_cons, d_le, d_eq, d_not, d_var, d_lit, d_cel, d_leq, d_fn, d_and, d_iff, IE.den, LE.den, AL.den, lenV, true_and, and_true, pceach3_41, pceach3_32, pceach3_27, pceach3_19, pceach3_14, pceach3_11, pceach3_5, pceach3_2, pceach3_0, hF, pi2, pi3, pi4, pi5, pi6, pi7, pl1, pi8, pi9, pl3] at hp
  obtain ⟨p1, p2, p3, p4, p5, p6, p7, p8, p9, p10, p11, p12, p13, p14, p15, p16, p17, p18, p19, p20, p21, p22, p23, p24⟩ := hp
  refine (show (Whole (ρ.z.rl 0) (ρ.l 1002) (ρ.l 1004) ∧ (ρ.z.rl 0).length ≤ 300) ∧ (((ρ.z.rl 0).length + 1 : Nat) < (ρ.z.rl 0).length + 2 + ((ρ.z.rl 0).length - ((ρ.i .i64 11653) + (ρ.i .i64 11652)).toNat)) from ?_)
  obtain ⟨u, h2, h3⟩ := hi
  exact ⟨⟨u.w, h3⟩, by omega⟩
theorem vceach3_14 : VC TTeach inveach mseach 3 teach3 weach3_14 := by
  intro ρ kn hi hp
  have hi : iveach3 ρ := hi
  unfold iveach3 at hi
  have hF : ρ.z.F = oct.Φ := kn.F
  simp only [h_nil, h_cons, d_le, d_eq, d_not, d_var, d_lit, d_cel, d_leq, d_fn, d_and, d_iff, IE.den, LE.den, AL.den, lenV, true_and, and_true, pceach3_45, pceach3_41, pceach3_32, pceach3_27, pceach3_19, pceach3_14, pceach3_11, pceach3_5, pceach3_2, pceach3_0, hF, pi2, pi3, pi4, pi5, pi6, pi7, pl1, pi8, pi9, pl3] at hp
  obtain ⟨p1, p2, p3, p4, p5, p6, p7, p8, p9, p10, p11, p12, p13, p14, p15, p16, p17, p18, p19, p20, p21, p22, p23, p24, p25⟩ := hp
  refine (show (Whole (ρ.z.rl 0) (ρ.l 1002) (ρ.l 1004) ∧ (ρ.z.rl 0).length ≤ 300) ∧ (((ρ.z.rl 0).length + 1 : Nat) < (ρ.z.rl 0).length + 2 + ((ρ.z.rl 0).length - ((ρ.i .i64 11653) + (ρ.i .i64 11652)).toNat)) from ?_)
  obtain ⟨u, h2, h3⟩ := hi
  exact ⟨⟨u.w, h3⟩, by omega⟩
theorem vceach3_15 : VC TTeach inveach mseach 3 teach3 weach3_15 := by
  intro ρ kn hi hp
  have hi : iveach3 ρ := hi
  unfold iveach3 at hi
  have hr11 : Typed [(CK.int .u8)] (ρ.z.rl 0) ∧ (((ρ.z.rl 0).length : Nat) : Int) = (((ρ.z.rl 0)).length : Int) := kn.rows 11 _ _ _ _ _ _ rfl
  have hr5 : Typed [(CK.int .u64)] (ρ.l 1002) ∧ (ρ.i .i64 1005) = (((ρ.l 1002)).length : Int) := kn.rows 5 _ _ _ _ _ _ rfl
  have hr8 : Typed [(CK.int .i64)] (ρ.l 1004) ∧ (ρ.i .i64 1005) = (((ρ.l 1004)).length : Int) := kn.rows 8 _ _ _ _ _ _ rfl
  have hF : ρ.z.F = oct.Φ := kn.F
  simp only [h_nil, h_cons, d_le, d_eq, d_not, d_var, d_lit, d_cel, d_leq, d_fn, d_and, d_iff, IE.den, LE.den, AL.den, lenV, true_and, and_true, pceach3_45, pceach3_41, pceach3_32, pceach3_27, pceach3_19, pceach3_14, pceach3_11, pceach3_5, pceach3_2, pceach3_0, hF, pi2, pi3, pi4, pi5, pi6, pi7, pl1, pi8, pi9, pl3] at hp
  obtain ⟨p1, p2, p3, p4, p5, p6, p7, p8, p9, p10, p11, p12, p13, p14, p15, p16, p17, p18, p19, p20, p21, p22, p23, p24, p25⟩ := hp
  exfalso
  all_goals
    obtain ⟨u, h2, h3⟩ := hi
    have ul := und_len u
    have un := u.n1
    have hr : Typed _ (ρ.l 1002) ∧ ρ.i .i64 1005 = ((ρ.l 1002).length : Int) := kn.rows 5 _ _ _ _ _ _ rfl
    first
      | omega
      | (have k := und_end u (by omega) (by omega)
         omega)
      | (have k := und_bad u (by omega) (by omega) (by first | rfl | rw [Int.zero_add]) (by omega)
         omega)
      | (have r := und_read u (by omega) (by omega) (by first | rfl | rw [Int.zero_add]) (by omega) (by omega) (by omega)
         have r1 := r.lt
         have r2 := r.w
         have r3 := r.p
         first | omega | exact p1 r.w | exact p1 r.w.symm | exact p1 r.p | exact p1 r.p.symm | exact p2 r.w | exact p2 r.w.symm | exact p2 r.p | exact p2 r.p.symm)
theorem vceach3_16 : VC TTeach inveach mseach 3 teach3 weach3_16 := by
  intro ρ kn hi hp
  have hi : iveach3 ρ := hi
  unfold iveach3 at hi
  have hF : ρ.z.F = oct.Φ := kn.F
  simp only [h_nil, h_cons, d_le, d_eq, d_not, d_var, d_lit, d_cel, d_leq, d_fn, d_and, d_iff, IE.den, LE.den, AL.den, lenV, true_and, and_true, pceach3_33, pceach3_27, pceach3_19, pceach3_14, pceach3_11, pceach3_5, pceach3_2, pceach3_0, hF, pi2, pi3, pi4, pi5, pi6, pi7, pl1, pi8, pi9, pl3] at hp
  obtain ⟨p1, p2, p3, p4, p5, p6, p7, p8, p9, p10, p11, p12, p13, p14, p15, p16, p17, p18, p19, p20, p21, p22, p23⟩ := hp
  refine (show (Und (ρ.z.rl 0) (ρ.l 1002) (ρ.l 1004) ((ρ.i .i64 11654) + (1 : Int)) ((ρ.i .i64 11653) + ((ρ.i .i64 11652) + (1 : Int))) (0 : Int) (0 : Int) (0 : Int) ∧ (((ρ.i .i64 11654) + (1 : Int)) = 0 ∨ ((ρ.i .i64 11654) + (1 : Int)) < (ρ.i .i64 1)) ∧ (ρ.z.rl 0).length ≤ 300) ∧ (((ρ.z.rl 0).length + 2 + ((ρ.z.rl 0).length - (((ρ.i .i64 11653) + ((ρ.i .i64 11652) + (1 : Int))) + (0 : Int)).toNat) : Nat) < (ρ.z.rl 0).length + 2 + ((ρ.z.rl 0).length - ((ρ.i .i64 11653) + (ρ.i .i64 11652)).toNat)) from ?_)
  obtain ⟨u, h2, h3⟩ := hi
  have ul := und_len u
  first
    | exact ⟨⟨und_go u (by omega) (by omega) (by first | rfl | rw [Int.zero_add]) (by omega) (by omega) (by assumption), h2, h3⟩, by omega⟩
    | (have r := und_read u (by omega) (by omega) (by first | rfl | rw [Int.zero_add]) (by omega) (by omega) (by omega)
       exact ⟨⟨r.next _ (by omega), .inr (by omega), h3⟩, by omega⟩)
theorem vceach3_17 : VC TTeach inveach mseach 3 teach3 weach3_17 := by
  intro ρ kn hi hp
  have hi : iveach3 ρ := hi
  unfold iveach3 at hi
  have hF : ρ.z.F = oct.Φ := kn.F
  simp only [h_nil, h_cons, d_le, d_eq, d_not, d_var, d_lit, d_cel, d_leq, d_fn, d_and, d_iff, IE.den, LE.den, AL.den, lenV, true_and, and_true, pceach3_33, pceach3_27, pceach3_19, pceach3_14, pceach3_11, pceach3_5, pceach3_2, pceach3_0, hF, pi2, pi3, pi4, pi5, pi6, pi7, pl1, pi8, pi9, pl3] at hp
  obtain ⟨p1, p2, p3, p4, p5, p6, p7, p8, p9, p10, p11, p12, p13, p14, p15, p16, p17, p18, p19, p20, p21, p22, p23⟩ := hp
  refine (show (Und (ρ.z.rl 0) (ρ.l 1002) (ρ.l 1004) ((ρ.i .i64 11654) + (1 : Int)) ((ρ.i .i64 11653) + ((ρ.i .i64 11652) + (1 : Int))) ((ρ.i .i64 11653) + ((ρ.i .i64 11652) + (1 : Int))) (0 : Int) (0 : Int) ∧ (((ρ.i .i64 11654) + (1 : Int)) = 0 ∨ ((ρ.i .i64 11654) + (1 : Int)) < (ρ.i .i64 1)) ∧ (ρ.z.rl 0).length ≤ 300) ∧ (((ρ.z.rl 0).length + 2 + ((ρ.z.rl 0).length - (((ρ.i .i64 11653) + ((ρ.i .i64 11652) + (1 : Int))) + (0 : Int)).toNat) : Nat) < (ρ.z.rl 0).length + 2 + ((ρ.z.rl 0).length - ((ρ.i .i64 11653) + (ρ.i .i64 11652)).toNat)) from ?_)
  obtain ⟨u, h2, h3⟩ := hi
  have ul := und_len u
  first
    | exact ⟨⟨und_go u (by omega) (by omega) (by first | rfl | rw [Int.zero_add]) (by omega) (by omega) (by assumption), h2, h3⟩, by omega⟩
    | (have r := und_read u (by omega) (by omega) (by first | rfl | rw [Int.zero_add]) (by omega) (by omega) (by omega)
       exact ⟨⟨r.next _ (by omega), .inr (by omega), h3⟩, by omega⟩)
theorem vceach3_18 : VC TTeach inveach mseach 3 teach3 weach3_18 := by
  intro ρ kn hi hp
  have hi : iveach3 ρ := hi
  unfold iveach3 at hi
  have hr11 : Typed [(CK.int .u8)] (ρ.z.rl 0) ∧ (((ρ.z.rl 0).length : Nat) : Int) = (((ρ.z.rl 0)).length : Int) := kn.rows 11 _ _ _ _ _ _ rfl
  have hr5 : Typed [(CK.int .u64)] (ρ.l 1002) ∧ (ρ.i .i64 1005) = (((ρ.l 1002)).length : Int) := kn.rows 5 _ _ _ _ _ _ rfl
  have hr8 : Typed [(CK.int .i64)] (ρ.l 1004) ∧ (ρ.i .i64 1005) = (((ρ.l 1004)).length : Int) := kn.rows 8 _ _ _ _ _ _ rfl
  have hF : ρ.z.F = oct.Φ := kn.F
  simp only [h_nil, h_cons, d_le, d_eq, d_not, d_var, d_lit, d_cel, d_leq, d_fn, d_and, d_iff, IE.den, LE.den, AL.den, lenV, true_and, and_true, pceach3_19, pceach3_14, pceach3_11, pceach3_5, pceach3_2, pceach3_0, hF, pi2, pi3, pi4, pi5, pi6, pi7, pl1, pi8, pi9, pl3] at hp
  obtain ⟨p1, p2, p3, p4, p5, p6, p7, p8, p9, p10, p11, p12, p13, p14, p15, p16, p17, p18, p19, p20, p21⟩ := hp
  exfalso
  all_goals
    obtain ⟨u, h2, h3⟩ := hi
    have ul := und_len u
    have un := u.n1
    have hr : Typed _ (ρ.l 1002) ∧ ρ.i .i64 1005 = ((ρ.l 1002).length : Int) := kn.rows 5 _ _ _ _ _ _ rfl
    first
      | omega
      | (have k := und_end u (by omega) (by omega)
         omega)
      | (have k := und_bad u (by omega) (by omega) (by first | rfl | rw [Int.zero_add]) (by omega)
         omega)
      | (have r := und_read u (by omega) (by omega) (by first | rfl | rw [Int.zero_add]) (by omega) (by omega) (by omega)
         have r1 := r.lt
         have r2 := r.w
         have r3 := r.p
         first | omega | exact p1 r.w | exact p1 r.w.symm | exact p1 r.p | exact p1 r.p.symm | exact p2 r.w | exact p2 r.w.symm | exact p2 r.p | exact p2 r.p.symm)
theorem vceach3_19 : VC TTeach inveach mseach 3 teach3 weach3_19 := by
  intro ρ kn hi hp
  have hi : iveach3 ρ := hi
  unfold iveach3 at hi
  have hr11 : Typed [(CK.int .u8)] (ρ.z.rl 0) ∧ (((ρ.z.rl 0).length : Nat) : Int) = (((ρ.z.rl 0)).length : Int) := kn.rows 11 _ _ _ _ _ _ rfl
  have hr5 : Typed [(CK.int .u64)] (ρ.l 1002) ∧ (ρ.i .i64 1005) = (((ρ.l 1002)).length : Int) := kn.rows 5 _ _ _ _ _ _ rfl
  have hr8 : Typed [(CK.int .i64)] (ρ.l 1004) ∧ (ρ.i .i64 1005) = (((ρ.l 1004)).length : Int) := kn.rows 8 _ _ _ _ _ _ rfl
  have hF : ρ.z.F = oct.Φ := kn.F
  simp only [h_nil, h_cons, d_le, d_eq, d_not, d_var, d_lit, d_cel, d_leq, d_fn, d_and, d_iff, IE.den, LE.den, AL.den, lenV, true_and, and_true, pceach3_14, pceach3_11, pceach3_5, pceach3_2, pceach3_0, hF, pi2, pi3, pi4, pi5, pi6, pi7, pl1, pi8, pi9, pl3] at hp
  obtain ⟨p1, p2, p3, p4, p5, p6, p7, p8, p9, p10, p11, p12, p13, p14, p15, p16, p17, p18, p19, p20⟩ := hp
  exfalso
  all_goals
    obtain ⟨u, h2, h3⟩ := hi
    have ul := und_len u
    have un := u.n1
    have hr : Typed _ (ρ.l 1002) ∧ ρ.i .i64 1005 = ((ρ.l 1002).length : Int) := kn.rows 5 _ _ _ _ _ _ rfl
    first
      | omega
      | (have k := und_end u (by omega) (by omega)
         omega)
      | (have k := und_bad u (by omega) (by omega) (by first | rfl | rw [Int.zero_add]) (by omega)
         omega)
      | (have r := und_read u (by omega) (by omega) (by first | rfl | rw [Int.zero_add]) (by omega) (by omega) (by omega)
         have r1 := r.lt
         have r2 := r.w
         have r3 := r.p
         first | omega | exact p1 r.w | exact p1 r.w.symm | exact p1 r.p | exact p1 r.p.symm | exact p2 r.w | exact p2 r.w.symm | exact p2 r.p | exact p2 r.p.symm)
theorem vceach3_20 : VC TTeach inveach mseach 3 teach3 weach3_20 := by
  intro ρ kn hi hp
  have hi : iveach3 ρ := hi
  unfold iveach3 at hi
  have hF : ρ.z.F = oct.Φ := kn.F
  simp only [h_nil, h_cons, d_le, d_eq, d_not, d_var, d_lit, d_cel, d_leq, d_fn, d_and, d_iff, IE.den, LE.den, AL.den, lenV, true_and, and_true, pceach3_20, pceach3_15, pceach3_12, pceach3_6, pceach3_2, pceach3_0, hF, pi2, pi3, pi4, pi5, pi6, pi7, pl1, pi8, pi9, pl3] at hp
  obtain ⟨p1, p2, p3, p4, p5, p6, p7, p8, p9, p10, p11, p12, p13, p14, p15, p16, p17, p18, p19, p20, p21⟩ := hp
  refine (show (Whole (ρ.z.rl 0) (ρ.l 1002) (ρ.l 1004) ∧ (ρ.z.rl 0).length ≤ 300) ∧ (((ρ.z.rl 0).length + 1 : Nat) < (ρ.z.rl 0).length + 2 + ((ρ.z.rl 0).length - ((ρ.i .i64 11653) + (ρ.i .i64 11652)).toNat)) from ?_)
  obtain ⟨u, h2, h3⟩ := hi
  exact ⟨⟨u.w, h3⟩, by omega⟩
theorem vceach3_21 : VC TTeach inveach mseach 3 teach3 weach3_21 := by
  intro ρ kn hi hp
  have hi : iveach3 ρ := hi
  unfold iveach3 at hi
  have hr11 : Typed [(CK.int .u8)] (ρ.z.rl 0) ∧ (((ρ.z.rl 0).length : Nat) : Int) = (((ρ.z.rl 0)).length : Int) := kn.rows 11 _ _ _ _ _ _ rfl
  have hr5 : Typed [(CK.int .u64)] (ρ.l 1002) ∧ (ρ.i .i64 1005) = (((ρ.l 1002)).length : Int) := kn.rows 5 _ _ _ _ _ _ rfl
  have hr8 : Typed [(CK.int .i64)] (ρ.l 1004) ∧ (ρ.i .i64 1005) = (((ρ.l 1004)).length : Int) := kn.rows 8 _ _ _ _ _ _ rfl
  have hF : ρ.z.F = oct.Φ := kn.F
  simp only [h_nil, h_cons, d_le, d_eq, d_not, d_var, d_lit, d_cel, d_leq, d_fn, d_and, d_iff, IE.den, LE.den, AL.den, lenV, true_and, and_true, pceach3_20, pceach3_15, pceach3_12, pceach3_6, pceach3_2, pceach3_0, hF, pi2, pi3, pi4, pi5, pi6, pi7, pl1, pi8, pi9, pl3] at hp
  obtain ⟨p1, p2, p3, p4, p5, p6, p7, p8, p9, p10, p11, p12, p13, p14, p15, p16, p17, p18, p19, p20, p21⟩ := hp
  exfalso
  all_goals
    obtain ⟨u, h2, h3⟩ := hi
    have ul := und_len u
    have un := u.n1
    have hr : Typed _ (ρ.l 1002) ∧ ρ.i .i64 1005 = ((ρ.l 1002).length : Int) := kn.rows 5 _ _ _ _ _ _ rfl
    first
      | omega
      | (have k := und_end u (by omega) (by omega)
         omega)
      | (have k := und_bad u (by omega) (by omega) (by first | rfl | rw [Int.zero_add]) (by omega)
         omega)
      | (have r := und_read u (by omega) (by omega) (by first | rfl | rw [Int.zero_add]) (by omega) (by omega) (by omega)
         have r1 := r.lt
         have r2 := r.w
         have r3 := r.p
         first | omega | exact p1 r.w | exact p1 r.w.symm | exact p1 r.p | exact p1 r.p.symm | exact p2 r.w | exact p2 r.w.symm | exact p2 r.p | exact p2 r.p.symm)
theorem vceach3_22 : VC TTeach inveach mseach 3 teach3 weach3_22 := by
  intro ρ kn hi hp
  have hi : iveach3 ρ := hi
  unfold iveach3 at hi
  have hF : ρ.z.F = oct.Φ := kn.F
  simp only [h_nil, h_cons, d_le, d_eq, d_not, d_var, d_lit, d_cel, d_leq, d_fn, d_and, d_iff, IE.den, LE.den, AL.den, lenV, true_and, and_true, pceach3_21, pceach3_15, pceach3_12, pceach3_6, pceach3_2, pceach3_0, hF, pi2, pi3, pi4, pi5, pi6, pi7, pl1, pi8, pi9, pl3] at hp
  obtain ⟨p1, p2, p3, p4, p5, p6, p7, p8, p9, p10, p11, p12, p13, p14, p15, p16, p17, p18, p19, p20, p21⟩ := hp
  refine (show (Whole (ρ.z.rl 0) (ρ.l 1002) (ρ.l 1004) ∧ (ρ.z.rl 0).length ≤ 300) ∧ (((ρ.z.rl 0).length + 1 : Nat) < (ρ.z.rl 0).length + 2 + ((ρ.z.rl 0).length - ((ρ.i .i64 11653) + (ρ.i .i64 11652)).toNat)) from ?_)
  obtain ⟨u, h2, h3⟩ := hi
  exact ⟨⟨u.w, h3⟩, by omega⟩
theorem vceach3_23 : VC TTeach inveach mseach 3 teach3 weach3_23 := by
  intro ρ kn hi hp
  have hi : iveach3 ρ := hi
  unfold iveach3 at hi
  have hr11 : Typed [(CK.int .u8)] (ρ.z.rl 0) ∧ (((ρ.z.rl 0).length : Nat) : Int) = (((ρ.z.rl 0)).length : Int) := kn.rows 11 _ _ _ _ _ _ rfl
  have hr5 : Typed [(CK.int .u64)] (ρ.l 1002) ∧ (ρ.i .i64 1005) = (((ρ.l 1002)).length : Int) := kn.rows 5 _ _ _ _ _ _ rfl
  have hr8 : Typed [(CK.int .i64)] (ρ.l 1004) ∧ (ρ.i .i64 1005) = (((ρ.l 1004)).length : Int) := kn.rows 8 _ _ _ _ _ _ rfl
  have hF : ρ.z.F = oct.Φ := kn.F
  simp only [h_nil, h_cons, d_le, d_eq, d_not, d_var, d_lit, d_cel, d_leq, d_fn, d_and, d_iff, IE.den, LE.den, AL.den, lenV, true_and, and_true, pceach3_21, pceach3_15, pceach3_12, pceach3_6, pceach3_2, pceach3_0, hF, pi2, pi3, pi4, pi5, pi6, pi7, pl1, pi8, pi9, pl3] at hp
  obtain ⟨p1, p2, p3, p4, p5, p6, p7, p8, p9, p10, p11, p12, p13, p14, p15, p16, p17, p18, p19, p20, p21⟩ := hp
  exfalso
  all_goals
    obtain ⟨u, h2, h3⟩ := hi
    have ul := und_len u
    have un := u.n1
    have hr : Typed _ (ρ.l 1002) ∧ ρ.i .i64 1005 = ((ρ.l 1002).length : Int) := kn.rows 5 _ _ _ _ _ _ rfl
    first
      | omega
      | (have k := und_end u (by omega) (by omega)
         omega)
      | (have k := und_bad u (by omega) (by omega) (by first | rfl | rw [Int.zero_add]) (by omega)
         omega)
      | (have r := und_read u (by omega) (by omega) (by first | rfl | rw [Int.zero_add]) (by omega) (by omega) (by omega)
         have r1 := r.lt
         have r2 := r.w
         have r3 := r.p
         first | omega | exact p1 r.w | exact p1 r.w.symm | exact p1 r.p | exact p1 r.p.symm | exact p2 r.w | exact p2 r.w.symm | exact p2 r.p | exact p2 r.p.symm)
theorem vceach3_24 : VC TTeach inveach mseach 3 teach3 weach3_24 := by
  intro ρ kn hi hp
  have hi : iveach3 ρ := hi
  unfold iveach3 at hi
  have hF : ρ.z.F = oct.Φ := kn.F
  simp only [h_nil, h_cons, d_le, d_eq, d_not, d_var, d_lit, d_cel, d_leq, d_fn, d_and, d_iff, IE.den, LE.den, AL.den, lenV, true_and, and_true, pceach3_22, pceach3_16, pceach3_12, pceach3_6, pceach3_2, pceach3_0, hF, pi2, pi3, pi4, pi5, pi6, pi7, pl1, pi8, pi9, pl3] at hp
  obtain ⟨p1, p2, p3, p4, p5, p6, p7, p8, p9, p10, p11, p12, p13, p14, p15, p16, p17, p18, p19, p20, p21⟩ := hp
  refine (show (Whole (ρ.z.rl 0) (ρ.l 1002) (ρ.l 1004) ∧ (ρ.z.rl 0).length ≤ 300) ∧ (((ρ.z.rl 0).length + 1 : Nat) < (ρ.z.rl 0).length + 2 + ((ρ.z.rl 0).length - ((ρ.i .i64 11653) + (ρ.i .i64 11652)).toNat)) from ?_)
  obtain ⟨u, h2, h3⟩ := hi
  exact ⟨⟨u.w, h3⟩, by omega⟩
theorem vceach3_25 : VC TTeach inveach mseach 3 teach3 weach3_25 := by
  intro ρ kn hi hp
  have hi : iveach3 ρ := hi
  unfold iveach3 at hi
  have hr11 : Typed [(CK.int .u8)] (ρ.z.rl 0) ∧ (((ρ.z.rl 0).length : Nat) : Int) = (((ρ.z.rl 0)).length : Int) := kn.rows 11 _ _ _ _ _ _ rfl
  have hr5 : Typed [(CK.int .u64)] (ρ.l 1002) ∧ (ρ.i .i64 1005) = (((ρ.l 1002)).length : Int) := kn.rows 5 _ _ _ _ _ _ rfl
  have hr8 : Typed [(CK.int .i64)] (ρ.l 1004) ∧ (ρ.i .i64 1005) = (((ρ.l 1004)).length : Int) := kn.rows 8 _ _ _ _ _ _ rfl
  have hF : ρ.z.F = oct.Φ := kn.F
  simp only [h_nil, h_cons, d_le, d_eq, d_not, d_var, d_lit, d_cel, d_leq, d_fn, d_and, d_iff, IE.den, LE.den, AL.den, lenV, true_and, and_true, pceach3_22, pceach3_16, pceach3_12, pceach3_6, pceach3_2, pceach3_0, hF, pi2, pi3, pi4, pi5, pi6, pi7, pl1, pi8, pi9, pl3] at hp
  obtain ⟨p1, p2, p3, p4, p5, p6, p7, p8, p9, p10, p11, p12, p13, p14, p15, p16, p17, p18, p19, p20, p21⟩ := hp
  exfalso
  all_goals
    obtain ⟨u, h2, h3⟩ := hi
    have ul := und_len u
    have un := u.n1
    have hr : Typed _ (ρ.l 1002) ∧ ρ.i .i64 1005 = ((ρ.l 1002).length : Int) := kn.rows 5 _ _ _ _ _ _ rfl
    first
      | omega
      | (have k := und_end u (by omega) (by omega)
         omega)
      | (have k := und_bad u (by omega) (by omega) (by first | rfl | rw [Int.zero_add]) (by omega)
         omega)
      | (have r := und_read u (by omega) (by omega) (by first | rfl | rw [Int.zero_add]) (by omega) (by omega) (by omega)
         have r1 := r.lt
         have r2 := r.w
         have r3 := r.p
         first | omega | exact p1 r.w | exact p1 r.w.symm | exact p1 r.p | exact p1 r.p.symm | exact p2 r.w | exact p2 r.w.symm | exact p2 r.p | exact p2 r.p.symm)
theorem vceach3_26 : VC TTeach inveach mseach 3 teach3 weach3_26 := by
  intro ρ kn hi hp
  have hi : iveach3 ρ := hi
  unfold iveach3 at hi
  have hF : ρ.z.F = oct.Φ := kn.F
  simp only [h_nil, h_cons, d_le, d_eq, d_not, d_var, d_lit, d_cel, d_leq, d_fn, d_and, d_iff, IE.den, LE.den, AL.den, lenV, true_and, and_true, pceach3_23, pceach3_16, pceach3_12, pceach3_6, pceach3_2, pceach3_0, hF, pi2, pi3, pi4, pi5, pi6, pi7, pl1, pi8, pi9, pl3] at hp
  obtain ⟨p1, p2, p3, p4, p5, p6, p7, p8, p9, p10, p11, p12, p13, p14, p15, p16, p17, p18, p19, p20, p21⟩ := hp
  refine (show (Whole (ρ.z.rl 0) (ρ.l 1002) (ρ.l 1004) ∧ (ρ.z.rl 0).length ≤ 300) ∧ (((ρ.z.rl 0).length + 1 : Nat) < (ρ.z.rl 0).length + 2 + ((ρ.z.rl 0).length - ((ρ.i .i64 11653) + (ρ.i .i64 11652)).toNat)) from ?_)
  obtain ⟨u, h2, h3⟩ := hi
  exact ⟨⟨u.w, h3⟩, by omega⟩
theorem vceach3_27 : VC TTeach inveach mseach 3 teach3 weach3_27 := by
  intro ρ kn hi hp
  have hi : iveach3 ρ := hi
  unfold iveach3 at hi
  have hr11 : Typed [(CK.int .u8)] (ρ.z.rl 0) ∧ (((ρ.z.rl 0).length : Nat) : Int) = (((ρ.z.rl 0)).length : Int) := kn.rows 11 _ _ _ _ _ _ rfl
  have hr5 : Typed [(CK.int .u64)] (ρ.l 1002) ∧ (ρ.i .i64 1005) = (((ρ.l 1002)).length : Int) := kn.rows 5 _ _ _ _ _ _ rfl
  have hr8 : Typed [(CK.int .i64)] (ρ.l 1004) ∧ (ρ.i .i64 1005) = (((ρ.l 1004)).length : Int) := kn.rows 8 _ _ _ _ _ _ rfl
  have hF : ρ.z.F = oct.Φ := kn.F
  simp only [h_nil, h_cons, d_le, d_eq, d_not, d_var, d_lit, d_cel, d_leq, d_fn, d_and, d_iff, IE.den, LE.den, AL.den, lenV, true_and, and_true, pceach3_23, pceach3_16, pceach3_12, pceach3_6, pceach3_2, pceach3_0, hF, pi2, pi3, pi4, pi5, pi6, pi7, pl1, pi8, pi9, pl3] at hp
  obtain ⟨p1, p2, p3, p4, p5, p6, p7, p8, p9, p10, p11, p12, p13, p14, p15, p16, p17, p18, p19, p20, p21⟩ := hp
  exfalso
  all_goals
    obtain ⟨u, h2, h3⟩ := hi
    have ul := und_len u
    have un := u.n1
    have hr : Typed _ (ρ.l 1002) ∧ ρ.i .i64 1005 = ((ρ.l 1002).length : Int) := kn.rows 5 _ _ _ _ _ _ rfl
    first
      | omega
      | (have k := und_end u (by omega) (by omega)
         omega)
      | (have k := und_bad u (by omega) (by omega) (by first | rfl | rw [Int.zero_add]) (by omega)
         omega)
      | (have r := und_read u (by omega) (by omega) (by first | rfl | rw [Int.zero_add]) (by omega) (by omega) (by omega)
         have r1 := r.lt
         have r2 := r.w
         have r3 := r.p
         first | omega | exact p1 r.w | exact p1 r.w.symm | exact p1 r.p | exact p1 r.p.symm | exact p2 r.w | exact p2 r.w.symm | exact p2 r.p | exact p2 r.p.symm)
theorem vceach3_28 : VC TTeach inveach mseach 3 teach3 weach3_28 := by
  intro ρ kn hi hp
  have hi : iveach3 ρ := hi
  unfold iveach3 at hi
  have hr11 : Typed [(CK.int .u8)] (ρ.z.rl 0) ∧ (((ρ.z.rl 0).length : Nat) : Int) = (((ρ.z.rl 0)).length : Int) := kn.rows 11 _ _ _ _ _ _ rfl
  have hr5 : Typed [(CK.int .u64)] (ρ.l 1002) ∧ (ρ.i .i64 1005) = (((ρ.l 1002)).length : Int) := kn.rows 5 _ _ _ _ _ _ rfl
  have hr8 : Typed [(CK.int .i64)] (ρ.l 1004) ∧ (ρ.i .i64 1005) = (((ρ.l 1004)).length : Int) := kn.rows 8 _ _ _ _ _ _ rfl
  have hF : ρ.z.F = oct.Φ := kn.F
  simp only [h_nil, h_cons, d_le, d_eq, d_not, d_var, d_lit, d_cel, d_leq, d_fn, d_and, d_iff, IE.den, LE.den, AL.den, lenV, true_and, and_true, pceach3_24, pceach3_17, pceach3_13, pceach3_6, pceach3_2, pceach3_0, hF, pi2, pi3, pi4, pi5, pi6, pi7, pl1, pi8, pi9, pl3] at hp
  obtain ⟨p1, p2, p3, p4, p5, p6, p7, p8, p9, p10, p11, p12, p13, p14, p15, p16, p17, p18, p19, p20, p21⟩ := hp
  exfalso
  all_goals
    obtain ⟨u, h2, h3⟩ := hi
    have ul := und_len u
    have un := u.n1
    have hr : Typed _ (ρ.l 1002) ∧ ρ.i .i64 1005 = ((ρ.l 1002).length : Int) := kn.rows 5 _ _ _ _ _ _ rfl
    first
      | omega
      | (have k := und_end u (by omega) (by omega)
         omega)
      | (have k := und_bad u (by omega) (by omega) (by first | rfl | rw [Int.zero_add]) (by omega)
         omega)
      | (have r := und_read u (by omega) (by omega) (by first | rfl | rw [Int.zero_add]) (by omega) (by omega) (by omega)
         have r1 := r.lt
         have r2 := r.w
         have r3 := r.p
         first | omega | exact p1 r.w | exact p1 r.w.symm | exact p1 r.p | exact p1 r.p.symm | exact p2 r.w | exact p2 r.w.symm | exact p2 r.p | exact p2 r.p.symm)
theorem vceach3_29 : VC TTeach inveach mseach 3 teach3 weach3_29 := by
  intro ρ kn hi hp
  have hi : iveach3 ρ := hi
  unfold iveach3 at hi
  have hF : ρ.z.F = oct.Φ := kn.F
  simp only [h_nil, h_cons, d_le, d_eq, d_not, d_var, d_lit, d_cel, d_leq, d_fn, d_and, d_iff, IE.den, LE.den, AL.den, lenV, true_and, and_true, pceach3_50, pceach3_46, pceach3_42, pceach3_34, pceach3_28, pceach3_24, pceach3_17, pceach3_13, pceach3_6, pceach3_2, pceach3_0, hF, pi2, pi3, pi4, pi5, pi6, pi7, pl1, pi8, pi9, pl3] at hp
  obtain ⟨p1, p2, p3, p4, p5, p6, p7, p8, p9, p10, p11, p12, p13, p14, p15, p16, p17, p18, p19, p20, p21, p22, p23, p24, p25, p26⟩ := hp
  refine (show (Whole (ρ.z.rl 0) (ρ.l 1002) (ρ.l 1004) ∧ (ρ.z.rl 0).length ≤ 300) ∧ (((ρ.z.rl 0).length + 1 : Nat) < (ρ.z.rl 0).length + 2 + ((ρ.z.rl 0).length - ((ρ.i .i64 11653) + (ρ.i .i64 11652)).toNat)) from ?_)
  obtain ⟨u, h2, h3⟩ := hi
  exact ⟨⟨u.w, h3⟩, by omega⟩
theorem vceach3_30 : VC TTeach inveach mseach 3 teach3 weach3_30 := by
  intro ρ kn hi hp
  have hi : iveach3 ρ := hi
  unfold iveach3 at hi
  have hF : ρ.z.F = oct.Φ := kn.F
  simp only [h_nil, h_cons, d_le, d_eq, d_not, d_var, d_lit, d_cel, d_leq, d_fn, d_and, d_iff, IE.den, LE.den, AL.den, lenV, true_and, and_true, pceach3_54, pceach3_50, pceach3_46, pceach3_42, pceach3_34, pceach3_28, pceach3_24, pceach3_17, pceach3_13, pceach3_6, pceach3_2, pceach3_0, hF, pi2, pi3, pi4, pi5, pi6, pi7, pl1, pi8, pi9, pl3] at hp
  obtain ⟨p1, p2, p3, p4, p5, p6, p7, p8, p9, p10, p11, p12, p13, p14, p15, p16, p17, p18, p19, p20, p21, p22, p23, p24, p25, p26, p27⟩ := hp
  refine (show (Whole (ρ.z.rl 0) (ρ.l 1002) (ρ.l 1004) ∧ (ρ.z.rl 0).length ≤ 300) ∧ (((ρ.z.rl 0).length + 1 : Nat) < (ρ.z.rl 0).length + 2 + ((ρ.z.rl 0).length - ((ρ.i .i64 11653) + (ρ.i .i64 11652)).toNat)) from ?_)
  obtain ⟨u, h2, h3⟩ := hi
  exact ⟨⟨u.w, h3⟩, by omega⟩
theorem vceach3_31 : VC TTeach inveach mseach 3 teach3 weach3_31 := by
  intro ρ kn hi hp
  have hi : iveach3 ρ := hi
  unfold iveach3 at hi
  have hr11 : Typed [(CK.int .u8)] (ρ.z.rl 0) ∧ (((ρ.z.rl 0).length : Nat) : Int) = (((ρ.z.rl 0)).length : Int) := kn.rows 11 _ _ _ _ _ _ rfl
  have hr5 : Typed [(CK.int .u64)] (ρ.l 1002) ∧ (ρ.i .i64 1005) = (((ρ.l 1002)).length : Int) := kn.rows 5 _ _ _ _ _ _ rfl
  have hr8 : Typed [(CK.int .i64)] (ρ.l 1004) ∧ (ρ.i .i64 1005) = (((ρ.l 1004)).length : Int) := kn.rows 8 _ _ _ _ _ _ rfl
  have hF : ρ.z.F = oct.Φ := kn.F
  simp only [h_nil, h_cons, d_le, d_eq, d_not, d_var, d_lit, d_cel, d_leq, d_fn, d_and, d_iff, IE.den, LE.den, AL.den, lenV, true_and, and_true, pceach3_54, pceach3_50, pceach3_46, pceach3_42, pceach3_34, pceach3_28, pceach3_24, pceach3_17, pceach3_13, pceach3_6, pceach3_2, pceach3_0, hF, pi2, pi3, pi4, pi5, pi6, pi7, pl1, pi8, pi9, pl3] at hp
  obtain ⟨p1, p2, p3, p4, p5, p6, p7, p8, p9, p10, p11, p12, p13, p14, p15, p16, p17, p18, p19, p20, p21, p22, p23, p24, p25, p26, p27⟩ := hp
  exfalso
  all_goals
    obtain ⟨u, h2, h3⟩ := hi
    have ul := und_len u
    have un := u.n1
    have hr : Typed _ (ρ.l 1002) ∧ ρ.i .i64 1005 = ((ρ.l 1002).length : Int) := kn.rows 5 _ _ _ _ _ _ rfl
    first
      | omega
      | (have k := und_end u (by omega) (by omega)
         omega)
      | (have k := und_bad u (by omega) (by omega) (by first | rfl | rw [Int.zero_add]) (by omega)
         omega)
      | (have r := und_read u (by omega) (by omega) (by first | rfl | rw [Int.zero_add]) (by omega) (by omega) (by omega)
         have r1 := r.lt
         have r2 := r.w
         have r3 := r.p
         first | omega | exact p1 r.w | exact p1 r.w.symm | exact p1 r.p | exact p1 r.p.symm | exact p2 r.w | exact p2 r.w.symm | exact p2 r.p | exact p2 r.p.symm)
theorem vceach3_32 : VC TTeach inveach mseach 3 teach3 weach3_32 := by
  intro ρ kn hi hp
  have hi : iveach3 ρ := hi
  unfold iveach3 at hi
  have hF : ρ.z.F = oct.Φ := kn.F
  simp only [h_nil, h_cons, d_le, d_eq, d_not, d_var, d_lit, d_cel, d_leq, d_fn, d_and, d_iff, IE.den, LE.den, AL.den, lenV, true_and, and_true, pceach3_51, pceach3_46, pceach3_42, pceach3_34, pceach3_28, pceach3_24, pceach3_17, pceach3_13, pceach3_6, pceach3_2, pceach3_0, hF, pi2, pi3, pi4, pi5, pi6, pi7, pl1, pi8, pi9, pl3] at hp
  obtain ⟨p1, p2, p3, p4, p5, p6, p7, p8, p9, p10, p11, p12, p13, p14, p15, p16, p17, p18, p19, p20, p21, p22, p23, p24, p25, p26⟩ := hp
  refine (show (Whole (ρ.z.rl 0) (ρ.l 1002) (ρ.l 1004) ∧ (ρ.z.rl 0).length ≤ 300) ∧ (((ρ.z.rl 0).length + 1 : Nat) < (ρ.z.rl 0).length + 2 + ((ρ.z.rl 0).length - ((ρ.i .i64 11653) + (ρ.i .i64 11652)).toNat)) from ?_)
  obtain ⟨u, h2, h3⟩ := hi
  exact ⟨⟨u.w, h3⟩, by omega⟩
theorem vceach3_33 : VC TTeach inveach mseach 3 teach3 weach3_33 := by
  intro ρ kn hi hp
  have hi : iveach3 ρ := hi
  unfold iveach3 at hi
  have hF : ρ.z.F = oct.Φ := kn.F
  simp only [h_nil, h_cons, d_le, d_eq, d_not, d_var, d_lit, d_cel, d_leq, d_fn, d_and, d_iff, IE.den, LE.den, AL.den, lenV, true_and, and_true, pceach3_55, pceach3_51, pceach3_46, pceach3_42, pceach3_34, pceach3_28, pceach3_24, pceach3_17, pceach3_13, pceach3_6, pceach3_2, pceach3_0, hF, pi2, pi3, pi4, pi5, pi6, pi7, pl1, pi8, pi9, pl3] at hp
  obtain ⟨p1, p2, p3, p4, p5, p6, p7, p8, p9, p10, p11, p12, p13, p14, p15, p16, p17, p18, p19, p20, p21, p22, p23, p24, p25, p26, p27⟩ := hp
  refine (show (Whole (ρ.z.rl 0) (ρ.l 1002) (ρ.l 1004) ∧ (ρ.z.rl 0).length ≤ 300) ∧ (((ρ.z.rl 0).length + 1 : Nat) < (ρ.z.rl 0).length + 2 + ((ρ.z.rl 0).length - ((ρ.i .i64 11653) + (ρ.i .i64 11652)).toNat)) from ?_)
  obtain ⟨u, h2, h3⟩ := hi
  exact ⟨⟨u.w, h3⟩, by omega⟩
theorem vceach3_34 : VC TTeach inveach mseach 3 teach3 weach3_34 := by
  intro ρ kn hi hp
  have hi : iveach3 ρ := hi
  unfold iveach3 at hi
  have hr11 : Typed [(CK.int .u8)] (ρ.z.rl 0) ∧ (((ρ.z.rl 0).length : Nat) : Int) = (((ρ.z.rl 0)).length : Int) := kn.rows 11 _ _ _ _ _ _ rfl
  have hr5 : Typed [(CK.int .u64)] (ρ.l 1002) ∧ (ρ.i .i64 1005) = (((ρ.l 1002)).length : Int) := kn.rows 5 _ _ _ _ _ _ rfl
  have hr8 : Typed [(CK.int .i64)] (ρ.l 1004) ∧ (ρ.i .i64 1005) = (((ρ.l 1004)).length : Int) := kn.rows 8 _ _ _ _ _ _ rfl
  have hF : ρ.z.F = oct.Φ := kn.F
  simp only [h_nil, h_cons, d_le, d_eq, d_not, d_var, d_lit, d_cel, d_leq, d_fn, d_and, d_iff, IE.den, LE.den, AL.den, lenV, true_and, and_true, pceach3_55, pceach3_51, pceach3_46, pceach3_42, pceach3_34, pceach3_28, pceach3_24, pceach3_17, pceach3_13, pceach3_6, pceach3_2, pceach3_0, hF, pi2, pi3, pi4, pi5, pi6, pi7, pl1, pi8, pi9, pl3] at hp
  obtain ⟨p1, p2, p3, p4, p5, p6, p7, p8, p9, p10, p11, p12, p13, p14, p15, p16, p17, p18, p19, p20, p21, p22, p23, p24, p25, p26, p27⟩ := hp
  exfalso
  all_goals
    obtain ⟨u, h2, h3⟩ := hi
    have ul := und_len u
    have un := u.n1
    have hr : Typed _ (ρ.l 1002) ∧ ρ.i .i64 1005 = ((ρ.l 1002).length : Int) := kn.rows 5 _ _ _ _ _ _ rfl
    first
      | omega
      | (have k := und_end u (by omega) (by omega)
         omega)
      | (have k := und_bad u (by omega) (by omega) (by first | rfl | rw [Int.zero_add]) (by omega)
         omega)
      | (have r := und_read u (by omega) (by omega) (by first | rfl | rw [Int.zero_add]) (by omega) (by omega) (by omega)
         have r1 := r.lt
         have r2 := r.w
         have r3 := r.p
         first | omega | exact p1 r.w | exact p1 r.w.symm | exact p1 r.p | exact p1 r.p.symm | exact p2 r.w | exact p2 r.w.symm | exact p2 r.p | exact p2 r.p.symm)
theorem vceach3_35 : VC TTeach inveach mseach 3 teach3 weach3_35 := by
  intro ρ kn hi hp
  have hi : iveach3 ρ := hi
  unfold iveach3 at hi
  have hF : ρ.z.F = oct.Φ := kn.F
  simp only [h_nil, h_cons, d_le, d_eq, d_not, d_var, d_lit, d_cel, d_leq, d_fn, d_and, d_iff, IE.den, LE.den, AL.den, lenV, true_and, and_true, pceach3_47, pceach3_42, pceach3_34, pceach3_28, pceach3_24, pceach3_17, pceach3_13, pceach3_6, pceach3_2, pceach3_0, hF, pi2, pi3, pi4, pi5, pi6, pi7, pl1, pi8, pi9, pl3] at hp
  obtain ⟨p1, p2, p3, p4, p5, p6, p7, p8, p9, p10, p11, p12, p13, p14, p15, p16, p17, p18, p19, p20, p21, p22, p23, p24, p25⟩ := hp
  refine (show (Und (ρ.z.rl 0) (ρ.l 1002) (ρ.l 1004) ((ρ.i .i64 11654) + (1 : Int)) ((ρ.i .i64 11653) + ((ρ.i .i64 11652) + (1 : Int))) (0 : Int) (0 : Int) (0 : Int) ∧ (((ρ.i .i64 11654) + (1 : Int)) = 0 ∨ ((ρ.i .i64 11654) + (1 : Int)) < (ρ.i .i64 1)) ∧ (ρ.z.rl 0).length ≤ 300) ∧ (((ρ.z.rl 0).length + 2 + ((ρ.z.rl 0).length - (((ρ.i .i64 11653) + ((ρ.i .i64 11652) + (1 : Int))) + (0 : Int)).toNat) : Nat) < (ρ.z.rl 0).length + 2 + ((ρ.z.rl 0).length - ((ρ.i .i64 11653) + (ρ.i .i64 11652)).toNat)) from ?_)
  obtain ⟨u, h2, h3⟩ := hi
  have ul := und_len u
  first
    | exact ⟨⟨und_go u (by omega) (by omega) (by first | rfl | rw [Int.zero_add]) (by omega) (by omega) (by assumption), h2, h3⟩, by omega⟩
    | (have r := und_read u (by omega) (by omega) (by first | rfl | rw [Int.zero_add]) (by omega) (by omega) (by omega)
       exact ⟨⟨r.next _ (by omega), .inr (by omega), h3⟩, by omega⟩)
theorem vceach3_36 : VC TTeach inveach mseach 3 teach3 weach3_36 := by
  intro ρ kn hi hp
  have hi : iveach3 ρ := hi
  unfold iveach3 at hi
  have hF : ρ.z.F = oct.Φ := kn.F
  simp only [h_nil, h_cons, d_le, d_eq, d_not, d_var, d_lit, d_cel, d_leq, d_fn, d_and, d_iff, IE.den, LE.den, AL.den, lenV, true_and, and_true, pceach3_47, pceach3_42, pceach3_34, pceach3_28, pceach3_24, pceach3_17, pceach3_13, pceach3_6, pceach3_2, pceach3_0, hF, pi2, pi3, pi4, pi5, pi6, pi7, pl1, pi8, pi9, pl3] at hp
  obtain ⟨p1, p2, p3, p4, p5, p6, p7, p8, p9, p10, p11, p12, p13, p14, p15, p16, p17, p18, p19, p20, p21, p22, p23, p24, p25⟩ := hp
  refine (show (Und (ρ.z.rl 0) (ρ.l 1002) (ρ.l 1004) ((ρ.i .i64 11654) + (1 : Int)) ((ρ.i .i64 11653) + ((ρ.i .i64 11652) + (1 : Int))) ((ρ.i .i64 11653) + ((ρ.i .i64 11652) + (1 : Int))) (0 : Int) (0 : Int) ∧ (((ρ.i .i64 11654) + (1 : Int)) = 0 ∨ ((ρ.i .i64 11654) + (1 : Int)) < (ρ.i .i64 1)) ∧ (ρ.z.rl 0).length ≤ 300) ∧ (((ρ.z.rl 0).length + 2 + ((ρ.z.rl 0).length - (((ρ.i .i64 11653) + ((ρ.i .i64 11652) + (1 : Int))) + (0 : Int)).toNat) : Nat) < (ρ.z.rl 0).length + 2 + ((ρ.z.rl 0).length - ((ρ.i .i64 11653) + (ρ.i .i64 11652)).toNat)) from ?_)
  obtain ⟨u, h2, h3⟩ := hi
  have ul := und_len u
  first
    | exact ⟨⟨und_go u (by omega) (by omega) (by first | rfl | rw [Int.zero_add]) (by omega) (by omega) (by assumption), h2, h3⟩, by omega⟩
    | (have r := und_read u (by omega) (by omega) (by first | rfl | rw [Int.zero_add]) (by omega) (by omega) (by omega)
       exact ⟨⟨r.next _ (by omega), .inr (by omega), h3⟩, by omega⟩)
theorem vceach3_37 : VC TTeach inveach mseach 3 teach3 weach3_37 := by
  intro ρ kn hi hp
  have hi : iveach3 ρ := hi
  unfold iveach3 at hi
  have hr11 : Typed [(CK.int .u8)] (ρ.z.rl 0) ∧ (((ρ.z.rl 0).length : Nat) : Int) = (((ρ.z.rl 0)).length : Int) := kn.rows 11 _ _ _ _ _ _ rfl
  have hr5 : Typed [(CK.int .u64)] (ρ.l 1002) ∧ (ρ.i .i64 1005) = (((ρ.l 1002)).length : Int) := kn.rows 5 _ _ _ _ _ _ rfl
  have hr8 : Typed [(CK.int .i64)] (ρ.l 1004) ∧ (ρ.i .i64 1005) = (((ρ.l 1004)).length : Int) := kn.rows 8 _ _ _ _ _ _ rfl
  have hF : ρ.z.F = oct.Φ := kn.F
  simp only [h_nil, h_cons, d_le, d_eq, d_not, d_var, d_lit, d_cel, d_leq, d_fn, d_and, d_iff, IE.den, LE.den, AL.den, lenV, true_and, and_true, pceach3_34, pceach3_28, pceach3_24, pceach3_17, pceach3_13, pceach3_6, pceach3_2, pceach3_0, hF, pi2, pi3, pi4, pi5, pi6, pi7, pl1, pi8, pi9, pl3] at hp
  obtain ⟨p1, p2, p3, p4, p5, p6, p7, p8, p9, p10, p11, p12, p13, p14, p15, p16, p17, p18, p19, p20, p21, p22, p23⟩ := hp
  exfalso
  all_goals
    obtain ⟨u, h2, h3⟩ := hi
    have ul := und_len u
    have un := u.n1
    have hr : Typed _ (ρ.l 1002) ∧ ρ.i .i64 1005 = ((ρ.l 1002).length : Int) := kn.rows 5 _ _ _ _ _ _ rfl
    first
      | omega
      | (have k := und_end u (by omega) (by omega)
         omega)
      | (have k := und_bad u (by omega) (by omega) (by first | rfl | rw [Int.zero_add]) (by omega)
         omega)
      | (have r := und_read u (by omega) (by omega) (by first | rfl | rw [Int.zero_add]) (by omega) (by omega) (by omega)
         have r1 := r.lt
         have r2 := r.w
         have r3 := r.p
         first | omega | exact p1 r.w | exact p1 r.w.symm | exact p1 r.p | exact p1 r.p.symm | exact p2 r.w | exact p2 r.w.symm | exact p2 r.p | exact p2 r.p.symm)
theorem vceach3_38 : VC TTeach inveach mseach 3 teach3 weach3_38 := by
  intro ρ kn hi hp
  have hi : iveach3 ρ := hi
  unfold iveach3 at hi
  have hr11 : Typed [(CK.int .u8)] (ρ.z.rl 0) ∧ (((ρ.z.rl 0).length : Nat) : Int) = (((ρ.z.rl 0)).length : Int) := kn.rows 11 _ _ _ _ _ _ rfl
  have hr5 : Typed [(CK.int .u64)] (ρ.l 1002) ∧ (ρ.i .i64 1005) = (((ρ.l 1002)).length : Int) := kn.rows 5 _ _ _ _ _ _ rfl
  have hr8 : Typed [(CK.int .i64)] (ρ.l 1004) ∧ (ρ.i .i64 1005) = (((ρ.l 1004)).length : Int) := kn.rows 8 _ _ _ _ _ _ rfl
  have hF : ρ.z.F = oct.Φ := kn.F
  simp only [h_nil, h_cons, d_le, d_eq, d_not, d_var, d_lit, d_cel, d_leq, d_fn, d_and, d_iff, IE.den, LE.den, AL.den, lenV, true_and, and_true, pceach3_28, pceach3_24, pceach3_17, pceach3_13, pceach3_6, pceach3_2, pceach3_0, hF, pi2, pi3, pi4, pi5, pi6, pi7, pl1, pi8, pi9, pl3] at hp
  obtain ⟨p1, p2, p3, p4, p5, p6, p7, p8, p9, p10, p11, p12, p13, p14, p15, p16, p17, p18, p19, p20, p21, p22⟩ := hp
  exfalso
  all_goals
    obtain ⟨u, h2, h3⟩ := hi
    have ul := und_len u
    have un := u.n1
    have hr : Typed _ (ρ.l 1002) ∧ ρ.i .i64 1005 = ((ρ.l 1002).length : Int) := kn.rows 5 _ _ _ _ _ _ rfl
    first
      | omega
      | (have k := und_end u (by omega) (by omega)
         omega)
      | (have k := und_bad u (by omega) (by omega) (by first | rfl | rw [Int.zero_add]) (by omega)
         omega)
      | (have r := und_read u (by omega) (by omega) (by first | rfl | rw [Int.zero_add]) (by omega) (by omega) (by omega)
         have r1 := r.lt
         have r2 := r.w
         have r3 := r.p
         first | omega | exact p1 r.w | exact p1 r.w.symm | exact p1 r.p | exact p1 r.p.symm | exact p2 r.w | exact p2 r.w.symm | exact p2 r.p | exact p2 r.p.symm)
theorem vceach3_39 : VC TTeach inveach mseach 3 teach3 weach3_39 := by
  intro ρ kn hi hp
  have hi : iveach3 ρ := hi
  unfold iveach3 at hi
  have hF : ρ.z.F = oct.Φ := kn.F
  simp only [h_nil, h_cons, d_le, d_eq, d_not, d_var, d_lit, d_cel, d_leq, d_fn, d_and, d_iff, IE.den, LE.den, AL.den, lenV, true_and, and_true, pceach3_35, pceach3_29, pceach3_25, pceach3_17, pceach3_13, pceach3_6, pceach3_2, pceach3_0, hF, pi2, pi3, pi4, pi5, pi6, pi7, pl1, pi8, pi9, pl3] at hp
  obtain ⟨p1, p2, p3, p4, p5, p6, p7, p8, p9, p10, p11, p12, p13, p14, p15, p16, p17, p18, p19, p20, p21, p22, p23⟩ := hp
  refine (show (Whole (ρ.z.rl 0) (ρ.l 1002) (ρ.l 1004) ∧ (ρ.z.rl 0).length ≤ 300) ∧ (((ρ.z.rl 0).length + 1 : Nat) < (ρ.z.rl 0).length + 2 + ((ρ.z.rl 0).length - ((ρ.i .i64 11653) + (ρ.i .i64 11652)).toNat)) from ?_)
  obtain ⟨u, h2, h3⟩ := hi
  exact ⟨⟨u.w, h3⟩, by omega⟩
theorem vceach3_40 : VC TTeach inveach mseach 3 teach3 weach3_40 := by
  intro ρ kn hi hp
  have hi : iveach3 ρ := hi
  unfold iveach3 at hi
  have hr11 : Typed [(CK.int .u8)] (ρ.z.rl 0) ∧ (((ρ.z.rl 0).length : Nat) : Int) = (((ρ.z.rl 0)).length : Int) := kn.rows 11 _ _ _ _ _ _ rfl
  have hr5 : Typed [(CK.int .u64)] (ρ.l 1002) ∧ (ρ.i .i64 1005) = (((ρ.l 1002)).length : Int) := kn.rows 5 _ _ _ _ _ _ rfl
  have hr8 : Typed [(CK.int .i64)] (ρ.l 1004) ∧ (ρ.i .i64 1005) = (((ρ.l 1004)).length : Int) := kn.rows 8 _ _ _ _ _ _ rfl
  have hF : ρ.z.F = oct.Φ := kn.F
  simp only [h_nil, h_cons, d_le, d_eq, d_not, d_var, d_lit, d_cel, d_leq, d_fn, d_and, d_iff, IE.den, LE.den, AL.den, lenV, true_and, and_true, pceach3_35, pceach3_29, pceach3_25, pceach3_17, pceach3_13, pceach3_6, pceach3_2, pceach3_0, hF, pi2, pi3, pi4, pi5, pi6, pi7, pl1, pi8, pi9, pl3] at hp
  obtain ⟨p1, p2, p3, p4, p5, p6, p7, p8, p9, p10, p11, p12, p13, p14, p15, p16, p17, p18, p19, p20, p21, p22, p23⟩ := hp
  exfalso
  all_goals
    obtain ⟨u, h2, h3⟩ := hi
    have ul := und_len u
    have un := u.n1
    have hr : Typed _ (ρ.l 1002) ∧ ρ.i .i64 1005 = ((ρ.l 1002).length : Int) := kn.rows 5 _ _ _ _ _ _ rfl
    first
      | omega
      | (have k := und_end u (by omega) (by omega)
         omega)
      | (have k := und_bad u (by omega) (by omega) (by first | rfl | rw [Int.zero_add]) (by omega)
         omega)
      | (have r := und_read u (by omega) (by omega) (by first | rfl | rw [Int.zero_add]) (by omega) (by omega) (by omega)
         have r1 := r.lt
         have r2 := r.w
         have r3 := r.p
         first | omega | exact p1 r.w | exact p1 r.w.symm | exact p1 r.p | exact p1 r.p.symm | exact p2 r.w | exact p2 r.w.symm | exact p2 r.p | exact p2 r.p.symm)
theorem vceach3_41 : VC TTeach inveach mseach 3 teach3 weach3_41 := by
  intro ρ kn hi hp
  have hi : iveach3 ρ := hi
  unfold iveach3 at hi
  have hF : ρ.z.F = oct.Φ := kn.F
  simp only [h_nil, h_cons, d_le, d_eq, d_not, d_var, d_lit, d_cel, d_leq, d_fn, d_and, d_iff, IE.den, LE.den, AL.den, lenV, true_and, and_true, pceach3_36, pceach3_29, pceach3_25, pceach3_17, pceach3_13, pceach3_6, pceach3_2, pceach3_0, hF, pi2, pi3, pi4, pi5, pi6, pi7, pl1, pi8, pi9, pl3] at hp
  obtain ⟨p1, p2, p3, p4, p5, p6, p7, p8, p9, p10, p11, p12, p13, p14, p15, p16, p17, p18, p19, p20, p21, p22, p23⟩ := hp
  refine (show (Whole (ρ.z.rl 0) (ρ.l 1002) (ρ.l 1004) ∧ (ρ.z.rl 0).length ≤ 300) ∧ (((ρ.z.rl 0).length + 1 : Nat) < (ρ.z.rl 0).length + 2 + ((ρ.z.rl 0).length - ((ρ.i .i64 11653) + (ρ.i .i64 11652)).toNat)) from ?_)
  obtain ⟨u, h2, h3⟩ := hi
  exact ⟨⟨u.w, h3⟩, by omega⟩
theorem vceach3_42 : VC TTeach inveach mseach 3 teach3 weach3_42 := by
  intro ρ kn hi hp
  have hi : iveach3 ρ := hi
  unfold iveach3 at hi
  have hr11 : Typed [(CK.int .u8)] (ρ.z.rl 0) ∧ (((ρ.z.rl 0).length : Nat) : Int) = (((ρ.z.rl 0)).length : Int) := kn.rows 11 _ _ _ _ _ _ rfl
  have hr5 : Typed [(CK.int .u64)] (ρ.l 1002) ∧ (ρ.i .i64 1005) = (((ρ.l 1002)).length : Int) := kn.rows 5 _ _ _ _ _ _ rfl
  have hr8 : Typed [(CK.int .i64)] (ρ.l 1004) ∧ (ρ.i .i64 1005) = (((ρ.l 1004)).length : Int) := kn.rows 8 _ _ _ _ _ _ rfl
  have hF : ρ.z.F = oct.Φ := kn.F
  simp only [h_nil, h_cons, d_le, d_eq, d_not, d_var, d_lit, d_cel, d_leq, d_fn, d_and, d_iff, IE.den, LE.den, AL.den, lenV, true_and, and_true, pceach3_36, pceach3_29, pceach3_25, pceach3_17, pceach3_13, pceach3_6, pceach3_2, pceach3_0, hF, pi2, pi3, pi4, pi5, pi6, pi7, pl1, pi8, pi9, pl3] at hp
  obtain ⟨p1, p2, p3, p4, p5, p6, p7, p8, p9, p10, p11, p12, p13, p14, p15, p16, p17, p18, p19, p20, p21, p22, p23⟩ := hp
  exfalso
  all_goals
    obtain ⟨u, h2, h3⟩ := hi
    have ul := und_len u
    have un := u.n1
    have hr : Typed _ (ρ.l 1002) ∧ ρ.i .i64 1005 = ((ρ.l 1002).length : Int) := kn.rows 5 _ _ _ _ _ _ rfl
    first
      | omega
      | (have k := und_end u (by omega) (by omega)
         omega)
      | (have k := und_bad u (by omega) (by omega) (by first | rfl | rw [Int.zero_add]) (by omega)
         omega)
      | (have r := und_read u (by omega) (by omega) (by first | rfl | rw [Int.zero_add]) (by omega) (by omega) (by omega)
         have r1 := r.lt
         have r2 := r.w
         have r3 := r.p
         first | omega | exact p1 r.w | exact p1 r.w.symm | exact p1 r.p | exact p1 r.p.symm | exact p2 r.w | exact p2 r.w.symm | exact p2 r.p | exact p2 r.p.symm)
theorem vceach3_43 : VC TTeach inveach mseach 3 teach3 weach3_43 := by
  intro ρ kn hi hp
  have hi : iveach3 ρ := hi
  unfold iveach3 at hi
  have hF : ρ.z.F = oct.Φ := kn.F
  simp only [h_nil, h_cons, d_le, d_eq, d_not, d_var, d_lit, d_cel, d_leq, d_fn, d_and, d_iff, IE.den, LE.den, AL.den, lenV, true_and, and_true, pceach3_37, pceach3_30, pceach3_25, pceach3_17, pceach3_13, pceach3_6, pceach3_2, pceach3_0, hF, pi2, pi3, pi4, pi5, pi6, pi7, pl1, pi8, pi9, pl3] at hp
  obtain ⟨p1, p2, p3, p4, p5, p6, p7, p8, p9, p10, p11, p12, p13, p14, p15, p16, p17, p18, p19, p20, p21, p22, p23⟩ := hp
  refine (show (Whole (ρ.z.rl 0) (ρ.l 1002) (ρ.l 1004) ∧ (ρ.z.rl 0).length ≤ 300) ∧ (((ρ.z.rl 0).length + 1 : Nat) < (ρ.z.rl 0).length + 2 + ((ρ.z.rl 0).length - ((ρ.i .i64 11653) + (ρ.i .i64 11652)).toNat)) from ?_)
  obtain ⟨u, h2, h3⟩ := hi
  exact ⟨⟨u.w, h3⟩, by omega⟩
theorem vceach3_44 : VC TTeach inveach mseach 3 teach3 weach3_44 := by
  intro ρ kn hi hp
  have hi : iveach3 ρ := hi
  unfold iveach3 at hi
  have hr11 : Typed [(CK.int .u8)] (ρ.z.rl 0) ∧ (((ρ.z.rl 0).length : Nat) : Int) = (((ρ.z.rl 0)).length : Int) := kn.rows 11 _ _ _ _ _ _ rfl
  have hr5 : Typed [(CK.int .u64)] (ρ.l 1002) ∧ (ρ.i .i64 1005) = (((ρ.l 1002)).length : Int) := kn.rows 5 _ _ _ _ _ _ rfl
  have hr8 : Typed [(CK.int .i64)] (ρ.l 1004) ∧ (ρ.i .i64 1005) = (((ρ.l 1004)).length : Int) := kn.rows 8 _ _ _ _ _ _ rfl
  have hF : ρ.z.F = oct.Φ := kn.F
  simp only [h_nil, h_cons, d_le, d_eq, d_not, d_var, d_lit, d_cel, d_leq, d_fn, d_and, d_iff, IE.den, LE.den, AL.den, lenV, true_and, and_true, pceach3_37, pceach3_30, pceach3_25, pceach3_17, pceach3_13, pceach3_6, pceach3_2, pceach3_0, hF, pi2, pi3, pi4, pi5, pi6, pi7, pl1, pi8, pi9, pl3] at hp
  obtain ⟨p1, p2, p3, p4, p5, p6, p7, p8, p9, p10, p11, p12, p13, p14, p15, p16, p17, p18, p19, p20, p21, p22, p23⟩ := hp
  exfalso
  all_goals
    obtain ⟨u, h2, h3⟩ := hi
    have ul := und_len u
    have un := u.n1
    have hr : Typed _ (ρ.l 1002) ∧ ρ.i .i64 1005 = ((ρ.l 1002).length : Int) := kn.rows 5 _ _ _ _ _ _ rfl
    first
      | omega
      | (have k := und_end u (by omega) (by omega)
         omega)
      | (have k := und_bad u (by omega) (by omega) (by first | rfl | rw [Int.zero_add]) (by omega)
         omega)
      | (have r := und_read u (by omega) (by omega) (by first | rfl | rw [Int.zero_add]) (by omega) (by omega) (by omega)
         have r1 := r.lt
         have r2 := r.w
         have r3 := r.p
         first | omega | exact p1 r.w | exact p1 r.w.symm | exact p1 r.p | exact p1 r.p.symm | exact p2 r.w | exact p2 r.w.symm | exact p2 r.p | exact p2 r.p.symm)
theorem vceach3_45 : VC TTeach inveach mseach 3 teach3 weach3_45 := by
  intro ρ kn hi hp
  have hi : iveach3 ρ := hi
  unfold iveach3 at hi
  have hF : ρ.z.F = oct.Φ := kn.F
  simp only [h_nil, h_cons, d_le, d_eq, d_not, d_var, d_lit, d_cel, d_leq, d_fn, d_and, d_iff, IE.den, LE.den, AL.den, lenV, true_and, and_true, pceach3_38, pceach3_30, pceach3_25, pceach3_17, pceach3_13, pceach3_6, pceach3_2, pceach3_0, hF, pi2, pi3, pi4, pi5, pi6, pi7, pl1, pi8, pi9, pl3] at hp
  obtain ⟨p1, p2, p3, p4, p5, p6, p7, p8, p9, p10, p11, p12, p13, p14, p15, p16, p17, p18, p19, p20, p21, p22, p23⟩ := hp
  refine (show (Whole (ρ.z.rl 0) (ρ.l 1002) (ρ.l 1004) ∧ (ρ.z.rl 0).length ≤ 300) ∧ (((ρ.z.rl 0).length + 1 : Nat) < (ρ.z.rl 0).length + 2 + ((ρ.z.rl 0).length - ((ρ.i .i64 11653) + (ρ.i .i64 11652)).toNat)) from ?_)
  obtain ⟨u, h2, h3⟩ := hi
  exact ⟨⟨u.w, h3⟩, by omega⟩
theorem vceach3_46 : VC TTeach inveach mseach 3 teach3 weach3_46 := by
  intro ρ kn hi hp
  have hi : iveach3 ρ := hi
  unfold iveach3 at hi
  have hr11 : Typed [(CK.int .u8)] (ρ.z.rl 0) ∧ (((ρ.z.rl 0).length : Nat) : Int) = (((ρ.z.rl 0)).length : Int) := kn.rows 11 _ _ _ _ _ _ rfl
  have hr5 : Typed [(CK.int .u64)] (ρ.l 1002) ∧ (ρ.i .i64 1005) = (((ρ.l 1002)).length : Int) := kn.rows 5 _ _ _ _ _ _ rfl
  have hr8 : Typed [(CK.int .i64)] (ρ.l 1004) ∧ (ρ.i .i64 1005) = (((ρ.l 1004)).length : Int) := kn.rows 8 _ _ _ _ _ _ rfl
  have hF : ρ.z.F = oct.Φ := kn.F
  simp only [h_nil, h_cons, d_le, d_eq, d_not, d_var, d_lit, d_cel, d_leq, d_fn, d_and, d_iff, IE.den, LE.den, AL.den, lenV, true_and, and_true, pceach3_38, pceach3_30, pceach3_25, pceach3_17, pceach3_13, pceach3_6, pceach3_2, pceach3_0, hF, pi2, pi3, pi4, pi5, pi6, pi7, pl1, pi8, pi9, pl3] at hp
  obtain ⟨p1, p2, p3, p4, p5, p6, p7, p8, p9, p10, p11, p12, p13, p14, p15, p16, p17, p18, p19, p20, p21, p22, p23⟩ := hp
  exfalso
  all_goals
    obtain ⟨u, h2, h3⟩ := hi
    have ul := und_len u
    have un := u.n1
    have hr : Typed _ (ρ.l 1002) ∧ ρ.i .i64 1005 = ((ρ.l 1002).length : Int) := kn.rows 5 _ _ _ _ _ _ rfl
    first
      | omega
      | (have k := und_end u (by omega) (by omega)
         omega)
      | (have k := und_bad u (by omega) (by omega) (by first | rfl | rw [Int.zero_add]) (by omega)
         omega)
      | (have r := und_read u (by omega) (by omega) (by first | rfl | rw [Int.zero_add]) (by omega) (by omega) (by omega)
         have r1 := r.lt
         have r2 := r.w
         have r3 := r.p
         first | omega | exact p1 r.w | exact p1 r.w.symm | exact p1 r.p | exact p1 r.p.symm | exact p2 r.w | exact p2 r.w.symm | exact p2 r.p | exact p2 r.p.symm)
theorem vceach3_47 : VC TTeach inveach mseach 3 teach3 weach3_47 := by
  intro ρ kn hi hp
  have hi : iveach3 ρ := hi
  unfold iveach3 at hi
  have hF : ρ.z.F = oct.Φ := kn.F
  simp only [h_nil, h_cons, d_le, d_eq, d_not, d_var, d_lit, d_cel, d_leq, d_fn, d_and, d_iff, IE.den, LE.den, AL.den, lenV, true_and, and_true, pceach3_18, pceach3_13, pceach3_6, pceach3_2, pceach3_0, hF, pi2, pi3, pi4, pi5, pi6, pi7, pl1, pi8, pi9, pl3] at hp
  obtain ⟨p1, p2, p3, p4, p5, p6, p7, p8, p9, p10, p11, p12, p13, p14, p15, p16, p17, p18, p19, p20⟩ := hp
  refine (show (Und (ρ.z.rl 0) (ρ.l 1002) (ρ.l 1004) (ρ.i .i64 11654) (ρ.i .i64 11653) (ρ.i .i64 11649) ((ρ.i .i64 11652) + (1 : Int)) (binI BinOp.or .u64 (ρ.i .u64 11655) (binI BinOp.shl .u64 (binI BinOp.and .u8 (clampK .u8 (intV (celV (ρ.z.rl 0) ((ρ.i .i64 11649) + (ρ.i .i64 11652)) 0))) (127 : Int)) ((7 : Int) * (ρ.i .i64 11652)))) ∧ ((ρ.i .i64 11654) = 0 ∨ (ρ.i .i64 11654) < (ρ.i .i64 1)) ∧ (ρ.z.rl 0).length ≤ 300) ∧ (((ρ.z.rl 0).length + 2 + ((ρ.z.rl 0).length - ((ρ.i .i64 11653) + ((ρ.i .i64 11652) + (1 : Int))).toNat) : Nat) < (ρ.z.rl 0).length + 2 + ((ρ.z.rl 0).length - ((ρ.i .i64 11653) + (ρ.i .i64 11652)).toNat)) from ?_)
  obtain ⟨u, h2, h3⟩ := hi
  have ul := und_len u
  first
    | exact ⟨⟨und_go u (by omega) (by omega) (by first | rfl | rw [Int.zero_add]) (by omega) (by omega) (by assumption), h2, h3⟩, by omega⟩
    | (have r := und_read u (by omega) (by omega) (by first | rfl | rw [Int.zero_add]) (by omega) (by omega) (by omega)
       exact ⟨⟨r.next _ (by omega), .inr (by omega), h3⟩, by omega⟩)
theorem vceach3_48 : VC TTeach inveach mseach 3 teach3 weach3_48 := by
  intro ρ kn hi hp
  have hi : iveach3 ρ := hi
  unfold iveach3 at hi
  have hr11 : Typed [(CK.int .u8)] (ρ.z.rl 0) ∧ (((ρ.z.rl 0).length : Nat) : Int) = (((ρ.z.rl 0)).length : Int) := kn.rows 11 _ _ _ _ _ _ rfl
  have hr5 : Typed [(CK.int .u64)] (ρ.l 1002) ∧ (ρ.i .i64 1005) = (((ρ.l 1002)).length : Int) := kn.rows 5 _ _ _ _ _ _ rfl
  have hr8 : Typed [(CK.int .i64)] (ρ.l 1004) ∧ (ρ.i .i64 1005) = (((ρ.l 1004)).length : Int) := kn.rows 8 _ _ _ _ _ _ rfl
  have hF : ρ.z.F = oct.Φ := kn.F
  simp only [h_nil, h_cons, d_le, d_eq, d_not, d_var, d_lit, d_cel, d_leq, d_fn, d_and, d_iff, IE.den, LE.den, AL.den, lenV, true_and, and_true, pceach3_26, pceach3_18, pceach3_13, pceach3_6, pceach3_2, pceach3_0, hF, pi2, pi3, pi4, pi5, pi6, pi7, pl1, pi8, pi9, pl3] at hp
  obtain ⟨p1, p2, p3, p4, p5, p6, p7, p8, p9, p10, p11, p12, p13, p14, p15, p16, p17, p18, p19, p20, p21⟩ := hp
  exfalso
  all_goals
    obtain ⟨u, h2, h3⟩ := hi
    have ul := und_len u
    have un := u.n1
    have hr : Typed _ (ρ.l 1002) ∧ ρ.i .i64 1005 = ((ρ.l 1002).length : Int) := kn.rows 5 _ _ _ _ _ _ rfl
    first
      | omega
      | (have k := und_end u (by omega) (by omega)
         omega)
      | (have k := und_bad u (by omega) (by omega) (by first | rfl | rw [Int.zero_add]) (by omega)
         omega)
      | (have r := und_read u (by omega) (by omega) (by first | rfl | rw [Int.zero_add]) (by omega) (by omega) (by omega)
         have r1 := r.lt
         have r2 := r.w
         have r3 := r.p
         first | omega | exact p1 r.w | exact p1 r.w.symm | exact p1 r.p | exact p1 r.p.symm | exact p2 r.w | exact p2 r.w.symm | exact p2 r.p | exact p2 r.p.symm)
theorem vceach3_49 : VC TTeach inveach mseach 3 teach3 weach3_49 := by
  intro ρ kn hi hp
  have hi : iveach3 ρ := hi
  unfold iveach3 at hi
  have hF : ρ.z.F = oct.Φ := kn.F
  simp only [h_nil, h_cons, d_le, d_eq, d_not, d_var, d_lit, d_cel, d_leq, d_fn, d_and, d_iff, IE.den, LE.den, AL.den, lenV, true_and, and_true, pceach3_52, pceach3_48, pceach3_43, pceach3_39, pceach3_31, pceach3_26, pceach3_18, pceach3_13, pceach3_6, pceach3_2, pceach3_0, hF, pi2, pi3, pi4, pi5, pi6, pi7, pl1, pi8, pi9, pl3] at hp
  obtain ⟨p1, p2, p3, p4, p5, p6, p7, p8, p9, p10, p11, p12, p13, p14, p15, p16, p17, p18, p19, p20, p21, p22, p23, p24, p25, p26⟩ := hp
  refine (show (Whole (ρ.z.rl 0) (ρ.l 1002) (ρ.l 1004) ∧ (ρ.z.rl 0).length ≤ 300) ∧ (((ρ.z.rl 0).length + 1 : Nat) < (ρ.z.rl 0).length + 2 + ((ρ.z.rl 0).length - ((ρ.i .i64 11653) + (ρ.i .i64 11652)).toNat)) from ?_)
  obtain ⟨u, h2, h3⟩ := hi
  exact ⟨⟨u.w, h3⟩, by omega⟩
theorem vceach3_50 : VC TTeach inveach mseach 3 teach3 weach3_50 := by
  intro ρ kn hi hp
  have hi : iveach3 ρ := hi
  unfold iveach3 at hi
  have hF : ρ.z.F = oct.Φ := kn.F
  simp only [h_nil, h_cons, d_le, d_eq, d_not, d_var, d_lit, d_cel, d_leq, d_fn, d_and, d_iff, IE.den, LE.den, AL.den, lenV, true_and, and_true, pceach3_56, pceach3_52, pceach3_48, pceach3_43, pceach3_39, pceach3_31, pceach3_26, pceach3_18, pceach3_13, pceach3_6, pceach3_2, pceach3_0, hF, pi2, pi3, pi4, pi5, pi6, pi7, pl1, pi8, pi9, pl3] at hp
  obtain ⟨p1, p2, p3, p4, p5, p6, p7, p8, p9, p10, p11, p12, p13, p14, p15, p16, p17, p18, p19, p20, p21, p22, p23, p24, p25, p26, p27⟩ := hp
  refine (show (Whole (ρ.z.rl 0) (ρ.l 1002) (ρ.l 1004) ∧ (ρ.z.rl 0).length ≤ 300) ∧ (((ρ.z.rl 0).length + 1 : Nat) < (ρ.z.rl 0).length + 2 + ((ρ.z.rl 0).length - ((ρ.i .i64 11653) + (ρ.i .i64 11652)).toNat)) from ?_)
  obtain ⟨u, h2, h3⟩ := hi
  exact ⟨⟨u.w, h3⟩, by omega⟩
theorem vceach3_51 : VC TTeach inveach mseach 3 teach3 weach3_51 := by
  intro ρ kn hi hp
  have hi : iveach3 ρ := hi
  unfold iveach3 at hi
  have hr11 : Typed [(CK.int .u8)] (ρ.z.rl 0) ∧ (((ρ.z.rl 0).length : Nat) : Int) = (((ρ.z.rl 0)).length : Int) := kn.rows 11 _ _ _ _ _ _ rfl
  have hr5 : Typed [(CK.int .u64)] (ρ.l 1002) ∧ (ρ.i .i64 1005) = (((ρ.l 1002)).length : Int) := kn.rows 5 _ _ _ _ _ _ rfl
  have hr8 : Typed [(CK.int .i64)] (ρ.l 1004) ∧ (ρ.i .i64 1005) = (((ρ.l 1004)).length : Int) := kn.rows 8 _ _ _ _ _ _ rfl
  have hF : ρ.z.F = oct.Φ := kn.F
  simp only [h_nil, h_cons, d_le, d_eq, d_not, d_var, d_lit, d_cel, d_leq, d_fn, d_and, d_iff, IE.den, LE.den, AL.den, lenV, true_and, and_true, pceach3_56, pceach3_52, pceach3_48, pceach3_43, pceach3_39, pceach3_31, pceach3_26, pceach3_18, pceach3_13, pceach3_6, pceach3_2, pceach3_0, hF, pi2, pi3, pi4, pi5, pi6, pi7, pl1, pi8, pi9, pl3] at hp
  obtain ⟨p1, p2, p3, p4, p5, p6, p7, p8, p9, p10, p11, p12, p13, p14, p15, p16, p17, p18, p19, p20, p21, p22, p23, p24, p25, p26, p27⟩ := hp
  exfalso
  all_goals
    obtain ⟨u, h2, h3⟩ := hi
    have ul := und_len u
    have un := u.n1
    have hr : Typed _ (ρ.l 1002) ∧ ρ.i .i64 1005 = ((ρ.l 1002).length : Int) := kn.rows 5 _ _ _ _ _ _ rfl
    first
      | omega
      | (have k := und_end u (by omega) (by omega)
         omega)
      | (have k := und_bad u (by omega) (by omega) (by first | rfl | rw [Int.zero_add]) (by omega)
         omega)
      | (have r := und_read u (by omega) (by omega) (by first | rfl | rw [Int.zero_add]) (by omega) (by omega) (by omega)
         have r1 := r.lt
         have r2 := r.w
         have r3 := r.p
         first | omega | exact p1 r.w | exact p1 r.w.symm | exact p1 r.p | exact p1 r.p.symm | exact p2 r.w | exact p2 r.w.symm | exact p2 r.p | exact p2 r.p.symm)
theorem vceach3_52 : VC TTeach inveach mseach 3 teach3 weach3_52 := by
  intro ρ kn hi hp
  have hi : iveach3 ρ := hi
  unfold iveach3 at hi
  have hF : ρ.z.F = oct.Φ := kn.F
  simp only [h_nil, h_cons, d_le, d_eq, d_not, d_var, d_lit, d_cel, d_leq, d_fn, d_and, d_iff, IE.den, LE.den, AL.den, lenV, true_and, and_true, pceach3_53, pceach3_48, pceach3_43, pceach3_39, pceach3_31, pceach3_26, pceach3_18, pceach3_13, pceach3_6, pceach3_2, pceach3_0, hF, pi2, pi3, pi4, pi5, pi6, pi7, pl1, pi8, pi9, pl3] at hp
  obtain ⟨p1, p2, p3, p4, p5, p6, p7, p8, p9, p10, p11, p12, p13, p14, p15, p16, p17, p18, p19, p20, p21, p22, p23, p24, p25, p26⟩ := hp
  refine (show (Whole (ρ.z.rl 0) (ρ.l 1002) (ρ.l 1004) ∧ (ρ.z.rl 0).length ≤ 300) ∧ (((ρ.z.rl 0).length + 1 : Nat) < (ρ.z.rl 0).length + 2 + ((ρ.z.rl 0).length - ((ρ.i .i64 11653) + (ρ.i .i64 11652)).toNat)) from ?_)
  obtain ⟨u, h2, h3⟩ := hi
  exact ⟨⟨u.w, h3⟩, by omega⟩
theorem vceach3_53 : VC TTeach inveach mseach 3 teach3 weach3_53 := by
  intro ρ kn hi hp
  have hi : iveach3 ρ := hi
  unfold iveach3 at hi
  have hF : ρ.z.F = oct.Φ := kn.F
  simp only [h_nil, h_cons, d_le, d_eq, d_not, d_var, d_lit, d_cel, d_leq, d_fn, d_and, d_iff, IE.den, LE.den, AL.den, lenV, true_and, and_true, pceach3_57, pceach3_53, pceach3_48, pceach3_43, pceach3_39, pceach3_31, pceach3_26, pceach3_18, pceach3_13, pceach3_6, pceach3_2, pceach3_0, hF, pi2, pi3, pi4, pi5, pi6, pi7, pl1, pi8, pi9, pl3] at hp
  obtain ⟨p1, p2, p3, p4, p5, p6, p7, p8, p9, p10, p11, p12, p13, p14, p15, p16, p17, p18, p19, p20, p21, p22, p23, p24, p25, p26, p27⟩ := hp
  refine (show (Whole (ρ.z.rl 0) (ρ.l 1002) (ρ.l 1004) ∧ (ρ.z.rl 0).length ≤ 300) ∧ (((ρ.z.rl 0).length + 1 : Nat) < (ρ.z.rl 0).length + 2 + ((ρ.z.rl 0).length - ((ρ.i .i64 11653) + (ρ.i .i64 11652)).toNat)) from ?_)
  obtain ⟨u, h2, h3⟩ := hi
  exact ⟨⟨u.w, h3⟩, by omega⟩
theorem vceach3_54 : VC TTeach inveach mseach 3 teach3 weach3_54 := by
  intro ρ kn hi hp
  have hi : iveach3 ρ := hi
  unfold iveach3 at hi
  have hr11 : Typed [(CK.int .u8)] (ρ.z.rl 0) ∧ (((ρ.z.rl 0).length : Nat) : Int) = (((ρ.z.rl 0)).length : Int) := kn.rows 11 _ _ _ _ _ _ rfl
  have hr5 : Typed [(CK.int .u64)] (ρ.l 1002) ∧ (ρ.i .i64 1005) = (((ρ.l 1002)).length : Int) := kn.rows 5 _ _ _ _ _ _ rfl
  have hr8 : Typed [(CK.int .i64)] (ρ.l 1004) ∧ (ρ.i .i64 1005) = (((ρ.l 1004)).length : Int) := kn.rows 8 _ _ _ _ _ _ rfl
  have hF : ρ.z.F = oct.Φ := kn.F
  simp only [h_nil, h_cons, d_le, d_eq, d_not, d_var, d_lit, d_cel, d_leq, d_fn, d_and, d_iff, IE.den, LE.den, AL.den, lenV, true_and, and_true, pceach3_57, pceach3_53, pceach3_48, pceach3_43, pceach3_39, pceach3_31, pceach3_26, pceach3_18, pceach3_13, pceach3_6, pceach3_2, pceach3_0, hF, pi2, pi3, pi4, pi5, pi6, pi7, pl1, pi8, pi9, pl3] at hp
  obtain ⟨p1, p2, p3, p4, p5, p6, p7, p8, p9, p10, p11, p12, p13, p14, p15, p16, p17, p18, p19, p20, p21, p22, p23, p24, p25, p26, p27⟩ := hp
  exfalso
  all_goals
    obtain ⟨u, h2, h3⟩ := hi
    have ul := und_len u
    have un := u.n1
    have hr : Typed _ (ρ.l 1002) ∧ ρ.i .i64 1005 = ((ρ.l 1002).length : Int) := kn.rows 5 _ _ _ _ _ _ rfl
    first
      | omega
      | (have k := und_end u (by omega) (by omega)
         omega)
      | (have k := und_bad u (by omega) (by omega) (by first | rfl | rw [Int.zero_add]) (by omega)
         omega)
      | (have r := und_read u (by omega) (by omega) (by first | rfl | rw [Int.zero_add]) (by omega) (by omega) (by omega)
         have r1 := r.lt
         have r2 := r.w
         have r3 := r.p
         first | omega | exact p1 r.w | exact p1 r.w.symm | exact p1 r.p | exact p1 r.p.symm | exact p2 r.w | exact p2 r.w.symm | exact p2 r.p | exact p2 r.p.symm)
theorem vceach3_55 : VC TTeach inveach mseach 3 teach3 weach3_55 := by
  intro ρ kn hi hp
  have hi : iveach3 ρ := hi
  unfold iveach3 at hi
  have hF : ρ.z.F = oct.Φ := kn.F
  simp only [h_nil, h_cons, d_le, d_eq, d_not, d_var, d_lit, d_cel, d_leq, d_fn, d_and, d_iff, IE.den, LE.den, AL.den, lenV, true_and, and_true, pceach3_49, pceach3_43, pceach3_39, pceach3_31, pceach3_26, pceach3_18, pceach3_13, pceach3_6, pceach3_2, pceach3_0, hF, pi2, pi3, pi4, pi5, pi6, pi7, pl1, pi8, pi9, pl3] at hp
  obtain ⟨p1, p2, p3, p4, p5, p6, p7, p8, p9, p10, p11, p12, p13, p14, p15, p16, p17, p18, p19, p20, p21, p22, p23, p24, p25⟩ := hp
  refine (show (Und (ρ.z.rl 0) (ρ.l 1002) (ρ.l 1004) ((ρ.i .i64 11654) + (1 : Int)) ((ρ.i .i64 11653) + ((ρ.i .i64 11652) + (1 : Int))) (0 : Int) (0 : Int) (0 : Int) ∧ (((ρ.i .i64 11654) + (1 : Int)) = 0 ∨ ((ρ.i .i64 11654) + (1 : Int)) < (ρ.i .i64 1)) ∧ (ρ.z.rl 0).length ≤ 300) ∧ (((ρ.z.rl 0).length + 2 + ((ρ.z.rl 0).length - (((ρ.i .i64 11653) + ((ρ.i .i64 11652) + (1 : Int))) + (0 : Int)).toNat) : Nat) < (ρ.z.rl 0).length + 2 + ((ρ.z.rl 0).length - ((ρ.i .i64 11653) + (ρ.i .i64 11652)).toNat)) from ?_)
  obtain ⟨u, h2, h3⟩ := hi
  have ul := und_len u
  first
    | exact ⟨⟨und_go u (by omega) (by omega) (by first | rfl | rw [Int.zero_add]) (by omega) (by omega) (by assumption), h2, h3⟩, by omega⟩
    | (have r := und_read u (by omega) (by omega) (by first | rfl | rw [Int.zero_add]) (by omega) (by omega) (by omega)
       exact ⟨⟨r.next _ (by omega), .inr (by omega), h3⟩, by omega⟩)
theorem vceach3_56 : VC TTeach inveach mseach 3 teach3 weach3_56 := by
  intro ρ kn hi hp
  have hi : iveach3 ρ := hi
  unfold iveach3 at hi
  have hF : ρ.z.F = oct.Φ := kn.F
  simp only [h_nil, h_cons, d_le, d_eq, d_not, d_var, d_lit, d_cel, d_leq, d_fn, d_and, d_iff, IE.den, LE.den, AL.den, lenV, true_and, and_true, pceach3_49, pceach3_43, pceach3_39, pceach3_31, pceach3_26, pceach3_18, pceach3_13, pceach3_6, pceach3_2, pceach3_0, hF, pi2, pi3, pi4, pi5, pi6, pi7, pl1, pi8, pi9, pl3] at hp
  obtain ⟨p1, p2, p3, p4, p5, p6, p7, p8, p9, p10, p11, p12, p13, p14, p15, p16, p17, p18, p19, p20, p21, p22, p23, p24, p25⟩ := hp
  refine (show (Und (ρ.z.rl 0) (ρ.l 1002) (ρ.l 1004) ((ρ.i .i64 11654) + (1 : Int)) ((ρ.i .i64 11653) + ((ρ.i .i64 11652) + (1 : Int))) ((ρ.i .i64 11653) + ((ρ.i .i64 11652) + (1 : Int))) (0 : Int) (0 : Int) ∧ (((ρ.i .i64 11654) + (1 : Int)) = 0 ∨ ((ρ.i .i64 11654) + (1 : Int)) < (ρ.i .i64 1)) ∧ (ρ.z.rl 0).length ≤ 300) ∧ (((ρ.z.rl 0).length + 2 + ((ρ.z.rl 0).length - (((ρ.i .i64 11653) + ((ρ.i .i64 11652) + (1 : Int))) + (0 : Int)).toNat) : Nat) < (ρ.z.rl 0).length + 2 + ((ρ.z.rl 0).length - ((ρ.i .i64 11653) + (ρ.i .i64 11652)).toNat)) from ?_)
  obtain ⟨u, h2, h3⟩ := hi
  have ul := und_len u
  first
    | exact ⟨⟨und_go u (by omega) (by omega) (by first | rfl | rw [Int.zero_add]) (by omega) (by omega) (by assumption), h2, h3⟩, by omega⟩
    | (have r := und_read u (by omega) (by omega) (by first | rfl | rw [Int.zero_add]) (by omega) (by omega) (by omega)
       exact ⟨⟨r.next _ (by omega), .inr (by omega), h3⟩, by omega⟩)
theorem vceach3_57 : VC TTeach inveach mseach 3 teach3 weach3_57 := by
  intro ρ kn hi hp
  have hi : iveach3 ρ := hi
  unfold iveach3 at hi
  have hr11 : Typed [(CK.int .u8)] (ρ.z.rl 0) ∧ (((ρ.z.rl 0).length : Nat) : Int) = (((ρ.z.rl 0)).length : Int) := kn.rows 11 _ _ _ _ _ _ rfl
  have hr5 : Typed [(CK.int .u64)] (ρ.l 1002) ∧ (ρ.i .i64 1005) = (((ρ.l 1002)).length : Int) := kn.rows 5 _ _ _ _ _ _ rfl
  have hr8 : Typed [(CK.int .i64)] (ρ.l 1004) ∧ (ρ.i .i64 1005) = (((ρ.l 1004)).length : Int) := kn.rows 8 _ _ _ _ _ _ rfl
  have hF : ρ.z.F = oct.Φ := kn.F
  simp only [h_nil, h_cons, d_le, d_eq, d_not, d_var, d_lit, d_cel, d_leq, d_fn, d_and, d_iff, IE.den, LE.den, AL.den, lenV, true_and, and_true, pceach3_39, pceach3_31, pceach3_26, pceach3_18, pceach3_13, pceach3_6, pceach3_2, pceach3_0, hF, pi2, pi3, pi4, pi5, pi6, pi7, pl1, pi8, pi9, pl3] at hp
  obtain ⟨p1, p2, p3, p4, p5, p6, p7, p8, p9, p10, p11, p12, p13, p14, p15, p16, p17, p18, p19, p20, p21, p22, p23⟩ := hp
  exfalso
  all_goals
    obtain ⟨u, h2, h3⟩ := hi
    have ul := und_len u
    have un := u.n1
    have hr : Typed _ (ρ.l 1002) ∧ ρ.i .i64 1005 = ((ρ.l 1002).length : Int) := kn.rows 5 _ _ _ _ _ _ rfl
    first
      | omega
      | (have k := und_end u (by omega) (by omega)
         omega)
      | (have k := und_bad u (by omega) (by omega) (by first | rfl | rw [Int.zero_add]) (by omega)
         omega)
      | (have r := und_read u (by omega) (by omega) (by first | rfl | rw [Int.zero_add]) (by omega) (by omega) (by omega)
         have r1 := r.lt
         have r2 := r.w
         have r3 := r.p
         first | omega | exact p1 r.w | exact p1 r.w.symm | exact p1 r.p | exact p1 r.p.symm | exact p2 r.w | exact p2 r.w.symm | exact p2 r.p | exact p2 r.p.symm)
theorem vceach3_58 : VC TTeach inveach mseach 3 teach3 weach3_58 := by
  intro ρ kn hi hp
  have hi : iveach3 ρ := hi
  unfold iveach3 at hi
  have hr11 : Typed [(CK.int .u8)] (ρ.z.rl 0) ∧ (((ρ.z.rl 0).length : Nat) : Int) = (((ρ.z.rl 0)).length : Int) := kn.rows 11 _ _ _ _ _ _ rfl
  have hr5 : Typed [(CK.int .u64)] (ρ.l 1002) ∧ (ρ.i .i64 1005) = (((ρ.l 1002)).length : Int) := kn.rows 5 _ _ _ _ _ _ rfl
  have hr8 : Typed [(CK.int .i64)] (ρ.l 1004) ∧ (ρ.i .i64 1005) = (((ρ.l 1004)).length : Int) := kn.rows 8 _ _ _ _ _ _ rfl
  have hF : ρ.z.F = oct.Φ := kn.F
  simp only [h_nil, h_cons, d_le, d_eq, d_not, d_var, d_lit, d_cel, d_leq, d_fn, d_and, d_iff, IE.den, LE.den, AL.den, lenV, true_and, and_true, pceach3_31, pceach3_26, pceach3_18, pceach3_13, pceach3_6, pceach3_2, pceach3_0, hF, pi2, pi3, pi4, pi5, pi6, pi7, pl1, pi8, pi9, pl3] at hp
  obtain ⟨p1, p2, p3, p4, p5, p6, p7, p8, p9, p10, p11, p12, p13, p14, p15, p16, p17, p18, p19, p20, p21, p22⟩ := hp
  exfalso
  all_goals
    obtain ⟨u, h2, h3⟩ := hi
    have ul := und_len u
    have un := u.n1
    have hr : Typed _ (ρ.l 1002) ∧ ρ.i .i64 1005 = ((ρ.l 1002).length : Int) := kn.rows 5 _ _ _ _ _ _ rfl
    first
      | omega
      | (have k := und_end u (by omega) (by omega)
         omega)
      | (have k := und_bad u (by omega) (by omega) (by first | rfl | rw [Int.zero_add]) (by omega)
         omega)
      | (have r := und_read u (by omega) (by omega) (by first | rfl | rw [Int.zero_add]) (by omega) (by omega) (by omega)
         have r1 := r.lt
         have r2 := r.w
         have r3 := r.p
         first | omega | exact p1 r.w | exact p1 r.w.symm | exact p1 r.p | exact p1 r.p.symm | exact p2 r.w | exact p2 r.w.symm | exact p2 r.p | exact p2 r.p.symm)
def iveach4 (ρ : Rho) : Prop := Whole (ρ.z.rl 0) (ρ.l 1002) (ρ.l 1004) ∧ (ρ.z.rl 0).length ≤ 300
theorem vceach4_0 : VC TTeach inveach mseach 4 teach4 weach4_0 := by
  intro ρ kn hi hp
  have hi : iveach4 ρ := hi
  unfold iveach4 at hi
  have hF : ρ.z.F = oct.Φ := kn.F
  simp only [h_nil, h_cons, d_le, d_eq, d_not, d_var, d_lit, d_cel, d_leq, d_fn, d_and, d_iff, IE.den, LE.den, AL.den, lenV, true_and, and_true, hF, pi2, pi3, pi4, pi5, pi6, pi7, pl1, pi8, pi9, pl3] at hp
  obtain ⟨p1, p2, p3, p4, p5, p6⟩ := hp
  refine (show (Und (ρ.z.rl 0) (ρ.l 1002) (ρ.l 1004) (0 : Int) (0 : Int) (0 : Int) (0 : Int) (0 : Int) ∧ (ρ.z.rl 0).length ≤ 300) ∧ (((ρ.z.rl 0).length - ((0 : Int) + (0 : Int)).toNat : Nat) < (ρ.z.rl 0).length + 1) from ?_)
  obtain ⟨w, h3⟩ := hi
  exact ⟨⟨und0 w rfl, h3⟩, by omega⟩
def iveach5 (ρ : Rho) : Prop := Und (ρ.z.rl 0) (ρ.l 1002) (ρ.l 1004) (ρ.i .i64 11654) (ρ.i .i64 11653) (ρ.i .i64 11649) (ρ.i .i64 11652) (ρ.i .u64 11655) ∧ (ρ.z.rl 0).length ≤ 300
theorem vceach5_1 : VC TTeach inveach mseach 5 teach5 weach5_1 := by
  intro ρ kn hi hp
  have hi : iveach5 ρ := hi
  unfold iveach5 at hi
  have hr11 : Typed [(CK.int .u8)] (ρ.z.rl 0) ∧ (((ρ.z.rl 0).length : Nat) : Int) = (((ρ.z.rl 0)).length : Int) := kn.rows 11 _ _ _ _ _ _ rfl
  have hr5 : Typed [(CK.int .u64)] (ρ.l 1002) ∧ (ρ.i .i64 1005) = (((ρ.l 1002)).length : Int) := kn.rows 5 _ _ _ _ _ _ rfl
  have hr8 : Typed [(CK.int .i64)] (ρ.l 1004) ∧ (ρ.i .i64 1005) = (((ρ.l 1004)).length : Int) := kn.rows 8 _ _ _ _ _ _ rfl
  have hF : ρ.z.F = oct.Φ := kn.F
  simp only [h_nil, h_cons, d_le, d_eq, d_not, d_var, d_lit, d_cel, d_leq, d_fn, d_and, d_iff, IE.den, LE.den, AL.den, lenV, true_and, and_true, pceach5_1, pceach5_0, hF, pi2, pi3, pi4, pi5, pi6, pi7, pl1, pi8, pi9, pl3] at hp
  obtain ⟨p1, p2, p3, p4, p5, p6, p7, p8, p9, p10, p11, p12, p13, p14, p15, p16, p17⟩ := hp
  exfalso
  all_goals
    obtain ⟨u, h3⟩ := hi
    have ul := und_len u
    have un := u.n1
    have hr : Typed _ (ρ.l 1002) ∧ ρ.i .i64 1005 = ((ρ.l 1002).length : Int) := kn.rows 5 _ _ _ _ _ _ rfl
    first
      | omega
      | (have k := und_end u (by omega) (by omega)
         omega)
      | (have k := und_bad u (by omega) (by omega) (by first | rfl | rw [Int.zero_add]) (by omega)
         omega)
      | (have r := und_read u (by omega) (by omega) (by first | rfl | rw [Int.zero_add]) (by omega) (by omega) (by omega)
         have r1 := r.lt
         have r2 := r.w
         have r3 := r.p
         first | omega | exact p1 r.w | exact p1 r.w.symm | exact p1 r.p | exact p1 r.p.symm | exact p2 r.w | exact p2 r.w.symm | exact p2 r.p | exact p2 r.p.symm)
theorem vceach5_2 : VC TTeach inveach mseach 5 teach5 weach5_2 := by
  intro ρ kn hi hp
  have hi : iveach5 ρ := hi
  unfold iveach5 at hi
  have hF : ρ.z.F = oct.Φ := kn.F
  simp only [h_nil, h_cons, d_le, d_eq, d_not, d_var, d_lit, d_cel, d_leq, d_fn, d_and, d_iff, IE.den, LE.den, AL.den, lenV, true_and, and_true, pceach5_3, pceach5_2, pceach5_0, hF, pi2, pi3, pi4, pi5, pi6, pi7, pl1, pi8, pi9, pl3] at hp
  obtain ⟨p1, p2, p3, p4, p5, p6, p7, p8, p9, p10, p11, p12, p13, p14, p15, p16, p17, p18⟩ := hp
  refine (show (Und (ρ.z.rl 0) (ρ.l 1002) (ρ.l 1004) (ρ.i .i64 11654) (ρ.i .i64 11653) (ρ.i .i64 11649) ((ρ.i .i64 11652) + (1 : Int)) (binI BinOp.or .u64 (ρ.i .u64 11655) (binI BinOp.shl .u64 (binI BinOp.and .u8 (clampK .u8 (intV (celV (ρ.z.rl 0) ((ρ.i .i64 11649) + (ρ.i .i64 11652)) 0))) (127 : Int)) ((7 : Int) * (ρ.i .i64 11652)))) ∧ (ρ.z.rl 0).length ≤ 300) ∧ (((ρ.z.rl 0).length - ((ρ.i .i64 11653) + ((ρ.i .i64 11652) + (1 : Int))).toNat : Nat) < (ρ.z.rl 0).length - ((ρ.i .i64 11653) + (ρ.i .i64 11652)).toNat) from ?_)
  obtain ⟨u, h3⟩ := hi
  have ul := und_len u
  first
    | exact ⟨⟨und_go u (by omega) (by omega) (by first | rfl | rw [Int.zero_add]) (by omega) (by omega) (by assumption), h3⟩, by omega⟩
    | (have r := und_read u (by omega) (by omega) (by first | rfl | rw [Int.zero_add]) (by omega) (by omega) (by omega)
       exact ⟨⟨r.next _ (by omega), h3⟩, by omega⟩)
theorem vceach5_3 : VC TTeach inveach mseach 5 teach5 weach5_3 := by
  intro ρ kn hi hp
  have hi : iveach5 ρ := hi
  unfold iveach5 at hi
  have hr11 : Typed [(CK.int .u8)] (ρ.z.rl 0) ∧ (((ρ.z.rl 0).length : Nat) : Int) = (((ρ.z.rl 0)).length : Int) := kn.rows 11 _ _ _ _ _ _ rfl
  have hr5 : Typed [(CK.int .u64)] (ρ.l 1002) ∧ (ρ.i .i64 1005) = (((ρ.l 1002)).length : Int) := kn.rows 5 _ _ _ _ _ _ rfl
  have hr8 : Typed [(CK.int .i64)] (ρ.l 1004) ∧ (ρ.i .i64 1005) = (((ρ.l 1004)).length : Int) := kn.rows 8 _ _ _ _ _ _ rfl
  have hF : ρ.z.F = oct.Φ := kn.F
  simp only [h_nil, h_cons, d_le, d_eq, d_not, d_var, d_lit, d_cel, d_leq, d_fn, d_and, d_iff, IE.den, LE.den, AL.den, lenV, true_and, and_true, pceach5_5, pceach5_3, pceach5_2, pceach5_0, hF, pi2, pi3, pi4, pi5, pi6, pi7, pl1, pi8, pi9, pl3] at hp
  obtain ⟨p1, p2, p3, p4, p5, p6, p7, p8, p9, p10, p11, p12, p13, p14, p15, p16, p17, p18, p19⟩ := hp
  exfalso
  all_goals
    obtain ⟨u, h3⟩ := hi
    have ul := und_len u
    have un := u.n1
    have hr : Typed _ (ρ.l 1002) ∧ ρ.i .i64 1005 = ((ρ.l 1002).length : Int) := kn.rows 5 _ _ _ _ _ _ rfl
    first
      | omega
      | (have k := und_end u (by omega) (by omega)
         omega)
      | (have k := und_bad u (by omega) (by omega) (by first | rfl | rw [Int.zero_add]) (by omega)
         omega)
      | (have r := und_read u (by omega) (by omega) (by first | rfl | rw [Int.zero_add]) (by omega) (by omega) (by omega)
         have r1 := r.lt
         have r2 := r.w
         have r3 := r.p
         first | omega | exact p1 r.w | exact p1 r.w.symm | exact p1 r.p | exact p1 r.p.symm | exact p2 r.w | exact p2 r.w.symm | exact p2 r.p | exact p2 r.p.symm)
theorem vceach5_4 : VC TTeach inveach mseach 5 teach5 weach5_4 := by
  intro ρ kn hi hp
  have hi : iveach5 ρ := hi
  unfold iveach5 at hi
  have hF : ρ.z.F = oct.Φ := kn.F
  simp only [h_nil, h_cons, d_le, d_eq, d_not, d_var, d_lit, d_cel, d_leq, d_fn, d_and, d_iff, IE.den, LE.den, AL.den, lenV, true_and, and_true, pceach5_15, pceach5_11, pceach5_8, pceach5_5, pceach5_3, pceach5_2, pceach5_0, hF, pi2, pi3, pi4, pi5, pi6, pi7, pl1, pi8, pi9, pl3] at hp
  obtain ⟨p1, p2, p3, p4, p5, p6, p7, p8, p9, p10, p11, p12, p13, p14, p15, p16, p17, p18, p19, p20, p21, p22⟩ := hp
  refine (show (Und (ρ.z.rl 0) (ρ.l 1002) (ρ.l 1004) ((ρ.i .i64 11654) + (1 : Int)) ((ρ.i .i64 11653) + ((ρ.i .i64 11652) + (1 : Int))) (0 : Int) (0 : Int) (0 : Int) ∧ (ρ.z.rl 0).length ≤ 300) ∧ (((ρ.z.rl 0).length - (((ρ.i .i64 11653) + ((ρ.i .i64 11652) + (1 : Int))) + (0 : Int)).toNat : Nat) < (ρ.z.rl 0).length - ((ρ.i .i64 11653) + (ρ.i .i64 11652)).toNat) from ?_)
  obtain ⟨u, h3⟩ := hi
  have ul := und_len u
  first
    | exact ⟨⟨und_go u (by omega) (by omega) (by first | rfl | rw [Int.zero_add]) (by omega) (by omega) (by assumption), h3⟩, by omega⟩
    | (have r := und_read u (by omega) (by omega) (by first | rfl | rw [Int.zero_add]) (by omega) (by omega) (by omega)
       exact ⟨⟨r.next _ (by omega), h3⟩, by omega⟩)
theorem vceach5_5 : VC TTeach inveach mseach 5 teach5 weach5_5 := by
  intro ρ kn hi hp
  have hi : iveach5 ρ := hi
  unfold iveach5 at hi
  have hF : ρ.z.F = oct.Φ := kn.F
  simp only [h_nil, h_cons, d_le, d_eq, d_not, d_var, d_lit, d_cel, d_leq, d_fn, d_and, d_iff, IE.den, LE.den, AL.den, lenV, true_and, and_true, pceach5_15, pceach5_11, pceach5_8, pceach5_5, pceach5_3, pceach5_2, pceach5_0, hF, pi2, pi3, pi4, pi5, pi6, pi7, pl1, pi8, pi9, pl3] at hp
  obtain ⟨p1, p2, p3, p4, p5, p6, p7, p8, p9, p10, p11, p12, p13, p14, p15, p16, p17, p18, p19, p20, p21, p22⟩ := hp
  refine (show (Und (ρ.z.rl 0) (ρ.l 1002) (ρ.l 1004) ((ρ.i .i64 11654) + (1 : Int)) ((ρ.i .i64 11653) + ((ρ.i .i64 11652) + (1 : Int))) ((ρ.i .i64 11653) + ((ρ.i .i64 11652) + (1 : Int))) (0 : Int) (0 : Int) ∧ (ρ.z.rl 0).length ≤ 300) ∧ (((ρ.z.rl 0).length - (((ρ.i .i64 11653) + ((ρ.i .i64 11652) + (1 : Int))) + (0 : Int)).toNat : Nat) < (ρ.z.rl 0).length - ((ρ.i .i64 11653) + (ρ.i .i64 11652)).toNat) from ?_)
  obtain ⟨u, h3⟩ := hi
  have ul := und_len u
  first
    | exact ⟨⟨und_go u (by omega) (by omega) (by first | rfl | rw [Int.zero_add]) (by omega) (by omega) (by assumption), h3⟩, by omega⟩
    | (have r := und_read u (by omega) (by omega) (by first | rfl | rw [Int.zero_add]) (by omega) (by omega) (by omega)
       exact ⟨⟨r.next _ (by omega), h3⟩, by omega⟩)
theorem vceach5_6 : VC TTeach inveach mseach 5 teach5 weach5_6 := by
  intro ρ kn hi hp
  have hi : iveach5 ρ := hi
  unfold iveach5 at hi
  have hr11 : Typed [(CK.int .u8)] (ρ.z.rl 0) ∧ (((ρ.z.rl 0).length : Nat) : Int) = (((ρ.z.rl 0)).length : Int) := kn.rows 11 _ _ _ _ _ _ rfl
  have hr5 : Typed [(CK.int .u64)] (ρ.l 1002) ∧ (ρ.i .i64 1005) = (((ρ.l 1002)).length : Int) := kn.rows 5 _ _ _ _ _ _ rfl
  have hr8 : Typed [(CK.int .i64)] (ρ.l 1004) ∧ (ρ.i .i64 1005) = (((ρ.l 1004)).length : Int) := kn.rows 8 _ _ _ _ _ _ rfl
  have hF : ρ.z.F = oct.Φ := kn.F
  simp only [h_nil, h_cons, d_le, d_eq, d_not, d_var, d_lit, d_cel, d_leq, d_fn, d_and, d_iff, IE.den, LE.den, AL.den, lenV, true_and, and_true, pceach5_11, pceach5_8, pceach5_5, pceach5_3, pceach5_2, pceach5_0, hF, pi2, pi3, pi4, pi5, pi6, pi7, pl1, pi8, pi9, pl3] at hp
  obtain ⟨p1, p2, p3, p4, p5, p6, p7, p8, p9, p10, p11, p12, p13, p14, p15, p16, p17, p18, p19, p20, p21⟩ := hp
  exfalso
  all_goals
    obtain ⟨u, h3⟩ := hi
    have ul := und_len u
    have un := u.n1
    have hr : Typed _ (ρ.l 1002) ∧ ρ.i .i64 1005 = ((ρ.l 1002).length : Int) := kn.rows 5 _ _ _ _ _ _ rfl
    first
      | omega
      | (have k := und_end u (by omega) (by omega)
         omega)
      | (have k := und_bad u (by omega) (by omega) (by first | rfl | rw [Int.zero_add]) (by omega)
         omega)
      | (have r := und_read u (by omega) (by omega) (by first | rfl | rw [Int.zero_add]) (by omega) (by omega) (by omega)
         have r1 := r.lt
         have r2 := r.w
         have r3 := r.p
         first | omega | exact p1 r.w | exact p1 r.w.symm | exact p1 r.p | exact p1 r.p.symm | exact p2 r.w | exact p2 r.w.symm | exact p2 r.p | exact p2 r.p.symm)
theorem vceach5_7 : VC TTeach inveach mseach 5 teach5 weach5_7 := by
  intro ρ kn hi hp
  have hi : iveach5 ρ := hi
  unfold iveach5 at hi
  have hr11 : Typed [(CK.int .u8)] (ρ.z.rl 0) ∧ (((ρ.z.rl 0).length : Nat) : Int) = (((ρ.z.rl 0)).length : Int) := kn.rows 11 _ _ _ _ _ _ rfl
  have hr5 : Typed [(CK.int .u64)] (ρ.l 1002) ∧ (ρ.i .i64 1005) = (((ρ.l 1002)).length : Int) := kn.rows 5 _ _ _ _ _ _ rfl
  have hr8 : Typed [(CK.int .i64)] (ρ.l 1004) ∧ (ρ.i .i64 1005) = (((ρ.l 1004)).length : Int) := kn.rows 8 _ _ _ _ _ _ rfl
  have hF : ρ.z.F = oct.Φ := kn.F
  simp only [h_nil, h_cons, d_le, d_eq, d_not, d_var, d_lit, d_cel, d_leq, d_fn, d_and, d_iff, IE.den, LE.den, AL.den, lenV, true_and, and_true, pceach5_8, pceach5_5, pceach5_3, pceach5_2, pceach5_0, hF, pi2, pi3, pi4, pi5, pi6, pi7, pl1, pi8, pi9, pl3] at hp
  obtain ⟨p1, p2, p3, p4, p5, p6, p7, p8, p9, p10, p11, p12, p13, p14, p15, p16, p17, p18, p19, p20⟩ := hp
  exfalso
  all_goals
    obtain ⟨u, h3⟩ := hi
    have ul := und_len u
    have un := u.n1
    have hr : Typed _ (ρ.l 1002) ∧ ρ.i .i64 1005 = ((ρ.l 1002).length : Int) := kn.rows 5 _ _ _ _ _ _ rfl
    first
      | omega
      | (have k := und_end u (by omega) (by omega)
         omega)
      | (have k := und_bad u (by omega) (by omega) (by first | rfl | rw [Int.zero_add]) (by omega)
         omega)
      | (have r := und_read u (by omega) (by omega) (by first | rfl | rw [Int.zero_add]) (by omega) (by omega) (by omega)
         have r1 := r.lt
         have r2 := r.w
         have r3 := r.p
         first | omega | exact p1 r.w | exact p1 r.w.symm | exact p1 r.p | exact p1 r.p.symm | exact p2 r.w | exact p2 r.w.symm | exact p2 r.p | exact p2 r.p.symm)
theorem vceach5_9 : VC TTeach inveach mseach 5 teach5 weach5_9 := by
  intro ρ kn hi hp
  have hi : iveach5 ρ := hi
  unfold iveach5 at hi
  have hr11 : Typed [(CK.int .u8)] (ρ.z.rl 0) ∧ (((ρ.z.rl 0).length : Nat) : Int) = (((ρ.z.rl 0)).length : Int) := kn.rows 11 _ _ _ _ _ _ rfl
  have hr5 : Typed [(CK.int .u64)] (ρ.l 1002) ∧ (ρ.i .i64 1005) = (((ρ.l 1002)).length : Int) := kn.rows 5 _ _ _ _ _ _ rfl
  have hr8 : Typed [(CK.int .i64)] (ρ.l 1004) ∧ (ρ.i .i64 1005) = (((ρ.l 1004)).length : Int) := kn.rows 8 _ _ _ _ _ _ rfl
  have hF : ρ.z.F = oct.Φ := kn.F
  simp only [h_nil, h_cons, d_le, d_eq, d_not, d_var, d_lit, d_cel, d_leq, d_fn, d_and, d_iff, IE.den, LE.den, AL.den, lenV, true_and, and_true, pceach5_6, pceach5_4, pceach5_2, pceach5_0, hF, pi2, pi3, pi4, pi5, pi6, pi7, pl1, pi8, pi9, pl3] at hp
  obtain ⟨p1, p2, p3, p4, p5, p6, p7, p8, p9, p10, p11, p12, p13, p14, p15, p16, p17, p18, p19⟩ := hp
  exfalso
  all_goals
    obtain ⟨u, h3⟩ := hi
    have ul := und_len u
    have un := u.n1
    have hr : Typed _ (ρ.l 1002) ∧ ρ.i .i64 1005 = ((ρ.l 1002).length : Int) := kn.rows 5 _ _ _ _ _ _ rfl
    first
      | omega
      | (have k := und_end u (by omega) (by omega)
         omega)
      | (have k := und_bad u (by omega) (by omega) (by first | rfl | rw [Int.zero_add]) (by omega)
         omega)
      | (have r := und_read u (by omega) (by omega) (by first | rfl | rw [Int.zero_add]) (by omega) (by omega) (by omega)
         have r1 := r.lt
         have r2 := r.w
         have r3 := r.p
         first | omega | exact p1 r.w | exact p1 r.w.symm | exact p1 r.p | exact p1 r.p.symm | exact p2 r.w | exact p2 r.w.symm | exact p2 r.p | exact p2 r.p.symm)
theorem vceach5_10 : VC TTeach inveach mseach 5 teach5 weach5_10 := by
  intro ρ kn hi hp
  have hi : iveach5 ρ := hi
  unfold iveach5 at hi
  have hr11 : Typed [(CK.int .u8)] (ρ.z.rl 0) ∧ (((ρ.z.rl 0).length : Nat) : Int) = (((ρ.z.rl 0)).length : Int) := kn.rows 11 _ _ _ _ _ _ rfl
  have hr5 : Typed [(CK.int .u64)] (ρ.l 1002) ∧ (ρ.i .i64 1005) = (((ρ.l 1002)).length : Int) := kn.rows 5 _ _ _ _ _ _ rfl
  have hr8 : Typed [(CK.int .i64)] (ρ.l 1004) ∧ (ρ.i .i64 1005) = (((ρ.l 1004)).length : Int) := kn.rows 8 _ _ _ _ _ _ rfl
  have hF : ρ.z.F = oct.Φ := kn.F
  simp only [h_nil, h_cons, d_le, d_eq, d_not, d_var, d_lit, d_cel, d_leq, d_fn, d_and, d_iff, IE.den, LE.den, AL.den, lenV, true_and, and_true, pceach5_12, pceach5_9, pceach5_7, pceach5_4, pceach5_2, pceach5_0, hF, pi2, pi3, pi4, pi5, pi6, pi7, pl1, pi8, pi9, pl3] at hp
  obtain ⟨p1, p2, p3, p4, p5, p6, p7, p8, p9, p10, p11, p12, p13, p14, p15, p16, p17, p18, p19, p20, p21⟩ := hp
  exfalso
  all_goals
    obtain ⟨u, h3⟩ := hi
    have ul := und_len u
    have un := u.n1
    have hr : Typed _ (ρ.l 1002) ∧ ρ.i .i64 1005 = ((ρ.l 1002).length : Int) := kn.rows 5 _ _ _ _ _ _ rfl
    first
      | omega
      | (have k := und_end u (by omega) (by omega)
         omega)
      | (have k := und_bad u (by omega) (by omega) (by first | rfl | rw [Int.zero_add]) (by omega)
         omega)
      | (have r := und_read u (by omega) (by omega) (by first | rfl | rw [Int.zero_add]) (by omega) (by omega) (by omega)
         have r1 := r.lt
         have r2 := r.w
         have r3 := r.p
         first | omega | exact p1 r.w | exact p1 r.w.symm | exact p1 r.p | exact p1 r.p.symm | exact p2 r.w | exact p2 r.w.symm | exact p2 r.p | exact p2 r.p.symm)
theorem vceach5_11 : VC TTeach inveach mseach 5 teach5 weach5_11 := by
  intro ρ kn hi hp
  have hi : iveach5 ρ := hi
  unfold iveach5 at hi
  have hF : ρ.z.F = oct.Φ := kn.F
  simp only [h_nil, h_cons, d_le, d_eq, d_not, d_var, d_lit, d_cel, d_leq, d_fn, d_and, d_iff, IE.den, LE.den, AL.den, lenV, true_and, and_true, pceach5_20, pceach5_18, pceach5_16, pceach5_12, pceach5_9, pceach5_7, pceach5_4, pceach5_2, pceach5_0, hF, pi2, pi3, pi4, pi5, pi6, pi7, pl1, pi8, pi9, pl3] at hp
  obtain ⟨p1, p2, p3, p4, p5, p6, p7, p8, p9, p10, p11, p12, p13, p14, p15, p16, p17, p18, p19, p20, p21, p22, p23, p24⟩ := hp
  refine (show (Und (ρ.z.rl 0) (ρ.l 1002) (ρ.l 1004) ((ρ.i .i64 11654) + (1 : Int)) ((ρ.i .i64 11653) + ((ρ.i .i64 11652) + (1 : Int))) (0 : Int) (0 : Int) (0 : Int) ∧ (ρ.z.rl 0).length ≤ 300) ∧ (((ρ.z.rl 0).length - (((ρ.i .i64 11653) + ((ρ.i .i64 11652) + (1 : Int))) + (0 : Int)).toNat : Nat) < (ρ.z.rl 0).length - ((ρ.i .i64 11653) + (ρ.i .i64 11652)).toNat) from ?_)
  obtain ⟨u, h3⟩ := hi
  have ul := und_len u
  first
    | exact ⟨⟨und_go u (by omega) (by omega) (by first | rfl | rw [Int.zero_add]) (by omega) (by omega) (by assumption), h3⟩, by omega⟩
    | (have r := und_read u (by omega) (by omega) (by first | rfl | rw [Int.zero_add]) (by omega) (by omega) (by omega)
       exact ⟨⟨r.next _ (by omega), h3⟩, by omega⟩)
theorem vceach5_12 : VC TTeach inveach mseach 5 teach5 weach5_12 := by
  intro ρ kn hi hp
  have hi : iveach5 ρ := hi
  unfold iveach5 at hi
  have hF : ρ.z.F = oct.Φ := kn.F
  simp only [h_nil, h_cons, d_le, d_eq, d_not, d_var, d_lit, d_cel, d_leq, d_fn, d_and, d_iff, IE.den, LE.den, AL.den, lenV, true_and, and_true, pceach5_20, pceach5_18, pceach5_16, pceach5_12, pceach5_9, pceach5_7, pceach5_4, pceach5_2, pceach5_0, hF, pi2, pi3, pi4, pi5, pi6, pi7, pl1, pi8, pi9, pl3] at hp
  obtain ⟨p1, p2, p3, p4, p5, p6, p7, p8, p9, p10, p11, p12, p13, p14, p15, p16, p17, p18, p19, p20, p21, p22, p23, p24⟩ := hp
  refine (show (Und (ρ.z.rl 0) (ρ.l 1002) (ρ.l 1004) ((ρ.i .i64 11654) + (1 : Int)) ((ρ.i .i64 11653) + ((ρ.i .i64 11652) + (1 : Int))) ((ρ.i .i64 11653) + ((ρ.i .i64 11652) + (1 : Int))) (0 : Int) (0 : Int) ∧ (ρ.z.rl 0).length ≤ 300) ∧ (((ρ.z.rl 0).length - (((ρ.i .i64 11653) + ((ρ.i .i64 11652) + (1 : Int))) + (0 : Int)).toNat : Nat) < (ρ.z.rl 0).length - ((ρ.i .i64 11653) + (ρ.i .i64 11652)).toNat) from ?_)
  obtain ⟨u, h3⟩ := hi
  have ul := und_len u
  first
    | exact ⟨⟨und_go u (by omega) (by omega) (by first | rfl | rw [Int.zero_add]) (by omega) (by omega) (by assumption), h3⟩, by omega⟩
    | (have r := und_read u (by omega) (by omega) (by first | rfl | rw [Int.zero_add]) (by omega) (by omega) (by omega)
       exact ⟨⟨r.next _ (by omega), h3⟩, by omega⟩)
theorem vceach5_13 : VC TTeach inveach mseach 5 teach5 weach5_13 := by
  intro ρ kn hi hp
  have hi : iveach5 ρ := hi
  unfold iveach5 at hi
  have hr11 : Typed [(CK.int .u8)] (ρ.z.rl 0) ∧ (((ρ.z.rl 0).length : Nat) : Int) = (((ρ.z.rl 0)).length : Int) := kn.rows 11 _ _ _ _ _ _ rfl
  have hr5 : Typed [(CK.int .u64)] (ρ.l 1002) ∧ (ρ.i .i64 1005) = (((ρ.l 1002)).length : Int) := kn.rows 5 _ _ _ _ _ _ rfl
  have hr8 : Typed [(CK.int .i64)] (ρ.l 1004) ∧ (ρ.i .i64 1005) = (((ρ.l 1004)).length : Int) := kn.rows 8 _ _ _ _ _ _ rfl
  have hF : ρ.z.F = oct.Φ := kn.F
  simp only [h_nil, h_cons, d_le, d_eq, d_not, d_var, d_lit, d_cel, d_leq, d_fn, d_and, d_iff, IE.den, LE.den, AL.den, lenV, true_and, and_true, pceach5_18, pceach5_16, pceach5_12, pceach5_9, pceach5_7, pceach5_4, pceach5_2, pceach5_0, hF, pi2, pi3, pi4, pi5, pi6, pi7, pl1, pi8, pi9, pl3] at hp
  obtain ⟨p1, p2, p3, p4, p5, p6, p7, p8, p9, p10, p11, p12, p13, p14, p15, p16, p17, p18, p19, p20, p21, p22, p23⟩ := hp
  exfalso
  all_goals
    obtain ⟨u, h3⟩ := hi
    have ul := und_len u
    have un := u.n1
    have hr : Typed _ (ρ.l 1002) ∧ ρ.i .i64 1005 = ((ρ.l 1002).length : Int) := kn.rows 5 _ _ _ _ _ _ rfl
    first
      | omega
      | (have k := und_end u (by omega) (by omega)
         omega)
      | (have k := und_bad u (by omega) (by omega) (by first | rfl | rw [Int.zero_add]) (by omega)
         omega)
      | (have r := und_read u (by omega) (by omega) (by first | rfl | rw [Int.zero_add]) (by omega) (by omega) (by omega)
         have r1 := r.lt
         have r2 := r.w
         have r3 := r.p
         first | omega | exact p1 r.w | exact p1 r.w.symm | exact p1 r.p | exact p1 r.p.symm | exact p2 r.w | exact p2 r.w.symm | exact p2 r.p | exact p2 r.p.symm)
theorem vceach5_14 : VC TTeach inveach mseach 5 teach5 weach5_14 := by
  intro ρ kn hi hp
  have hi : iveach5 ρ := hi
  unfold iveach5 at hi
  have hr11 : Typed [(CK.int .u8)] (ρ.z.rl 0) ∧ (((ρ.z.rl 0).length : Nat) : Int) = (((ρ.z.rl 0)).length : Int) := kn.rows 11 _ _ _ _ _ _ rfl
  have hr5 : Typed [(CK.int .u64)] (ρ.l 1002) ∧ (ρ.i .i64 1005) = (((ρ.l 1002)).length : Int) := kn.rows 5 _ _ _ _ _ _ rfl
  have hr8 : Typed [(CK.int .i64)] (ρ.l 1004) ∧ (ρ.i .i64 1005) = (((ρ.l 1004)).length : Int) := kn.rows 8 _ _ _ _ _ _ rfl
  have hF : ρ.z.F = oct.Φ := kn.F
  simp only [h_nil, h_cons, d_le, d_eq, d_not, d_var, d_lit, d_cel, d_leq, d_fn, d_and, d_iff, IE.den, LE.den, AL.den, lenV, true_and, and_true, pceach5_16, pceach5_12, pceach5_9, pceach5_7, pceach5_4, pceach5_2, pceach5_0, hF, pi2, pi3, pi4, pi5, pi6, pi7, pl1, pi8, pi9, pl3] at hp
  obtain ⟨p1, p2, p3, p4, p5, p6, p7, p8, p9, p10, p11, p12, p13, p14, p15, p16, p17, p18, p19, p20, p21, p22⟩ := hp
  exfalso
  all_goals
    obtain ⟨u, h3⟩ := hi
    have ul := und_len u
    have un := u.n1
    have hr : Typed _ (ρ.l 1002) ∧ ρ.i .i64 1005 = ((ρ.l 1002).length : Int) := kn.rows 5 _ _ _ _ _ _ rfl
    first
      | omega
      | (have k := und_end u (by omega) (by omega)
         omega)
      | (have k := und_bad u (by omega) (by omega) (by first | rfl | rw [Int.zero_add]) (by omega)
         omega)
      | (have r := und_read u (by omega) (by omega) (by first | rfl | rw [Int.zero_add]) (by omega) (by omega) (by omega)
         have r1 := r.lt
         have r2 := r.w
         have r3 := r.p
         first | omega | exact p1 r.w | exact p1 r.w.symm | exact p1 r.p | exact p1 r.p.symm | exact p2 r.w | exact p2 r.w.symm | exact p2 r.p | exact p2 r.p.symm)
theorem vceach5_16 : VC TTeach inveach mseach 5 teach5 weach5_16 := by
  intro ρ kn hi hp
  have hi : iveach5 ρ := hi
  unfold iveach5 at hi
  have hr11 : Typed [(CK.int .u8)] (ρ.z.rl 0) ∧ (((ρ.z.rl 0).length : Nat) : Int) = (((ρ.z.rl 0)).length : Int) := kn.rows 11 _ _ _ _ _ _ rfl
  have hr5 : Typed [(CK.int .u64)] (ρ.l 1002) ∧ (ρ.i .i64 1005) = (((ρ.l 1002)).length : Int) := kn.rows 5 _ _ _ _ _ _ rfl
  have hr8 : Typed [(CK.int .i64)] (ρ.l 1004) ∧ (ρ.i .i64 1005) = (((ρ.l 1004)).length : Int) := kn.rows 8 _ _ _ _ _ _ rfl
  have hF : ρ.z.F = oct.Φ := kn.F
  simp only [h_nil, h_cons, d_le, d_eq, d_not, d_var, d_lit, d_cel, d_leq, d_fn, d_and, d_iff, IE.den, LE.den, AL.den, lenV, true_and, and_true, pceach5_13, pceach5_9, pceach5_7, pceach5_4, pceach5_2, pceach5_0, hF, pi2, pi3, pi4, pi5, pi6, pi7, pl1, pi8, pi9, pl3] at hp
  obtain ⟨p1, p2, p3, p4, p5, p6, p7, p8, p9, p10, p11, p12, p13, p14, p15, p16, p17, p18, p19, p20, p21⟩ := hp
  exfalso
  all_goals
    obtain ⟨u, h3⟩ := hi
    have ul := und_len u
    have un := u.n1
    have hr : Typed _ (ρ.l 1002) ∧ ρ.i .i64 1005 = ((ρ.l 1002).length : Int) := kn.rows 5 _ _ _ _ _ _ rfl
    first
      | omega
      | (have k := und_end u (by omega) (by omega)
         omega)
      | (have k := und_bad u (by omega) (by omega) (by first | rfl | rw [Int.zero_add]) (by omega)
         omega)
      | (have r := und_read u (by omega) (by omega) (by first | rfl | rw [Int.zero_add]) (by omega) (by omega) (by omega)
         have r1 := r.lt
         have r2 := r.w
         have r3 := r.p
         first | omega | exact p1 r.w | exact p1 r.w.symm | exact p1 r.p | exact p1 r.p.symm | exact p2 r.w | exact p2 r.w.symm | exact p2 r.p | exact p2 r.p.symm)
theorem vceach5_17 : VC TTeach inveach mseach 5 teach5 weach5_17 := by
  intro ρ kn hi hp
  have hi : iveach5 ρ := hi
  unfold iveach5 at hi
  have hF : ρ.z.F = oct.Φ := kn.F
  simp only [h_nil, h_cons, d_le, d_eq, d_not, d_var, d_lit, d_cel, d_leq, d_fn, d_and, d_iff, IE.den, LE.den, AL.den, lenV, true_and, and_true, pceach5_10, pceach5_7, pceach5_4, pceach5_2, pceach5_0, hF, pi2, pi3, pi4, pi5, pi6, pi7, pl1, pi8, pi9, pl3] at hp
  obtain ⟨p1, p2, p3, p4, p5, p6, p7, p8, p9, p10, p11, p12, p13, p14, p15, p16, p17, p18, p19, p20⟩ := hp
  refine (show (Und (ρ.z.rl 0) (ρ.l 1002) (ρ.l 1004) (ρ.i .i64 11654) (ρ.i .i64 11653) (ρ.i .i64 11649) ((ρ.i .i64 11652) + (1 : Int)) (binI BinOp.or .u64 (ρ.i .u64 11655) (binI BinOp.shl .u64 (binI BinOp.and .u8 (clampK .u8 (intV (celV (ρ.z.rl 0) ((ρ.i .i64 11649) + (ρ.i .i64 11652)) 0))) (127 : Int)) ((7 : Int) * (ρ.i .i64 11652)))) ∧ (ρ.z.rl 0).length ≤ 300) ∧ (((ρ.z.rl 0).length - ((ρ.i .i64 11653) + ((ρ.i .i64 11652) + (1 : Int))).toNat : Nat) < (ρ.z.rl 0).length - ((ρ.i .i64 11653) + (ρ.i .i64 11652)).toNat) from ?_)
  obtain ⟨u, h3⟩ := hi
  have ul := und_len u
  first
    | exact ⟨⟨und_go u (by omega) (by omega) (by first | rfl | rw [Int.zero_add]) (by omega) (by omega) (by assumption), h3⟩, by omega⟩
    | (have r := und_read u (by omega) (by omega) (by first | rfl | rw [Int.zero_add]) (by omega) (by omega) (by omega)
       exact ⟨⟨r.next _ (by omega), h3⟩, by omega⟩)
theorem vceach5_18 : VC TTeach inveach mseach 5 teach5 weach5_18 := by
  intro ρ kn hi hp
  have hi : iveach5 ρ := hi
  unfold iveach5 at hi
  have hr11 : Typed [(CK.int .u8)] (ρ.z.rl 0) ∧ (((ρ.z.rl 0).length : Nat) : Int) = (((ρ.z.rl 0)).length : Int) := kn.rows 11 _ _ _ _ _ _ rfl
  have hr5 : Typed [(CK.int .u64)] (ρ.l 1002) ∧ (ρ.i .i64 1005) = (((ρ.l 1002)).length : Int) := kn.rows 5 _ _ _ _ _ _ rfl
  have hr8 : Typed [(CK.int .i64)] (ρ.l 1004) ∧ (ρ.i .i64 1005) = (((ρ.l 1004)).length : Int) := kn.rows 8 _ _ _ _ _ _ rfl
  have hF : ρ.z.F = oct.Φ := kn.F
  simp only [h_nil, h_cons, d_le, d_eq, d_not, d_var, d_lit, d_cel, d_leq, d_fn, d_and, d_iff, IE.den, LE.den, AL.den, lenV, true_and, and_true, pceach5_14, pceach5_10, pceach5_7, pceach5_4, pceach5_2, pceach5_0, hF, pi2, pi3, pi4, pi5, pi6, pi7, pl1, pi8, pi9, pl3] at hp
  obtain ⟨p1, p2, p3, p4, p5, p6, p7, p8, p9, p10, p11, p12, p13, p14, p15, p16, p17, p18, p19, p20, p21⟩ := hp
  exfalso
  all_goals
    obtain ⟨u, h3⟩ := hi
    have ul := und_len u
    have un := u.n1
    have hr : Typed _ (ρ.l 1002) ∧ ρ.i .i64 1005 = ((ρ.l 1002).length : Int) := kn.rows 5 _ _ _ _ _ _ rfl
    first
      | omega
      | (have k := und_end u (by omega) (by omega)
         omega)
      | (have k := und_bad u (by omega) (by omega) (by first | rfl | rw [Int.zero_add]) (by omega)
         omega)
      | (have r := und_read u (by omega) (by omega) (by first | rfl | rw [Int.zero_add]) (by omega) (by omega) (by omega)
         have r1 := r.lt
         have r2 := r.w
         have r3 := r.p
         first | omega | exact p1 r.w | exact p1 r.w.symm | exact p1 r.p | exact p1 r.p.symm | exact p2 r.w | exact p2 r.w.symm | exact p2 r.p | exact p2 r.p.symm)
theorem vceach5_19 : VC TTeach inveach mseach 5 teach5 weach5_19 := by
  intro ρ kn hi hp
  have hi : iveach5 ρ := hi
  unfold iveach5 at hi
  have hF : ρ.z.F = oct.Φ := kn.F
  simp only [h_nil, h_cons, d_le, d_eq, d_not, d_var, d_lit, d_cel, d_leq, d_fn, d_and, d_iff, IE.den, LE.den, AL.den, lenV, true_and, and_true, pceach5_21, pceach5_19, pceach5_17, pceach5_14, pceach5_10, pceach5_7, pceach5_4, pceach5_2, pceach5_0, hF, pi2, pi3, pi4, pi5, pi6, pi7, pl1, pi8, pi9, pl3] at hp
  obtain ⟨p1, p2, p3, p4, p5, p6, p7, p8, p9, p10, p11, p12, p13, p14, p15, p16, p17, p18, p19, p20, p21, p22, p23, p24⟩ := hp
  refine (show (Und (ρ.z.rl 0) (ρ.l 1002) (ρ.l 1004) ((ρ.i .i64 11654) + (1 : Int)) ((ρ.i .i64 11653) + ((ρ.i .i64 11652) + (1 : Int))) (0 : Int) (0 : Int) (0 : Int) ∧ (ρ.z.rl 0).length ≤ 300) ∧ (((ρ.z.rl 0).length - (((ρ.i .i64 11653) + ((ρ.i .i64 11652) + (1 : Int))) + (0 : Int)).toNat : Nat) < (ρ.z.rl 0).length - ((ρ.i .i64 11653) + (ρ.i .i64 11652)).toNat) from ?_)
  obtain ⟨u, h3⟩ := hi
  have ul := und_len u
  first
    | exact ⟨⟨und_go u (by omega) (by omega) (by first | rfl | rw [Int.zero_add]) (by omega) (by omega) (by assumption), h3⟩, by omega⟩
    | (have r := und_read u (by omega) (by omega) (by first | rfl | rw [Int.zero_add]) (by omega) (by omega) (by omega)
       exact ⟨⟨r.next _ (by omega), h3⟩, by omega⟩)
theorem vceach5_20 : VC TTeach inveach mseach 5 teach5 weach5_20 := by
  intro ρ kn hi hp
  have hi : iveach5 ρ := hi
  unfold iveach5 at hi
  have hF : ρ.z.F = oct.Φ := kn.F
  simp only [h_nil, h_cons, d_le, d_eq, d_not, d_var, d_lit, d_cel, d_leq, d_fn, d_and, d_iff, IE.den, LE.den, AL.den, lenV, true_and, and_true, pceach5_21, pceach5_19, pceach5_17, pceach5_14, pceach5_10, pceach5_7, pceach5_4, pceach5_2, pceach5_0, hF, pi2, pi3, pi4, pi5, pi6, pi7, pl1, pi8, pi9, pl3] at hp
  obtain ⟨p1, p2, p3, p4, p5, p6, p7, p8, p9, p10, p11, p12, p13, p14, p15, p16, p17, p18, p19, p20, p21, p22, p23, p24⟩ := hp
  refine (show (Und (ρ.z.rl 0) (ρ.l 1002) (ρ.l 1004) ((ρ.i .i64 11654) + (1 : Int)) ((ρ.i .i64 11653) + ((ρ.i .i64 11652) + (1 : Int))) ((ρ.i .i64 11653) + ((ρ.i .i64 11652) + (1 : Int))) (0 : Int) (0 : Int) ∧ (ρ.z.rl 0).length ≤ 300) ∧ (((ρ.z.rl 0).length - (((ρ.i .i64 11653) + ((ρ.i .i64 11652) + (1 : Int))) + (0 : Int)).toNat : Nat) < (ρ.z.rl 0).length - ((ρ.i .i64 11653) + (ρ.i .i64 11652)).toNat) from ?_)
  obtain ⟨u, h3⟩ := hi
  have ul := und_len u
  first
    | exact ⟨⟨und_go u (by omega) (by omega) (by first | rfl | rw [Int.zero_add]) (by omega) (by omega) (by assumption), h3⟩, by omega⟩
    | (have r := und_read u (by omega) (by omega) (by first | rfl | rw [Int.zero_add]) (by omega) (by omega) (by omega)
       exact ⟨⟨r.next _ (by omega), h3⟩, by omega⟩)
theorem vceach5_21 : VC TTeach inveach mseach 5 teach5 weach5_21 := by
  intro ρ kn hi hp
  have hi : iveach5 ρ := hi
  unfold iveach5 at hi
  have hr11 : Typed [(CK.int .u8)] (ρ.z.rl 0) ∧ (((ρ.z.rl 0).length : Nat) : Int) = (((ρ.z.rl 0)).length : Int) := kn.rows 11 _ _ _ _ _ _ rfl
  have hr5 : Typed [(CK.int .u64)] (ρ.l 1002) ∧ (ρ.i .i64 1005) = (((ρ.l 1002)).length : Int) := kn.rows 5 _ _ _ _ _ _ rfl
  have hr8 : Typed [(CK.int .i64)] (ρ.l 1004) ∧ (ρ.i .i64 1005) = (((ρ.l 1004)).length : Int) := kn.rows 8 _ _ _ _ _ _ rfl
  have hF : ρ.z.F = oct.Φ := kn.F
  simp only [h_nil, h_cons, d_le, d_eq, d_not, d_var, d_lit, d_cel, d_leq, d_fn, d_and, d_iff, IE.den, LE.den, AL.den, lenV, true_and, and_true, pceach5_19, pceach5_17, pceach5_14, pceach5_10, pceach5_7, pceach5_4, pceach5_2, pceach5_0, hF, pi2, pi3, pi4, pi5, pi6, pi7, pl1, pi8, pi9, pl3] at hp
  obtain ⟨p1, p2, p3, p4, p5, p6, p7, p8, p9, p10, p11, p12, p13, p14, p15, p16, p17, p18, p19, p20, p21, p22, p23⟩ := hp
  exfalso
  all_goals
    obtain ⟨u, h3⟩ := hi
    have ul := und_len u
    have un := u.n1
    have hr : Typed _ (ρ.l 1002) ∧ ρ.i .i64 1005 = ((ρ.l 1002).length : Int) := kn.rows 5 _ _ _ _ _ _ rfl
    first
      | omega
      | (have k := und_end u (by omega) (by omega)
         omega)
      | (have k := und_bad u (by omega) (by omega) (by first | rfl | rw [Int.zero_add]) (by omega)
         omega)
      | (have r := und_read u (by omega) (by omega) (by first | rfl | rw [Int.zero_add]) (by omega) (by omega) (by omega)
         have r1 := r.lt
         have r2 := r.w
         have r3 := r.p
         first | omega | exact p1 r.w | exact p1 r.w.symm | exact p1 r.p | exact p1 r.p.symm | exact p2 r.w | exact p2 r.w.symm | exact p2 r.p | exact p2 r.p.symm)
theorem vceach5_22 : VC TTeach inveach mseach 5 teach5 weach5_22 := by
  intro ρ kn hi hp
  have hi : iveach5 ρ := hi
  unfold iveach5 at hi
  have hr11 : Typed [(CK.int .u8)] (ρ.z.rl 0) ∧ (((ρ.z.rl 0).length : Nat) : Int) = (((ρ.z.rl 0)).length : Int) := kn.rows 11 _ _ _ _ _ _ rfl
  have hr5 : Typed [(CK.int .u64)] (ρ.l 1002) ∧ (ρ.i .i64 1005) = (((ρ.l 1002)).length : Int) := kn.rows 5 _ _ _ _ _ _ rfl
  have hr8 : Typed [(CK.int .i64)] (ρ.l 1004) ∧ (ρ.i .i64 1005) = (((ρ.l 1004)).length : Int) := kn.rows 8 _ _ _ _ _ _ rfl
  have hF : ρ.z.F = oct.Φ := kn.F
  simp only [h_nil, h_cons, d_le, d_eq, d_not, d_var, d_lit, d_cel, d_leq, d_fn, d_and, d_iff, IE.den, LE.den, AL.den, lenV, true_and, and_true, pceach5_17, pceach5_14, pceach5_10, pceach5_7, pceach5_4, pceach5_2, pceach5_0, hF, pi2, pi3, pi4, pi5, pi6, pi7, pl1, pi8, pi9, pl3] at hp
  obtain ⟨p1, p2, p3, p4, p5, p6, p7, p8, p9, p10, p11, p12, p13, p14, p15, p16, p17, p18, p19, p20, p21, p22⟩ := hp
  exfalso
  all_goals
    obtain ⟨u, h3⟩ := hi
    have ul := und_len u
    have un := u.n1
    have hr : Typed _ (ρ.l 1002) ∧ ρ.i .i64 1005 = ((ρ.l 1002).length : Int) := kn.rows 5 _ _ _ _ _ _ rfl
    first
      | omega
      | (have k := und_end u (by omega) (by omega)
         omega)
      | (have k := und_bad u (by omega) (by omega) (by first | rfl | rw [Int.zero_add]) (by omega)
         omega)
      | (have r := und_read u (by omega) (by omega) (by first | rfl | rw [Int.zero_add]) (by omega) (by omega) (by omega)
         have r1 := r.lt
         have r2 := r.w
         have r3 := r.p
         first | omega | exact p1 r.w | exact p1 r.w.symm | exact p1 r.p | exact p1 r.p.symm | exact p2 r.w | exact p2 r.w.symm | exact p2 r.p | exact p2 r.p.symm)
def iveach6 (ρ : Rho) : Prop := Und (ρ.z.rl 0) [] [] 0 0 0 (ρ.i .i64 11650) (ρ.i .u64 11649)
theorem vcgeach6_0 : VC TTeach inveach mseach 6 teach6 weach6_3 ∧ VC TTeach inveach mseach 6 teach6 weach6_6 ∧ VC TTeach inveach mseach 6 teach6 weach6_10 := by
  refine ⟨?_, ?_, ?_⟩
  all_goals
    intro ρ kn hi hp
    have hi : iveach6 ρ := hi
    unfold iveach6 at hi
    have hF : ρ.z.F = oct.Φ := kn.F
    simp only [h_nil, h_cons, d_le, d_eq, d_not, d_var, d_lit, d_cel, d_leq, d_fn, d_and, d_iff, IE.den, LE.den, AL.den, lenV, true_and, and_true, pceach6_3, pceach6_2, pceach6_0, pceach6_7, pceach6_6, pceach6_4, pceach6_8, hF, pi2, pi3, pi4, pi5, pi6, pi7, pl1, pi8, pi9, pl3] at hp
    have p1 := And.left hp
    replace hp := And.right hp
    repeat (have _ := And.left hp; replace hp := And.right hp)
    exfalso
    all_goals
      have r := und_read hi (b := clampK .u8 (intV (celV (ρ.z.rl 0) (ρ.i .i64 11650) 0))) (by omega) (by omega) (by rw [Int.zero_add]) (by omega) (by omega) (by omega)
      have r1 := r.lt
      simp at r1
theorem vceach6_0 : VC TTeach inveach mseach 6 teach6 weach6_0 := by
  intro ρ kn hi hp
  have hi : iveach6 ρ := hi
  unfold iveach6 at hi
  have hF : ρ.z.F = oct.Φ := kn.F
  simp only [h_nil, h_cons, d_le, d_eq, d_not, d_var, d_lit, d_cel, d_leq, d_fn, d_and, d_iff, IE.den, LE.den, AL.den, lenV, true_and, and_true, pceach6_1, pceach6_0, hF, pi2, pi3, pi4, pi5, pi6, pi7, pl1, pi8, pi9, pl3] at hp
  obtain ⟨p1, p2, p3, p4, p5, p6, p7⟩ := hp
  refine (show (Und (ρ.z.rl 0) [] [] 0 0 0 (0 : Int) (0 : Int)) ∧ (((ρ.z.rl 0).length - (0 : Int).toNat : Nat) < (ρ.z.rl 0).length + 2 + ((ρ.z.rl 0).length - (ρ.i .i64 11650).toNat)) from ?_)
  exact ⟨und0 hi.w rfl, by omega⟩
theorem vceach6_1 : VC TTeach inveach mseach 6 teach6 weach6_1 := by
  intro ρ kn hi hp
  have hi : iveach6 ρ := hi
  unfold iveach6 at hi
  have hF : ρ.z.F = oct.Φ := kn.F
  simp only [h_nil, h_cons, d_le, d_eq, d_not, d_var, d_lit, d_cel, d_leq, d_fn, d_and, d_iff, IE.den, LE.den, AL.den, lenV, true_and, and_true, pceach6_1, pceach6_0, hF, pi2, pi3, pi4, pi5, pi6, pi7, pl1, pi8, pi9, pl3] at hp
  obtain ⟨p1, p2, p3, p4, p5, p6, p7⟩ := hp
  refine (show (Und (ρ.z.rl 0) [] [] 0 0 0 (0 : Int) (0 : Int)) ∧ (((ρ.z.rl 0).length - (0 : Int).toNat : Nat) < (ρ.z.rl 0).length + 2 + ((ρ.z.rl 0).length - (ρ.i .i64 11650).toNat)) from ?_)
  exact ⟨und0 hi.w rfl, by omega⟩
theorem vceach6_2 : VC TTeach inveach mseach 6 teach6 weach6_2 := by
  intro ρ kn hi hp
  have hi : iveach6 ρ := hi
  unfold iveach6 at hi
  have hF : ρ.z.F = oct.Φ := kn.F
  simp only [h_nil, h_cons, d_le, d_eq, d_not, d_var, d_lit, d_cel, d_leq, d_fn, d_and, d_iff, IE.den, LE.den, AL.den, lenV, true_and, and_true, pceach6_3, pceach6_2, pceach6_0, hF, pi2, pi3, pi4, pi5, pi6, pi7, pl1, pi8, pi9, pl3] at hp
  obtain ⟨p1, p2, p3, p4, p5, p6, p7, p8⟩ := hp
  refine (show (Und (ρ.z.rl 0) [] [] 0 0 0 ((ρ.i .i64 11650) + (1 : Int)) (binI BinOp.or .u64 (ρ.i .u64 11649) (binI BinOp.shl .u64 (binI BinOp.and .u8 (clampK .u8 (intV (celV (ρ.z.rl 0) (ρ.i .i64 11650) 0))) (127 : Int)) ((7 : Int) * (ρ.i .i64 11650))))) ∧ (((ρ.z.rl 0).length + 2 + ((ρ.z.rl 0).length - ((ρ.i .i64 11650) + (1 : Int)).toNat) : Nat) < (ρ.z.rl 0).length + 2 + ((ρ.z.rl 0).length - (ρ.i .i64 11650).toNat)) from ?_)
  exact ⟨und_go hi (by omega) (by omega) (by first | rfl | rw [Int.zero_add]) (by omega) (by omega) (by assumption), by omega⟩
theorem vceach6_4 : VC TTeach inveach mseach 6 teach6 weach6_4 := by
  intro ρ kn hi hp
  have hi : iveach6 ρ := hi
  unfold iveach6 at hi
  have hF : ρ.z.F = oct.Φ := kn.F
  simp only [h_nil, h_cons, d_le, d_eq, d_not, d_var, d_lit, d_cel, d_leq, d_fn, d_and, d_iff, IE.den, LE.den, AL.den, lenV, true_and, and_true, pceach6_5, pceach6_4, pceach6_2, pceach6_0, hF, pi2, pi3, pi4, pi5, pi6, pi7, pl1, pi8, pi9, pl3] at hp
  obtain ⟨p1, p2, p3, p4, p5, p6, p7, p8, p9⟩ := hp
  refine (show (Und (ρ.z.rl 0) [] [] 0 0 0 (0 : Int) (0 : Int)) ∧ (((ρ.z.rl 0).length - (0 : Int).toNat : Nat) < (ρ.z.rl 0).length + 2 + ((ρ.z.rl 0).length - (ρ.i .i64 11650).toNat)) from ?_)
  exact ⟨und0 hi.w rfl, by omega⟩
theorem vceach6_5 : VC TTeach inveach mseach 6 teach6 weach6_5 := by
  intro ρ kn hi hp
  have hi : iveach6 ρ := hi
  unfold iveach6 at hi
  have hF : ρ.z.F = oct.Φ := kn.F
  simp only [h_nil, h_cons, d_le, d_eq, d_not, d_var, d_lit, d_cel, d_leq, d_fn, d_and, d_iff, IE.den, LE.den, AL.den, lenV, true_and, and_true, pceach6_5, pceach6_4, pceach6_2, pceach6_0, hF, pi2, pi3, pi4, pi5, pi6, pi7, pl1, pi8, pi9, pl3] at hp
  obtain ⟨p1, p2, p3, p4, p5, p6, p7, p8, p9⟩ := hp
  refine (show (Und (ρ.z.rl 0) [] [] 0 0 0 (0 : Int) (0 : Int)) ∧ (((ρ.z.rl 0).length - (0 : Int).toNat : Nat) < (ρ.z.rl 0).length + 2 + ((ρ.z.rl 0).length - (ρ.i .i64 11650).toNat)) from ?_)
  exact ⟨und0 hi.w rfl, by omega⟩
theorem vceach6_7 : VC TTeach inveach mseach 6 teach6 weach6_7 := by
  intro ρ kn hi hp
  have hi : iveach6 ρ := hi
  unfold iveach6 at hi
  have hF : ρ.z.F = oct.Φ := kn.F
  simp only [h_nil, h_cons, d_le, d_eq, d_not, d_var, d_lit, d_cel, d_leq, d_fn, d_and, d_iff, IE.den, LE.den, AL.den, lenV, true_and, and_true, pceach6_9, pceach6_7, pceach6_6, pceach6_4, pceach6_2, pceach6_0, hF, pi2, pi3, pi4, pi5, pi6, pi7, pl1, pi8, pi9, pl3] at hp
  obtain ⟨p1, p2, p3, p4, p5, p6, p7, p8, p9, p10, p11⟩ := hp
  refine (show (Und (ρ.z.rl 0) [] [] 0 0 0 (0 : Int) (0 : Int)) ∧ (((ρ.z.rl 0).length - (0 : Int).toNat : Nat) < (ρ.z.rl 0).length + 2 + ((ρ.z.rl 0).length - (ρ.i .i64 11650).toNat)) from ?_)
  exact ⟨und0 hi.w rfl, by omega⟩
theorem vceach6_8 : VC TTeach inveach mseach 6 teach6 weach6_8 := by
  intro ρ kn hi hp
  have hi : iveach6 ρ := hi
  unfold iveach6 at hi
  have hF : ρ.z.F = oct.Φ := kn.F
  simp only [h_nil, h_cons, d_le, d_eq, d_not, d_var, d_lit, d_cel, d_leq, d_fn, d_and, d_iff, IE.den, LE.den, AL.den, lenV, true_and, and_true, pceach6_9, pceach6_7, pceach6_6, pceach6_4, pceach6_2, pceach6_0, hF, pi2, pi3, pi4, pi5, pi6, pi7, pl1, pi8, pi9, pl3] at hp
  obtain ⟨p1, p2, p3, p4, p5, p6, p7, p8, p9, p10, p11⟩ := hp
  refine (show (Und (ρ.z.rl 0) [] [] 0 0 0 (0 : Int) (0 : Int)) ∧ (((ρ.z.rl 0).length - (0 : Int).toNat : Nat) < (ρ.z.rl 0).length + 2 + ((ρ.z.rl 0).length - (ρ.i .i64 11650).toNat)) from ?_)
  exact ⟨und0 hi.w rfl, by omega⟩
theorem vceach6_9 : VC TTeach inveach mseach 6 teach6 weach6_9 := by
  intro ρ kn hi hp
  have hi : iveach6 ρ := hi
  unfold iveach6 at hi
  have hF : ρ.z.F = oct.Φ := kn.F
  simp only [h_nil, h_cons, d_le, d_eq, d_not, d_var, d_lit, d_cel, d_leq, d_fn, d_and, d_iff, IE.den, LE.den, AL.den, lenV, true_and, and_true, pceach6_8, pceach6_6, pceach6_4, pceach6_2, pceach6_0, hF, pi2, pi3, pi4, pi5, pi6, pi7, pl1, pi8, pi9, pl3] at hp
  obtain ⟨p1, p2, p3, p4, p5, p6, p7, p8, p9, p10⟩ := hp
  refine (show (Und (ρ.z.rl 0) [] [] 0 0 0 ((ρ.i .i64 11650) + (1 : Int)) (binI BinOp.or .u64 (ρ.i .u64 11649) (binI BinOp.shl .u64 (binI BinOp.and .u8 (clampK .u8 (intV (celV (ρ.z.rl 0) (ρ.i .i64 11650) 0))) (127 : Int)) ((7 : Int) * (ρ.i .i64 11650))))) ∧ (((ρ.z.rl 0).length + 2 + ((ρ.z.rl 0).length - ((ρ.i .i64 11650) + (1 : Int)).toNat) : Nat) < (ρ.z.rl 0).length + 2 + ((ρ.z.rl 0).length - (ρ.i .i64 11650).toNat)) from ?_)
  exact ⟨und_go hi (by omega) (by omega) (by first | rfl | rw [Int.zero_add]) (by omega) (by omega) (by assumption), by omega⟩
def iveach7 (ρ : Rho) : Prop := Und (ρ.z.rl 0) [] [] 0 0 0 (ρ.i .i64 301650) (ρ.i .u64 301649)
theorem vcgeach7_0 : VC TTeach inveach mseach 7 teach7 weach7_2 ∧ VC TTeach inveach mseach 7 teach7 weach7_4 ∧ VC TTeach inveach mseach 7 teach7 weach7_7 := by
  refine ⟨?_, ?_, ?_⟩
  all_goals
    intro ρ kn hi hp
    have hi : iveach7 ρ := hi
    unfold iveach7 at hi
    have hF : ρ.z.F = oct.Φ := kn.F
    simp only [h_nil, h_cons, d_le, d_eq, d_not, d_var, d_lit, d_cel, d_leq, d_fn, d_and, d_iff, IE.den, LE.den, AL.den, lenV, true_and, and_true, pceach7_2, pceach7_1, pceach7_0, pceach7_5, pceach7_4, pceach7_3, pceach7_6, hF, pi2, pi3, pi4, pi5, pi6, pi7, pl1, pi8, pi9, pl3] at hp
    have p1 := And.left hp
    replace hp := And.right hp
    repeat (have _ := And.left hp; replace hp := And.right hp)
    exfalso
    all_goals
      have r := und_read hi (b := clampK .u8 (intV (celV (ρ.z.rl 0) (ρ.i .i64 301650) 0))) (by omega) (by omega) (by rw [Int.zero_add]) (by omega) (by omega) (by omega)
      have r1 := r.lt
      simp at r1
theorem vceach7_1 : VC TTeach inveach mseach 7 teach7 weach7_1 := by
  intro ρ kn hi hp
  have hi : iveach7 ρ := hi
  unfold iveach7 at hi
  have hF : ρ.z.F = oct.Φ := kn.F
  simp only [h_nil, h_cons, d_le, d_eq, d_not, d_var, d_lit, d_cel, d_leq, d_fn, d_and, d_iff, IE.den, LE.den, AL.den, lenV, true_and, and_true, pceach7_2, pceach7_1, pceach7_0, hF, pi2, pi3, pi4, pi5, pi6, pi7, pl1, pi8, pi9, pl3] at hp
  obtain ⟨p1, p2, p3, p4, p5, p6, p7, p8⟩ := hp
  refine (show (Und (ρ.z.rl 0) [] [] 0 0 0 ((ρ.i .i64 301650) + (1 : Int)) (binI BinOp.or .u64 (ρ.i .u64 301649) (binI BinOp.shl .u64 (binI BinOp.and .u8 (clampK .u8 (intV (celV (ρ.z.rl 0) (ρ.i .i64 301650) 0))) (127 : Int)) ((7 : Int) * (ρ.i .i64 301650))))) ∧ (((ρ.z.rl 0).length - ((ρ.i .i64 301650) + (1 : Int)).toNat : Nat) < (ρ.z.rl 0).length - (ρ.i .i64 301650).toNat) from ?_)
  exact ⟨und_go hi (by omega) (by omega) (by first | rfl | rw [Int.zero_add]) (by omega) (by omega) (by assumption), by omega⟩
theorem vceach7_6 : VC TTeach inveach mseach 7 teach7 weach7_6 := by
  intro ρ kn hi hp
  have hi : iveach7 ρ := hi
  unfold iveach7 at hi
  have hF : ρ.z.F = oct.Φ := kn.F
  simp only [h_nil, h_cons, d_le, d_eq, d_not, d_var, d_lit, d_cel, d_leq, d_fn, d_and, d_iff, IE.den, LE.den, AL.den, lenV, true_and, and_true, pceach7_6, pceach7_4, pceach7_3, pceach7_1, pceach7_0, hF, pi2, pi3, pi4, pi5, pi6, pi7, pl1, pi8, pi9, pl3] at hp
  obtain ⟨p1, p2, p3, p4, p5, p6, p7, p8, p9, p10⟩ := hp
  refine (show (Und (ρ.z.rl 0) [] [] 0 0 0 ((ρ.i .i64 301650) + (1 : Int)) (binI BinOp.or .u64 (ρ.i .u64 301649) (binI BinOp.shl .u64 (binI BinOp.and .u8 (clampK .u8 (intV (celV (ρ.z.rl 0) (ρ.i .i64 301650) 0))) (127 : Int)) ((7 : Int) * (ρ.i .i64 301650))))) ∧ (((ρ.z.rl 0).length - ((ρ.i .i64 301650) + (1 : Int)).toNat : Nat) < (ρ.z.rl 0).length - (ρ.i .i64 301650).toNat) from ?_)
  exact ⟨und_go hi (by omega) (by omega) (by first | rfl | rw [Int.zero_add]) (by omega) (by omega) (by assumption), by omega⟩
theorem vcseach0 : ∀ v ∈ vweach 0, VC TTeach inveach mseach 0 (startF 8 cEach.pat (.lit true :: cEach.pre)) v := all_cons vceach0_0 (all_cons (fun _ _ _ _ => all_nil) (all_nil))
theorem okeach0 : cfgOk (startF 8 cEach.pat (.lit true :: cEach.pre)) = true := by kernel_rfl
theorem sgeach0 : segL cEach.roms cEach (seg TTeach seleach 3000 tmeach (startF 8 cEach.pat (.lit true :: cEach.pre))) = (true, codesR tmeach (views (seg TTeach seleach 3000 tmeach (startF 8 cEach.pat (.lit true :: cEach.pre)))), vweach 0) := by kernel_rfl
theorem vcseach1 : ∀ v ∈ vweach 1, VC TTeach inveach mseach 1 teach1 v := all_cons vceach1_0 (all_cons vceach1_1 (all_nil))
theorem okeach1 : cfgOk teach1 = true := by kernel_rfl
theorem sgeach1 : segL cEach.roms cEach (seg TTeach seleach 3000 tmeach teach1) = (true, codesR tmeach (views (seg TTeach seleach 3000 tmeach teach1)), vweach 1) := by kernel_rfl
theorem vcseach2 : ∀ v ∈ vweach 2, VC TTeach inveach mseach 2 teach2 v := all_cons vceach2_0 (all_cons vceach2_1 (all_cons vceach2_2 (all_cons vceach2_3 (all_nil))))
theorem okeach2 : cfgOk teach2 = true := by kernel_rfl
theorem sgeach2 : segL cEach.roms cEach (seg TTeach seleach 3000 tmeach teach2) = (true, codesR tmeach (views (seg TTeach seleach 3000 tmeach teach2)), vweach 2) := by kernel_rfl
theorem vcseach3 : ∀ v ∈ vweach 3, VC TTeach inveach mseach 3 teach3 v := all_cons vceach3_0 (all_cons vceach3_1 (all_cons vceach3_2 (all_cons vceach3_3 (all_cons vceach3_4 (all_cons vceach3_5 (all_cons vceach3_6 (all_cons vceach3_7 (all_cons vceach3_8 (all_cons vceach3_9 (all_cons vceach3_10 (all_cons vceach3_11 (all_cons vceach3_12 (all_cons vceach3_13 (all_cons vceach3_14 (all_cons vceach3_15 (all_cons vceach3_16 (all_cons vceach3_17 (all_cons vceach3_18 (all_cons vceach3_19 (all_cons vceach3_20 (all_cons vceach3_21 (all_cons vceach3_22 (all_cons vceach3_23 (all_cons vceach3_24 (all_cons vceach3_25 (all_cons vceach3_26 (all_cons vceach3_27 (all_cons vceach3_28 (all_cons vceach3_29 (all_cons vceach3_30 (all_cons vceach3_31 (all_cons vceach3_32 (all_cons vceach3_33 (all_cons vceach3_34 (all_cons vceach3_35 (all_cons vceach3_36 (all_cons vceach3_37 (all_cons vceach3_38 (all_cons vceach3_39 (all_cons vceach3_40 (all_cons vceach3_41 (all_cons vceach3_42 (all_cons vceach3_43 (all_cons vceach3_44 (all_cons vceach3_45 (all_cons vceach3_46 (all_cons vceach3_47 (all_cons vceach3_48 (all_cons vceach3_49 (all_cons vceach3_50 (all_cons vceach3_51 (all_cons vceach3_52 (all_cons vceach3_53 (all_cons vceach3_54 (all_cons vceach3_55 (all_cons vceach3_56 (all_cons vceach3_57 (all_cons vceach3_58 (all_nil)))))))))))))))))))))))))))))))))))))))))))))))))))))))))))
theorem okeach3 : cfgOk teach3 = true := by kernel_rfl
theorem sgeach3 : segL cEach.roms cEach (seg TTeach seleach 3000 tmeach teach3) = (true, codesR tmeach (views (seg TTeach seleach 3000 tmeach teach3)), vweach 3) := by kernel_rfl
theorem vcseach4 : ∀ v ∈ vweach 4, VC TTeach inveach mseach 4 teach4 v := all_cons vceach4_0 (all_nil)
theorem okeach4 : cfgOk teach4 = true := by kernel_rfl
theorem sgeach4 : segL cEach.roms cEach (seg TTeach seleach 3000 tmeach teach4) = (true, codesR tmeach (views (seg TTeach seleach 3000 tmeach teach4)), vweach 4) := by kernel_rfl
theorem vcseach5 : ∀ v ∈ vweach 5, VC TTeach inveach mseach 5 teach5 v := all_cons (fun _ _ _ _ => all_nil) (all_cons vceach5_1 (all_cons vceach5_2 (all_cons vceach5_3 (all_cons vceach5_4 (all_cons vceach5_5 (all_cons vceach5_6 (all_cons vceach5_7 (all_cons (fun _ _ _ _ => all_nil) (all_cons vceach5_9 (all_cons vceach5_10 (all_cons vceach5_11 (all_cons vceach5_12 (all_cons vceach5_13 (all_cons vceach5_14 (all_cons (fun _ _ _ _ => all_nil) (all_cons vceach5_16 (all_cons vceach5_17 (all_cons vceach5_18 (all_cons vceach5_19 (all_cons vceach5_20 (all_cons vceach5_21 (all_cons vceach5_22 (all_nil)))))))))))))))))))))))
theorem okeach5 : cfgOk teach5 = true := by kernel_rfl
theorem sgeach5 : segL cEach.roms cEach (seg TTeach seleach 3000 tmeach teach5) = (true, codesR tmeach (views (seg TTeach seleach 3000 tmeach teach5)), vweach 5) := by kernel_rfl
theorem vcseach6 : ∀ v ∈ vweach 6, VC TTeach inveach mseach 6 teach6 v := all_cons vceach6_0 (all_cons vceach6_1 (all_cons vceach6_2 (all_cons vcgeach6_0.1 (all_cons vceach6_4 (all_cons vceach6_5 (all_cons vcgeach6_0.2.1 (all_cons vceach6_7 (all_cons vceach6_8 (all_cons vceach6_9 (all_cons vcgeach6_0.2.2 (all_nil)))))))))))
theorem okeach6 : cfgOk teach6 = true := by kernel_rfl
theorem sgeach6 : segL cEach.roms cEach (seg TTeach seleach 3000 tmeach teach6) = (true, codesR tmeach (views (seg TTeach seleach 3000 tmeach teach6)), vweach 6) := by kernel_rfl
theorem vcseach7 : ∀ v ∈ vweach 7, VC TTeach inveach mseach 7 teach7 v := all_cons (fun _ _ _ _ => all_nil) (all_cons vceach7_1 (all_cons vcgeach7_0.1 (all_cons (fun _ _ _ _ => all_nil) (all_cons vcgeach7_0.2.1 (all_cons (fun _ _ _ _ => all_nil) (all_cons vceach7_6 (all_cons vcgeach7_0.2.2 (all_nil))))))))
theorem okeach7 : cfgOk teach7 = true := by kernel_rfl
theorem sgeach7 : segL cEach.roms cEach (seg TTeach seleach 3000 tmeach teach7) = (true, codesR tmeach (views (seg TTeach seleach 3000 tmeach teach7)), vweach 7) := by kernel_rfl
theorem lneach0 : ∀ ρ, Known TTeach (startF 8 cEach.pat (.lit true :: cEach.pre)) ρ → inveach 0 ρ.lt → Holds ρ (leanOf (Cfg.pc (startF 8 cEach.pat (.lit true :: cEach.pre)))) := by
  intro ρ _ _
  exact (show Holds ρ [] from fun p hp => by cases hp)
theorem lneach1 : ∀ ρ, Known TTeach teach1 ρ → inveach 1 ρ.lt → Holds ρ (leanOf (Cfg.pc teach1)) := by
  intro ρ kn hi
  refine (show Holds ρ [.le (ln 0) (.rcap 0)] from ?_)
  have hi : (ρ.i .i64 1000) = 0 := hi
  have hF : ρ.z.F = oct.Φ := kn.F
  simp only [h_nil, h_cons, d_le, d_eq, d_not, d_var, d_lit, d_cel, d_leq, d_fn, d_and, d_iff, IE.den, LE.den, AL.den, lenV, true_and, and_true, hF, pi2, pi3, pi4, pi5, pi6, pi7, pl1, pi8, pi9, pl3]
  have hc := kn.cap 0 _ _ rfl
  simp only [ln, IE.den, LE.den, lenV]
  omega
theorem lneach2 : ∀ ρ, Known TTeach teach2 ρ → inveach 2 ρ.lt → Holds ρ (leanOf (Cfg.pc teach2)) := by
  intro ρ kn hi
  refine (show Holds ρ [.le (.var .i64 1005) (.lit 300)] from ?_)
  have hi : Gath (ρ.z.rl 0) (ρ.l 1002) (ρ.l 1004) (ρ.i .i64 1001) ∧ (ρ.z.rl 0).length ≤ 300 := hi
  have hF : ρ.z.F = oct.Φ := kn.F
  simp only [h_nil, h_cons, d_le, d_eq, d_not, d_var, d_lit, d_cel, d_leq, d_fn, d_and, d_iff, IE.den, LE.den, AL.den, lenV, true_and, and_true, hF, pi2, pi3, pi4, pi5, pi6, pi7, pl1, pi8, pi9, pl3]
  obtain ⟨g, hl⟩ := hi
  have hr : Typed _ (ρ.l 1002) ∧ ρ.i .i64 1005 = ((ρ.l 1002).length : Int) := kn.rows 5 _ _ _ _ _ _ rfl
  have h1 := gath_cnt g
  have h2 := g.pos
  have h3 := pos_le (ρ.z.rl 0) (ρ.l 1002).length
  omega
theorem lneach3 : ∀ ρ, Known TTeach teach3 ρ → inveach 3 ρ.lt → Holds ρ (leanOf (Cfg.pc teach3)) := by
  intro ρ kn hi
  refine (show Holds ρ [.le (.var .i64 11652) (.lit 9), .le (.var .i64 11653) (.lit 300), .le (.var .i64 11654) (.lit 300)] from ?_)
  have hi : Und (ρ.z.rl 0) (ρ.l 1002) (ρ.l 1004) (ρ.i .i64 11654) (ρ.i .i64 11653) (ρ.i .i64 11649) (ρ.i .i64 11652) (ρ.i .u64 11655) ∧ ((ρ.i .i64 11654) = 0 ∨ (ρ.i .i64 11654) < (ρ.i .i64 1)) ∧ (ρ.z.rl 0).length ≤ 300 := hi
  have hF : ρ.z.F = oct.Φ := kn.F
  simp only [h_nil, h_cons, d_le, d_eq, d_not, d_var, d_lit, d_cel, d_leq, d_fn, d_and, d_iff, IE.den, LE.den, AL.den, lenV, true_and, and_true, hF, pi2, pi3, pi4, pi5, pi6, pi7, pl1, pi8, pi9, pl3]
  obtain ⟨u, hl⟩ := hi
  have ul := und_len u
  have h9 := und9 u
  have h1 := u.n1
  have h2 := gath_cnt u.w.g
  have h3 := pos_le (ρ.z.rl 0) (ρ.l 1002).length
  omega
theorem lneach4 : ∀ ρ, Known TTeach teach4 ρ → inveach 4 ρ.lt → Holds ρ (leanOf (Cfg.pc teach4)) := by
  intro ρ kn hi
  refine (show Holds ρ [.le (.var .i64 1005) (.lit 300)] from ?_)
  have hi : Whole (ρ.z.rl 0) (ρ.l 1002) (ρ.l 1004) ∧ (ρ.z.rl 0).length ≤ 300 := hi
  have hF : ρ.z.F = oct.Φ := kn.F
  simp only [h_nil, h_cons, d_le, d_eq, d_not, d_var, d_lit, d_cel, d_leq, d_fn, d_and, d_iff, IE.den, LE.den, AL.den, lenV, true_and, and_true, hF, pi2, pi3, pi4, pi5, pi6, pi7, pl1, pi8, pi9, pl3]
  obtain ⟨w, hl⟩ := hi
  have hr : Typed _ (ρ.l 1002) ∧ ρ.i .i64 1005 = ((ρ.l 1002).length : Int) := kn.rows 5 _ _ _ _ _ _ rfl
  have h1 := gath_cnt w.g
  have h3 := pos_le (ρ.z.rl 0) (ρ.l 1002).length
  omega
theorem lneach5 : ∀ ρ, Known TTeach teach5 ρ → inveach 5 ρ.lt → Holds ρ (leanOf (Cfg.pc teach5)) := by
  intro ρ kn hi
  refine (show Holds ρ [.le (.var .i64 11652) (.lit 9), .le (.var .i64 11653) (.lit 300), .le (.var .i64 11654) (.lit 300)] from ?_)
  have hi : Und (ρ.z.rl 0) (ρ.l 1002) (ρ.l 1004) (ρ.i .i64 11654) (ρ.i .i64 11653) (ρ.i .i64 11649) (ρ.i .i64 11652) (ρ.i .u64 11655) ∧ (ρ.z.rl 0).length ≤ 300 := hi
  have hF : ρ.z.F = oct.Φ := kn.F
  simp only [h_nil, h_cons, d_le, d_eq, d_not, d_var, d_lit, d_cel, d_leq, d_fn, d_and, d_iff, IE.den, LE.den, AL.den, lenV, true_and, and_true, hF, pi2, pi3, pi4, pi5, pi6, pi7, pl1, pi8, pi9, pl3]
  obtain ⟨u, hl⟩ := hi
  have ul := und_len u
  have h9 := und9 u
  have h1 := u.n1
  have h2 := gath_cnt u.w.g
  have h3 := pos_le (ρ.z.rl 0) (ρ.l 1002).length
  omega
theorem lneach6 : ∀ ρ, Known TTeach teach6 ρ → inveach 6 ρ.lt → Holds ρ (leanOf (Cfg.pc teach6)) := by
  intro ρ _ _
  exact (show Holds ρ [] from fun p hp => by cases hp)
theorem lneach7 : ∀ ρ, Known TTeach teach7 ρ → inveach 7 ρ.lt → Holds ρ (leanOf (Cfg.pc teach7)) := by
  intro ρ _ _
  exact (show Holds ρ [] from fun p hp => by cases hp)
theorem told_each : Sx.Told oct.Φ cEach := by
  refine told_of (cs := [cWorks, cRRead]) (all_cons told_works (all_cons told_rread (all_nil))) (sel := seleach) 3000 tmeach inveach mseach vweach 0 (pc0 := (.lit true :: cEach.pre)) (by kernel_rfl) (by kernel_rfl) (by kernel_rfl) (post_nil rfl) ?_ ?_ ?_ rfl (fun ρ _ h => h.cons (p := .lit true) (by simp only [BE.den])) (fun _ _ _ _ => trivial) ?_
  · intro k C h
    have := lk_mem h
    simp only [tmeach, List.mem_cons, Prod.mk.injEq, List.not_mem_nil, or_false] at this
    rcases this with ⟨rfl, rfl⟩ | ⟨rfl, rfl⟩ | ⟨rfl, rfl⟩ | ⟨rfl, rfl⟩ | ⟨rfl, rfl⟩ | ⟨rfl, rfl⟩ | ⟨rfl, rfl⟩ | ⟨rfl, rfl⟩
    · exact okeach0
    · exact okeach1
    · exact okeach2
    · exact okeach3
    · exact okeach4
    · exact okeach5
    · exact okeach6
    · exact okeach7
  · intro k C h
    have := lk_mem h
    simp only [tmeach, List.mem_cons, Prod.mk.injEq, List.not_mem_nil, or_false] at this
    rcases this with ⟨rfl, rfl⟩ | ⟨rfl, rfl⟩ | ⟨rfl, rfl⟩ | ⟨rfl, rfl⟩ | ⟨rfl, rfl⟩ | ⟨rfl, rfl⟩ | ⟨rfl, rfl⟩ | ⟨rfl, rfl⟩
    · exact sgeach0
    · exact sgeach1
    · exact sgeach2
    · exact sgeach3
    · exact sgeach4
    · exact sgeach5
    · exact sgeach6
    · exact sgeach7
  · intro k C h
    have := lk_mem h
    simp only [tmeach, List.mem_cons, Prod.mk.injEq, List.not_mem_nil, or_false] at this
    rcases this with ⟨rfl, rfl⟩ | ⟨rfl, rfl⟩ | ⟨rfl, rfl⟩ | ⟨rfl, rfl⟩ | ⟨rfl, rfl⟩ | ⟨rfl, rfl⟩ | ⟨rfl, rfl⟩ | ⟨rfl, rfl⟩
    · exact vcseach0
    · exact vcseach1
    · exact vcseach2
    · exact vcseach3
    · exact vcseach4
    · exact vcseach5
    · exact vcseach6
    · exact vcseach7
  · intro k C h
    have := lk_mem h
    simp only [tmeach, List.mem_cons, Prod.mk.injEq, List.not_mem_nil, or_false] at this
    rcases this with ⟨rfl, rfl⟩ | ⟨rfl, rfl⟩ | ⟨rfl, rfl⟩ | ⟨rfl, rfl⟩ | ⟨rfl, rfl⟩ | ⟨rfl, rfl⟩ | ⟨rfl, rfl⟩ | ⟨rfl, rfl⟩
    · exact lneach0
    · exact lneach1
    · exact lneach2
    · exact lneach3
    · exact lneach4
    · exact lneach5
    · exact lneach6
    · exact lneach7
end Go.Proofs.Ytjgkaimgocnkmaa.oct
