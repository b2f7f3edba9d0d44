/- Layer octet: lists, the program's, told. No condition. -/
import Derived.Test.YtjgkaimgocnkmaaRg
set_option linter.unusedVariables false
set_option linter.unusedSimpArgs false
set_option linter.deprecated false
namespace Go.Proofs.Ytjgkaimgocnkmaa.oct
open Go Go.Proofs.Ytjgkaimgocnkmaa.Sx
theorem post_ljR : PostOk Φ cListR2 := by
  intro ρ hF hp
  have hm := hp (.le (ln 0) (.lit 10000)) (by simp [cListR2, preL2])
  have hb := hp lsBE (by simp [cListR2])
  simp only [ln, d_le, IE.den, LE.den, lenV] at hm
  simp only [lsBE, rS2, xv, d_fn, IE.den, LE.den, AL.den, hF, pb1] at hb
  have := post_ls2 hb hm
  show Holds ρ [_, _]
  simp only [h_nil, h_cons, d_le, IE.den, LE.den, AL.den, lsLE, rS2, xv, lenV, hF, pl2, and_true]
  exact this
noncomputable section
abbrev TTljR : Tab := T oct.Φ cListR2.roms []
def tljR1 : Cfg := { top := ⟨60, over (opqS 10000 64) [(0, (SV.ptr 0 0)), (4, (SV.int .u64 (IE.var .u64 1000))), (5, (SV.int .i64 (IE.lit 110))), (21, (SV.rom 0 (IE.lit 0) (IE.len (LE.rom 0)) (some (IE.len (LE.rom 0))))), (22, (SV.int .i64 (IE.len (LE.rom 0)))), (23, (SV.int .i64 (IE.var .i64 1001)))], ogt (loopTodo (bodyOf (T oct.Φ [] []) 60) 0), [], false, none⟩, rest := [⟨33, over (opqS 30000 37) [(1, (SV.int .i64 (IE.var .i64 1))), (7, (SV.ptr 0 0))], ogt (callTodo (bodyOf (T oct.Φ [] []) 33) 2 [0, 1, 2, 3, 4, 5]), [], false, none⟩], heap := [(0, .cells [(SV.rom 0 (IE.lit 0) (IE.len (LE.rom 0)) none), (SV.int .i64 (IE.lit 0))] 110)], next := 1, pc := .lit true :: ([] ++ [(BE.le (IE.lit 1) (IE.len (LE.rom 0))), (BE.fn 1 (AL.lst (LE.rom 0) (AL.int .i64 (IE.var .i64 1) AL.nil))), (BE.le (IE.lit 0) (IE.var .i64 1001)), (BE.le (IE.var .i64 1001) (IE.len (LE.rom 0)))] ++ (.and (.lit true) (.lit true)) :: [.le (.var .i64 1001) (.lit 9)]) }
def tljR2 : Cfg := { top := ⟨64, over (opqS 10000 26) [(0, (SV.int .u64 (IE.var .u64 1002))), (1, (SV.func (Go.Fn.func 65) [] [(SV.ptr 0 0)])), (6, (SV.const (Go.Value.slice none 0 0)))], ogt (loopTodo (bodyOf (T oct.Φ [] []) 64) 0), [], false, none⟩, rest := [⟨33, over (opqS 30000 37) [(7, (SV.ptr 0 0))], ogt (callTodo (bodyOf (T oct.Φ [] []) 33) 7 [2, 3, 4, 5, 6, 7]), [], false, none⟩], heap := [(0, .cells [(SV.rom 0 (IE.lit 0) (IE.len (LE.rom 0)) none), (SV.int .i64 (IE.var .i64 1003))] 110)], next := 1, pc := .lit true :: ([] ++ [(BE.fn 1 (AL.lst (LE.rom 0) (AL.int .i64 (IE.var .i64 1) AL.nil))), (BE.le (IE.lit 1) (IE.len (LE.rom 0))), (BE.le (IE.lit 0) (IE.var .i64 1003)), (BE.le (IE.var .i64 1003) (IE.len (LE.rom 0)))]) }
def tljR3 : Cfg := { top := ⟨64, over (opqS 10000 26) [(0, (SV.int .u64 (IE.var .u64 1009))), (1, (SV.func (Go.Fn.func 65) [] [(SV.ptr 0 0)])), (6, (SV.sll 2 3 1 (IE.lit 0) (IE.var .i64 1010) none))], ogt (loopTodo (bodyOf (T oct.Φ [] []) 64) 0), [], false, none⟩, rest := [⟨33, over (opqS 30000 37) [(7, (SV.ptr 0 0))], ogt (callTodo (bodyOf (T oct.Φ [] []) 33) 7 [2, 3, 4, 5, 6, 7]), [], false, none⟩], heap := [(0, .cells [(SV.rom 0 (IE.lit 0) (IE.len (LE.rom 0)) none), (SV.int .i64 (IE.var .i64 1011))] 110), (2, .rowl (LE.var 1012) (IE.var .i64 1010) [CK.str] 9 3 1)], next := 4, pc := .lit true :: ([] ++ [(BE.fn 1 (AL.lst (LE.rom 0) (AL.int .i64 (IE.var .i64 1) AL.nil))), (BE.le (IE.lit 1) (IE.len (LE.rom 0))), (BE.le (IE.lit 0) (IE.var .i64 1010)), (BE.le (IE.lit 0) (IE.var .i64 1011)), (BE.le (IE.var .i64 1011) (IE.len (LE.rom 0)))] ++ (.and (.lit true) (.lit true)) :: [.le (.var .i64 1010) (.lit 10000)]) }
def tljR4 : Cfg := { top := ⟨60, over (opqS 10000 64) [(0, (SV.ptr 0 0)), (4, (SV.int .u64 (IE.var .u64 1008))), (5, (SV.int .i64 (IE.lit 110))), (21, (SV.rom 0 (IE.var .i64 1004) (IE.sub (IE.len (LE.rom 0)) (IE.var .i64 1003)) (some (IE.var .i64 1006)))), (22, (SV.int .i64 (IE.sub (IE.len (LE.rom 0)) (IE.var .i64 1003)))), (23, (SV.int .i64 (IE.var .i64 1007)))], ogt (loopTodo (bodyOf (T oct.Φ [] []) 60) 0), [], false, none⟩, rest := [⟨62, over (opqS 30000 48) [(0, (SV.ptr 0 0))], ogt (callTodo (bodyOf (T oct.Φ [] []) 62) 1 [1, 2, 3, 4, 5, 6]), [], false, none⟩, ⟨65, over (opqS 50000 6) [], ogt (callTodo (bodyOf (T oct.Φ [] []) 65) 1 [0, 1, 2, 3, 4]), [], false, none⟩, ⟨64, over (opqS 70000 26) [(0, (SV.int .u64 (IE.var .u64 1002))), (1, (SV.func (Go.Fn.func 65) [] [(SV.ptr 0 0)])), (6, (SV.const (Go.Value.slice none 0 0)))], ogt (callTodo (bodyOf (T oct.Φ [] []) 64) 4 [1, 2, 3, 4, 5, 6]), [], false, none⟩, ⟨33, over (opqS 90000 37) [(7, (SV.ptr 0 0))], ogt (callTodo (bodyOf (T oct.Φ [] []) 33) 7 [2, 3, 4, 5, 6, 7]), [], false, none⟩], heap := [(0, .cells [(SV.rom 0 (IE.lit 0) (IE.len (LE.rom 0)) none), (SV.int .i64 (IE.var .i64 1003))] 110)], next := 1, pc := .lit true :: ([.le (.var .i64 1004) (.var .i64 1003)] ++ [(BE.le (IE.lit 1) (IE.len (LE.rom 0))), (BE.fn 1 (AL.lst (LE.rom 0) (AL.int .i64 (IE.var .i64 1) AL.nil))), (BE.not (BE.le (IE.var .u64 1002) (IE.lit 0))), (BE.le (IE.lit 0) (IE.var .i64 1003)), (BE.le (IE.var .i64 1003) (IE.len (LE.rom 0))), (BE.le (IE.lit 0) (IE.var .i64 1004)), (BE.le (IE.lit 0) (IE.var .i64 1006)), (BE.le (IE.lit 0) (IE.var .i64 1007))] ++ (.and (.lit true) (.lit true)) :: [.le (.var .i64 1007) (.lit 9)]) }
def tljR5 : Cfg := { top := ⟨60, over (opqS 10000 64) [(0, (SV.ptr 0 0)), (4, (SV.int .u64 (IE.var .u64 1017))), (5, (SV.int .i64 (IE.lit 110))), (21, (SV.rom 0 (IE.var .i64 1013) (IE.sub (IE.len (LE.rom 0)) (IE.var .i64 1011)) (some (IE.var .i64 1015)))), (22, (SV.int .i64 (IE.sub (IE.len (LE.rom 0)) (IE.var .i64 1011)))), (23, (SV.int .i64 (IE.var .i64 1016)))], ogt (loopTodo (bodyOf (T oct.Φ [] []) 60) 0), [], false, none⟩, rest := [⟨62, over (opqS 30000 48) [(0, (SV.ptr 0 0))], ogt (callTodo (bodyOf (T oct.Φ [] []) 62) 1 [1, 2, 3, 4, 5, 6]), [], false, none⟩, ⟨65, over (opqS 50000 6) [], ogt (callTodo (bodyOf (T oct.Φ [] []) 65) 1 [0, 1, 2, 3, 4]), [], false, none⟩, ⟨64, over (opqS 70000 26) [(0, (SV.int .u64 (IE.var .u64 1009))), (1, (SV.func (Go.Fn.func 65) [] [(SV.ptr 0 0)])), (6, (SV.sll 2 3 1 (IE.lit 0) (IE.var .i64 1010) none))], ogt (callTodo (bodyOf (T oct.Φ [] []) 64) 4 [1, 2, 3, 4, 5, 6]), [], false, none⟩, ⟨33, over (opqS 90000 37) [(7, (SV.ptr 0 0))], ogt (callTodo (bodyOf (T oct.Φ [] []) 33) 7 [2, 3, 4, 5, 6, 7]), [], false, none⟩], heap := [(0, .cells [(SV.rom 0 (IE.lit 0) (IE.len (LE.rom 0)) none), (SV.int .i64 (IE.var .i64 1011))] 110), (2, .rowl (LE.var 1012) (IE.var .i64 1010) [CK.str] 9 3 1)], next := 4, pc := .lit true :: ([.le (.var .i64 1013) (.var .i64 1011)] ++ [(BE.le (IE.lit 1) (IE.len (LE.rom 0))), (BE.fn 1 (AL.lst (LE.rom 0) (AL.int .i64 (IE.var .i64 1) AL.nil))), (BE.not (BE.le (IE.var .u64 1009) (IE.lit 0))), (BE.le (IE.lit 0) (IE.var .i64 1010)), (BE.le (IE.lit 0) (IE.var .i64 1011)), (BE.le (IE.var .i64 1011) (IE.len (LE.rom 0))), (BE.le (IE.var .i64 1010) (IE.lit 10000)), (BE.le (IE.lit 0) (IE.var .i64 1013)), (BE.le (IE.lit 0) (IE.var .i64 1015)), (BE.le (IE.lit 0) (IE.var .i64 1016))] ++ (.and (.lit true) (.lit true)) :: [.le (.var .i64 1016) (.lit 9), .le (.var .i64 1010) (.lit 10000)]) }
def tmljR : List (Nat × Cfg) := [(0, startF 33 cListR2.pat (.lit true :: cListR2.pre)), (1, tljR1), (2, tljR2), (3, tljR3), (4, tljR4), (5, tljR5)]
def selljR : Sel := [(60, 1, 1, 1), (64, 1, 769001, 2), (64, 1, 770001, 3), (60, 1, 99073004, 4), (60, 1, 99074004, 5)]
def wljR0_0 : VW := (VW.cut 1 [(BE.lit true), (BE.fn 1 (AL.lst (LE.rom 0) (AL.int .i64 (IE.var .i64 1) AL.nil))), (BE.le (IE.lit 1) (IE.len (LE.rom 0))), (BE.le (IE.len (LE.rom 0)) (IE.lit 10000))] (Sx.Sub.mk [(.i64, (1001, (IE.lit 0))), (.u64, (1000, (IE.lit 0)))] [] [] [] [] []))
def vwljR0 : List VW := [wljR0_0]
def pcljR1_0 : List BE := [(BE.lit true), (BE.le (IE.lit 1) (IE.len (LE.rom 0))), (BE.fn 1 (AL.lst (LE.rom 0) (AL.int .i64 (IE.var .i64 1) AL.nil))), (BE.le (IE.lit 0) (IE.var .i64 1001)), (BE.le (IE.var .i64 1001) (IE.len (LE.rom 0))), (BE.and (BE.lit true) (BE.lit true)), (BE.le (IE.var .i64 1001) (IE.lit 9))]
def pcljR1_1 : List BE := ((BE.not (BE.le (IE.len (LE.rom 0)) (IE.var .i64 1001))) :: pcljR1_0)
def pcljR1_2 : List BE := ((BE.le (IE.var .i64 1001) (IE.lit 0)) :: pcljR1_1)
def pcljR1_3 : List BE := ((BE.not (BE.le (IE.var .i64 1001) (IE.lit 0))) :: pcljR1_1)
def pcljR1_4 : List BE := ((BE.not (BE.le (IE.lit 128) (IE.cel .u8 (LE.rom 0) (IE.var .i64 1001) 0))) :: pcljR1_2)
def pcljR1_5 : List BE := ((BE.not (BE.eq (IE.cel .u8 (LE.rom 0) (IE.var .i64 1001) 0) (IE.lit 0))) :: pcljR1_3)
def pcljR1_6 : List BE := ((BE.le (IE.var .i64 1) (IE.lit 0)) :: pcljR1_4)
def pcljR1_7 : List BE := ((BE.not (BE.le (IE.var .i64 1) (IE.lit 0))) :: pcljR1_4)
def pcljR1_8 : List BE := ((BE.eq (IE.var .i64 1001) (IE.lit 9)) :: pcljR1_5)
def pcljR1_9 : List BE := ((BE.not (BE.eq (IE.var .i64 1001) (IE.lit 9))) :: pcljR1_5)
def pcljR1_10 : List BE := ((BE.le (IE.cel .u8 (LE.rom 0) (IE.var .i64 1001) 0) (IE.lit 1)) :: pcljR1_8)
def pcljR1_11 : List BE := ((BE.not (BE.le (IE.lit 128) (IE.cel .u8 (LE.rom 0) (IE.var .i64 1001) 0))) :: pcljR1_9)
def pcljR1_12 : List BE := ((BE.le (IE.var .i64 1) (IE.lit 0)) :: pcljR1_10)
def pcljR1_13 : List BE := ((BE.not (BE.le (IE.var .i64 1) (IE.lit 0))) :: pcljR1_10)
def pcljR1_14 : List BE := ((BE.le (IE.var .i64 1) (IE.lit 0)) :: pcljR1_11)
def pcljR1_15 : List BE := ((BE.not (BE.le (IE.var .i64 1) (IE.lit 0))) :: pcljR1_11)
def wljR1_0 : VW := (VW.done ((BE.le (IE.len (LE.rom 0)) (IE.var .i64 1001)) :: pcljR1_0) (some [(G.b (BE.lit true) (BE.lit false))]))
def wljR1_1 : VW := (VW.cut 1 ((BE.le (IE.lit 128) (IE.cel .u8 (LE.rom 0) (IE.var .i64 1001) 0)) :: pcljR1_2) (Sx.Sub.mk [(.i64, (1001, (IE.add (IE.var .i64 1001) (IE.lit 1)))), (.u64, (1000, (IE.bin BinOp.or .u64 (IE.var .u64 1000) (IE.bin BinOp.shl .u64 (IE.bin BinOp.and .u8 (IE.cel .u8 (LE.rom 0) (IE.var .i64 1001) 0) (IE.lit 127)) (IE.mul (IE.lit 7) (IE.var .i64 1001))))))] [] [] [] [] []))
def wljR1_2 : VW := (VW.cut 2 ((BE.le (IE.bin BinOp.or .u64 (IE.var .u64 1000) (IE.bin BinOp.shl .u64 (IE.bin BinOp.and .u8 (IE.cel .u8 (LE.rom 0) (IE.var .i64 1001) 0) (IE.lit 127)) (IE.mul (IE.lit 7) (IE.var .i64 1001)))) (IE.lit 0)) :: pcljR1_6) (Sx.Sub.mk [(.i64, (1003, (IE.add (IE.lit 0) (IE.add (IE.var .i64 1001) (IE.lit 1))))), (.u64, (1002, (IE.bin BinOp.or .u64 (IE.var .u64 1000) (IE.bin BinOp.shl .u64 (IE.bin BinOp.and .u8 (IE.cel .u8 (LE.rom 0) (IE.var .i64 1001) 0) (IE.lit 127)) (IE.mul (IE.lit 7) (IE.var .i64 1001))))))] [] [] [] [] []))
def wljR1_3 : VW := (VW.done ((BE.not (BE.le (IE.bin BinOp.or .u64 (IE.var .u64 1000) (IE.bin BinOp.shl .u64 (IE.bin BinOp.and .u8 (IE.cel .u8 (LE.rom 0) (IE.var .i64 1001) 0) (IE.lit 127)) (IE.mul (IE.lit 7) (IE.var .i64 1001)))) (IE.lit 0))) :: pcljR1_6) (some [(G.b (BE.lit true) (BE.lit false))]))
def wljR1_4 : VW := (VW.cut 2 ((BE.le (IE.bin BinOp.or .u64 (IE.var .u64 1000) (IE.bin BinOp.shl .u64 (IE.bin BinOp.and .u8 (IE.cel .u8 (LE.rom 0) (IE.var .i64 1001) 0) (IE.lit 127)) (IE.mul (IE.lit 7) (IE.var .i64 1001)))) (IE.var .i64 1)) :: pcljR1_7) (Sx.Sub.mk [(.i64, (1003, (IE.add (IE.lit 0) (IE.add (IE.var .i64 1001) (IE.lit 1))))), (.u64, (1002, (IE.bin BinOp.or .u64 (IE.var .u64 1000) (IE.bin BinOp.shl .u64 (IE.bin BinOp.and .u8 (IE.cel .u8 (LE.rom 0) (IE.var .i64 1001) 0) (IE.lit 127)) (IE.mul (IE.lit 7) (IE.var .i64 1001))))))] [] [] [] [] []))
def wljR1_5 : VW := (VW.done ((BE.not (BE.le (IE.bin BinOp.or .u64 (IE.var .u64 1000) (IE.bin BinOp.shl .u64 (IE.bin BinOp.and .u8 (IE.cel .u8 (LE.rom 0) (IE.var .i64 1001) 0) (IE.lit 127)) (IE.mul (IE.lit 7) (IE.var .i64 1001)))) (IE.var .i64 1))) :: pcljR1_7) (some [(G.b (BE.lit true) (BE.lit false))]))
def wljR1_6 : VW := (VW.done ((BE.eq (IE.cel .u8 (LE.rom 0) (IE.var .i64 1001) 0) (IE.lit 0)) :: pcljR1_3) (some [(G.b (BE.lit true) (BE.lit false))]))
def wljR1_7 : VW := (VW.cut 2 ((BE.le (IE.bin BinOp.or .u64 (IE.var .u64 1000) (IE.bin BinOp.shl .u64 (IE.bin BinOp.and .u8 (IE.cel .u8 (LE.rom 0) (IE.var .i64 1001) 0) (IE.lit 127)) (IE.mul (IE.lit 7) (IE.var .i64 1001)))) (IE.lit 0)) :: pcljR1_12) (Sx.Sub.mk [(.i64, (1003, (IE.add (IE.lit 0) (IE.add (IE.var .i64 1001) (IE.lit 1))))), (.u64, (1002, (IE.bin BinOp.or .u64 (IE.var .u64 1000) (IE.bin BinOp.shl .u64 (IE.bin BinOp.and .u8 (IE.cel .u8 (LE.rom 0) (IE.var .i64 1001) 0) (IE.lit 127)) (IE.mul (IE.lit 7) (IE.var .i64 1001))))))] [] [] [] [] []))
def wljR1_8 : VW := (VW.done ((BE.not (BE.le (IE.bin BinOp.or .u64 (IE.var .u64 1000) (IE.bin BinOp.shl .u64 (IE.bin BinOp.and .u8 (IE.cel .u8 (LE.rom 0) (IE.var .i64 1001) 0) (IE.lit 127)) (IE.mul (IE.lit 7) (IE.var .i64 1001)))) (IE.lit 0))) :: pcljR1_12) (some [(G.b (BE.lit true) (BE.lit false))]))
def wljR1_9 : VW := (VW.cut 2 ((BE.le (IE.bin BinOp.or .u64 (IE.var .u64 1000) (IE.bin BinOp.shl .u64 (IE.bin BinOp.and .u8 (IE.cel .u8 (LE.rom 0) (IE.var .i64 1001) 0) (IE.lit 127)) (IE.mul (IE.lit 7) (IE.var .i64 1001)))) (IE.var .i64 1)) :: pcljR1_13) (Sx.Sub.mk [(.i64, (1003, (IE.add (IE.lit 0) (IE.add (IE.var .i64 1001) (IE.lit 1))))), (.u64, (1002, (IE.bin BinOp.or .u64 (IE.var .u64 1000) (IE.bin BinOp.shl .u64 (IE.bin BinOp.and .u8 (IE.cel .u8 (LE.rom 0) (IE.var .i64 1001) 0) (IE.lit 127)) (IE.mul (IE.lit 7) (IE.var .i64 1001))))))] [] [] [] [] []))
def wljR1_10 : VW := (VW.done ((BE.not (BE.le (IE.bin BinOp.or .u64 (IE.var .u64 1000) (IE.bin BinOp.shl .u64 (IE.bin BinOp.and .u8 (IE.cel .u8 (LE.rom 0) (IE.var .i64 1001) 0) (IE.lit 127)) (IE.mul (IE.lit 7) (IE.var .i64 1001)))) (IE.var .i64 1))) :: pcljR1_13) (some [(G.b (BE.lit true) (BE.lit false))]))
def wljR1_11 : VW := (VW.done ((BE.not (BE.le (IE.cel .u8 (LE.rom 0) (IE.var .i64 1001) 0) (IE.lit 1))) :: pcljR1_8) (some [(G.b (BE.lit true) (BE.lit false))]))
def wljR1_12 : VW := (VW.cut 1 ((BE.le (IE.lit 128) (IE.cel .u8 (LE.rom 0) (IE.var .i64 1001) 0)) :: pcljR1_9) (Sx.Sub.mk [(.i64, (1001, (IE.add (IE.var .i64 1001) (IE.lit 1)))), (.u64, (1000, (IE.bin BinOp.or .u64 (IE.var .u64 1000) (IE.bin BinOp.shl .u64 (IE.bin BinOp.and .u8 (IE.cel .u8 (LE.rom 0) (IE.var .i64 1001) 0) (IE.lit 127)) (IE.mul (IE.lit 7) (IE.var .i64 1001))))))] [] [] [] [] []))
def wljR1_13 : VW := (VW.cut 2 ((BE.le (IE.bin BinOp.or .u64 (IE.var .u64 1000) (IE.bin BinOp.shl .u64 (IE.bin BinOp.and .u8 (IE.cel .u8 (LE.rom 0) (IE.var .i64 1001) 0) (IE.lit 127)) (IE.mul (IE.lit 7) (IE.var .i64 1001)))) (IE.lit 0)) :: pcljR1_14) (Sx.Sub.mk [(.i64, (1003, (IE.add (IE.lit 0) (IE.add (IE.var .i64 1001) (IE.lit 1))))), (.u64, (1002, (IE.bin BinOp.or .u64 (IE.var .u64 1000) (IE.bin BinOp.shl .u64 (IE.bin BinOp.and .u8 (IE.cel .u8 (LE.rom 0) (IE.var .i64 1001) 0) (IE.lit 127)) (IE.mul (IE.lit 7) (IE.var .i64 1001))))))] [] [] [] [] []))
def wljR1_14 : VW := (VW.done ((BE.not (BE.le (IE.bin BinOp.or .u64 (IE.var .u64 1000) (IE.bin BinOp.shl .u64 (IE.bin BinOp.and .u8 (IE.cel .u8 (LE.rom 0) (IE.var .i64 1001) 0) (IE.lit 127)) (IE.mul (IE.lit 7) (IE.var .i64 1001)))) (IE.lit 0))) :: pcljR1_14) (some [(G.b (BE.lit true) (BE.lit false))]))
def wljR1_15 : VW := (VW.cut 2 ((BE.le (IE.bin BinOp.or .u64 (IE.var .u64 1000) (IE.bin BinOp.shl .u64 (IE.bin BinOp.and .u8 (IE.cel .u8 (LE.rom 0) (IE.var .i64 1001) 0) (IE.lit 127)) (IE.mul (IE.lit 7) (IE.var .i64 1001)))) (IE.var .i64 1)) :: pcljR1_15) (Sx.Sub.mk [(.i64, (1003, (IE.add (IE.lit 0) (IE.add (IE.var .i64 1001) (IE.lit 1))))), (.u64, (1002, (IE.bin BinOp.or .u64 (IE.var .u64 1000) (IE.bin BinOp.shl .u64 (IE.bin BinOp.and .u8 (IE.cel .u8 (LE.rom 0) (IE.var .i64 1001) 0) (IE.lit 127)) (IE.mul (IE.lit 7) (IE.var .i64 1001))))))] [] [] [] [] []))
def wljR1_16 : VW := (VW.done ((BE.not (BE.le (IE.bin BinOp.or .u64 (IE.var .u64 1000) (IE.bin BinOp.shl .u64 (IE.bin BinOp.and .u8 (IE.cel .u8 (LE.rom 0) (IE.var .i64 1001) 0) (IE.lit 127)) (IE.mul (IE.lit 7) (IE.var .i64 1001)))) (IE.var .i64 1))) :: pcljR1_15) (some [(G.b (BE.lit true) (BE.lit false))]))
def vwljR1 : List VW := [wljR1_0, wljR1_1, wljR1_2, wljR1_3, wljR1_4, wljR1_5, wljR1_6, wljR1_7, wljR1_8, wljR1_9, wljR1_10, wljR1_11, wljR1_12, wljR1_13, wljR1_14, wljR1_15, wljR1_16]
def pcljR2_0 : List BE := [(BE.lit true), (BE.fn 1 (AL.lst (LE.rom 0) (AL.int .i64 (IE.var .i64 1) AL.nil))), (BE.le (IE.lit 1) (IE.len (LE.rom 0))), (BE.le (IE.lit 0) (IE.var .i64 1003)), (BE.le (IE.var .i64 1003) (IE.len (LE.rom 0)))]
def pcljR2_1 : List BE := ((BE.not (BE.le (IE.var .u64 1002) (IE.lit 0))) :: pcljR2_0)
def wljR2_0 : VW := (VW.done ((BE.le (IE.var .u64 1002) (IE.lit 0)) :: pcljR2_0) (some [(G.b (BE.lit true) (BE.lit false))]))
def wljR2_1 : VW := (VW.cut 4 ((BE.eq (IE.len (LE.rom 0)) (IE.var .i64 1003)) :: pcljR2_1) (Sx.Sub.mk [(.i64, (1003, (IE.var .i64 1003))), (.u64, (1002, (IE.var .u64 1002))), (.i64, (1007, (IE.lit 0))), (.i64, (1006, (IE.lit 0))), (.i64, (1004, (IE.lit 0))), (.u64, (1008, (IE.lit 0)))] [] [] [] [] []))
def wljR2_2 : VW := (VW.cut 4 ((BE.not (BE.eq (IE.len (LE.rom 0)) (IE.var .i64 1003))) :: pcljR2_1) (Sx.Sub.mk [(.i64, (1003, (IE.var .i64 1003))), (.u64, (1002, (IE.var .u64 1002))), (.i64, (1007, (IE.lit 0))), (.i64, (1006, (IE.sub (IE.len (LE.rom 0)) (IE.var .i64 1003)))), (.i64, (1004, (IE.var .i64 1003))), (.u64, (1008, (IE.lit 0)))] [] [] [] [] []))
def vwljR2 : List VW := [wljR2_0, wljR2_1, wljR2_2]
def pcljR3_0 : List BE := [(BE.lit true), (BE.fn 1 (AL.lst (LE.rom 0) (AL.int .i64 (IE.var .i64 1) AL.nil))), (BE.le (IE.lit 1) (IE.len (LE.rom 0))), (BE.le (IE.lit 0) (IE.var .i64 1010)), (BE.le (IE.lit 0) (IE.var .i64 1011)), (BE.le (IE.var .i64 1011) (IE.len (LE.rom 0))), (BE.and (BE.lit true) (BE.lit true)), (BE.le (IE.var .i64 1010) (IE.lit 10000))]
def pcljR3_1 : List BE := ((BE.not (BE.le (IE.var .u64 1009) (IE.lit 0))) :: pcljR3_0)
def wljR3_0 : VW := (VW.done ((BE.le (IE.var .u64 1009) (IE.lit 0)) :: pcljR3_0) (some [(G.i (IE.len (LE.fn 2 (AL.lst (LE.rom 0) (AL.int .i64 (IE.var .i64 1) AL.nil)))) (IE.var .i64 1010)), (G.i (IE.fn .i64 11 (AL.lst (LE.rom 0) (AL.int .i64 (IE.var .i64 1) AL.nil))) (IE.var .i64 1011)), (G.l (LE.fn 2 (AL.lst (LE.rom 0) (AL.int .i64 (IE.var .i64 1) AL.nil))) (LE.var 1012)), (G.i (IE.len (LE.fn 2 (AL.lst (LE.rom 0) (AL.int .i64 (IE.var .i64 1) AL.nil)))) (IE.var .i64 1010))]))
def wljR3_1 : VW := (VW.cut 5 ((BE.eq (IE.len (LE.rom 0)) (IE.var .i64 1011)) :: pcljR3_1) (Sx.Sub.mk [(.i64, (1011, (IE.var .i64 1011))), (.i64, (1010, (IE.var .i64 1010))), (.u64, (1009, (IE.var .u64 1009))), (.i64, (1016, (IE.lit 0))), (.i64, (1015, (IE.lit 0))), (.i64, (1013, (IE.lit 0))), (.u64, (1017, (IE.lit 0)))] [] [(1012, (LE.var 1012))] [] [] []))
def wljR3_2 : VW := (VW.cut 5 ((BE.not (BE.eq (IE.len (LE.rom 0)) (IE.var .i64 1011))) :: pcljR3_1) (Sx.Sub.mk [(.i64, (1011, (IE.var .i64 1011))), (.i64, (1010, (IE.var .i64 1010))), (.u64, (1009, (IE.var .u64 1009))), (.i64, (1016, (IE.lit 0))), (.i64, (1015, (IE.sub (IE.len (LE.rom 0)) (IE.var .i64 1011)))), (.i64, (1013, (IE.var .i64 1011))), (.u64, (1017, (IE.lit 0)))] [] [(1012, (LE.var 1012))] [] [] []))
def vwljR3 : List VW := [wljR3_0, wljR3_1, wljR3_2]
def pcljR4_0 : List BE := [(BE.lit true), (BE.le (IE.var .i64 1004) (IE.var .i64 1003)), (BE.le (IE.lit 1) (IE.len (LE.rom 0))), (BE.fn 1 (AL.lst (LE.rom 0) (AL.int .i64 (IE.var .i64 1) AL.nil))), (BE.not (BE.le (IE.var .u64 1002) (IE.lit 0))), (BE.le (IE.lit 0) (IE.var .i64 1003)), (BE.le (IE.var .i64 1003) (IE.len (LE.rom 0))), (BE.le (IE.lit 0) (IE.var .i64 1004)), (BE.le (IE.lit 0) (IE.var .i64 1006)), (BE.le (IE.lit 0) (IE.var .i64 1007)), (BE.and (BE.lit true) (BE.lit true)), (BE.le (IE.var .i64 1007) (IE.lit 9))]
def pcljR4_1 : List BE := ((BE.not (BE.le (IE.sub (IE.len (LE.rom 0)) (IE.var .i64 1003)) (IE.var .i64 1007))) :: pcljR4_0)
def pcljR4_2 : List BE := ((BE.le (IE.var .i64 1007) (IE.lit 0)) :: pcljR4_1)
def pcljR4_3 : List BE := ((BE.not (BE.le (IE.var .i64 1007) (IE.lit 0))) :: pcljR4_1)
def pcljR4_4 : List BE := ((BE.not (BE.le (IE.lit 128) (IE.cel .u8 (LE.rom 0) (IE.add (IE.var .i64 1004) (IE.var .i64 1007)) 0))) :: pcljR4_2)
def pcljR4_5 : List BE := ((BE.not (BE.eq (IE.cel .u8 (LE.rom 0) (IE.add (IE.var .i64 1004) (IE.var .i64 1007)) 0) (IE.lit 0))) :: pcljR4_3)
def pcljR4_6 : List BE := ((BE.le (IE.bin BinOp.or .u64 (IE.var .u64 1008) (IE.bin BinOp.shl .u64 (IE.bin BinOp.and .u8 (IE.cel .u8 (LE.rom 0) (IE.add (IE.var .i64 1004) (IE.var .i64 1007)) 0) (IE.lit 127)) (IE.mul (IE.lit 7) (IE.var .i64 1007)))) (IE.sub (IE.len (LE.rom 0)) (IE.add (IE.var .i64 1003) (IE.add (IE.var .i64 1007) (IE.lit 1))))) :: pcljR4_4)
def pcljR4_7 : List BE := ((BE.eq (IE.var .i64 1007) (IE.lit 9)) :: pcljR4_5)
def pcljR4_8 : List BE := ((BE.not (BE.eq (IE.var .i64 1007) (IE.lit 9))) :: pcljR4_5)
def pcljR4_9 : List BE := ((BE.le (IE.cel .u8 (LE.rom 0) (IE.add (IE.var .i64 1004) (IE.var .i64 1007)) 0) (IE.lit 1)) :: pcljR4_7)
def pcljR4_10 : List BE := ((BE.not (BE.le (IE.lit 128) (IE.cel .u8 (LE.rom 0) (IE.add (IE.var .i64 1004) (IE.var .i64 1007)) 0))) :: pcljR4_8)
def pcljR4_11 : List BE := ((BE.le (IE.bin BinOp.or .u64 (IE.var .u64 1008) (IE.bin BinOp.shl .u64 (IE.bin BinOp.and .u8 (IE.cel .u8 (LE.rom 0) (IE.add (IE.var .i64 1004) (IE.var .i64 1007)) 0) (IE.lit 127)) (IE.mul (IE.lit 7) (IE.var .i64 1007)))) (IE.sub (IE.len (LE.rom 0)) (IE.add (IE.var .i64 1003) (IE.add (IE.var .i64 1007) (IE.lit 1))))) :: pcljR4_9)
def pcljR4_12 : List BE := ((BE.le (IE.bin BinOp.or .u64 (IE.var .u64 1008) (IE.bin BinOp.shl .u64 (IE.bin BinOp.and .u8 (IE.cel .u8 (LE.rom 0) (IE.add (IE.var .i64 1004) (IE.var .i64 1007)) 0) (IE.lit 127)) (IE.mul (IE.lit 7) (IE.var .i64 1007)))) (IE.sub (IE.len (LE.rom 0)) (IE.add (IE.var .i64 1003) (IE.add (IE.var .i64 1007) (IE.lit 1))))) :: pcljR4_10)
def wljR4_0 : VW := (VW.done ((BE.le (IE.sub (IE.len (LE.rom 0)) (IE.var .i64 1003)) (IE.var .i64 1007)) :: pcljR4_0) (some [(G.b (BE.lit true) (BE.lit false))]))
def wljR4_1 : VW := (VW.cut 4 ((BE.le (IE.lit 128) (IE.cel .u8 (LE.rom 0) (IE.add (IE.var .i64 1004) (IE.var .i64 1007)) 0)) :: pcljR4_2) (Sx.Sub.mk [(.i64, (1003, (IE.var .i64 1003))), (.u64, (1002, (IE.var .u64 1002))), (.i64, (1007, (IE.add (IE.var .i64 1007) (IE.lit 1)))), (.i64, (1006, (IE.var .i64 1006))), (.i64, (1004, (IE.var .i64 1004))), (.u64, (1008, (IE.bin BinOp.or .u64 (IE.var .u64 1008) (IE.bin BinOp.shl .u64 (IE.bin BinOp.and .u8 (IE.cel .u8 (LE.rom 0) (IE.add (IE.var .i64 1004) (IE.var .i64 1007)) 0) (IE.lit 127)) (IE.mul (IE.lit 7) (IE.var .i64 1007))))))] [] [] [] [] []))
def wljR4_2 : VW := (VW.cut 3 ((BE.eq (IE.add (IE.add (IE.var .i64 1003) (IE.add (IE.var .i64 1007) (IE.lit 1))) (IE.bin BinOp.or .u64 (IE.var .u64 1008) (IE.bin BinOp.shl .u64 (IE.bin BinOp.and .u8 (IE.cel .u8 (LE.rom 0) (IE.add (IE.var .i64 1004) (IE.var .i64 1007)) 0) (IE.lit 127)) (IE.mul (IE.lit 7) (IE.var .i64 1007))))) (IE.add (IE.var .i64 1003) (IE.add (IE.var .i64 1007) (IE.lit 1)))) :: pcljR4_6) (Sx.Sub.mk [(.i64, (1011, (IE.add (IE.add (IE.var .i64 1003) (IE.add (IE.var .i64 1007) (IE.lit 1))) (IE.bin BinOp.or .u64 (IE.var .u64 1008) (IE.bin BinOp.shl .u64 (IE.bin BinOp.and .u8 (IE.cel .u8 (LE.rom 0) (IE.add (IE.var .i64 1004) (IE.var .i64 1007)) 0) (IE.lit 127)) (IE.mul (IE.lit 7) (IE.var .i64 1007))))))), (.i64, (1010, (IE.lit 1))), (.u64, (1009, (IE.sub (IE.var .u64 1002) (IE.lit 1))))] [] [(1012, (LE.one (AL.lst (LE.take (LE.rom 0) (IE.bin BinOp.or .u64 (IE.var .u64 1008) (IE.bin BinOp.shl .u64 (IE.bin BinOp.and .u8 (IE.cel .u8 (LE.rom 0) (IE.add (IE.var .i64 1004) (IE.var .i64 1007)) 0) (IE.lit 127)) (IE.mul (IE.lit 7) (IE.var .i64 1007))))) AL.nil)))] [] [] []))
def wljR4_3 : VW := (VW.cut 3 ((BE.not (BE.eq (IE.add (IE.add (IE.var .i64 1003) (IE.add (IE.var .i64 1007) (IE.lit 1))) (IE.bin BinOp.or .u64 (IE.var .u64 1008) (IE.bin BinOp.shl .u64 (IE.bin BinOp.and .u8 (IE.cel .u8 (LE.rom 0) (IE.add (IE.var .i64 1004) (IE.var .i64 1007)) 0) (IE.lit 127)) (IE.mul (IE.lit 7) (IE.var .i64 1007))))) (IE.add (IE.var .i64 1003) (IE.add (IE.var .i64 1007) (IE.lit 1))))) :: pcljR4_6) (Sx.Sub.mk [(.i64, (1011, (IE.add (IE.add (IE.var .i64 1003) (IE.add (IE.var .i64 1007) (IE.lit 1))) (IE.bin BinOp.or .u64 (IE.var .u64 1008) (IE.bin BinOp.shl .u64 (IE.bin BinOp.and .u8 (IE.cel .u8 (LE.rom 0) (IE.add (IE.var .i64 1004) (IE.var .i64 1007)) 0) (IE.lit 127)) (IE.mul (IE.lit 7) (IE.var .i64 1007))))))), (.i64, (1010, (IE.lit 1))), (.u64, (1009, (IE.sub (IE.var .u64 1002) (IE.lit 1))))] [] [(1012, (LE.one (AL.lst (LE.take (LE.drop (LE.rom 0) (IE.add (IE.var .i64 1003) (IE.add (IE.var .i64 1007) (IE.lit 1)))) (IE.bin BinOp.or .u64 (IE.var .u64 1008) (IE.bin BinOp.shl .u64 (IE.bin BinOp.and .u8 (IE.cel .u8 (LE.rom 0) (IE.add (IE.var .i64 1004) (IE.var .i64 1007)) 0) (IE.lit 127)) (IE.mul (IE.lit 7) (IE.var .i64 1007))))) AL.nil)))] [] [] []))
def wljR4_4 : VW := (VW.done ((BE.not (BE.le (IE.bin BinOp.or .u64 (IE.var .u64 1008) (IE.bin BinOp.shl .u64 (IE.bin BinOp.and .u8 (IE.cel .u8 (LE.rom 0) (IE.add (IE.var .i64 1004) (IE.var .i64 1007)) 0) (IE.lit 127)) (IE.mul (IE.lit 7) (IE.var .i64 1007)))) (IE.sub (IE.len (LE.rom 0)) (IE.add (IE.var .i64 1003) (IE.add (IE.var .i64 1007) (IE.lit 1)))))) :: pcljR4_4) (some [(G.b (BE.lit true) (BE.lit false))]))
def wljR4_5 : VW := (VW.done ((BE.eq (IE.cel .u8 (LE.rom 0) (IE.add (IE.var .i64 1004) (IE.var .i64 1007)) 0) (IE.lit 0)) :: pcljR4_3) (some [(G.b (BE.lit true) (BE.lit false))]))
def wljR4_6 : VW := (VW.cut 3 ((BE.eq (IE.add (IE.add (IE.var .i64 1003) (IE.add (IE.var .i64 1007) (IE.lit 1))) (IE.bin BinOp.or .u64 (IE.var .u64 1008) (IE.bin BinOp.shl .u64 (IE.bin BinOp.and .u8 (IE.cel .u8 (LE.rom 0) (IE.add (IE.var .i64 1004) (IE.var .i64 1007)) 0) (IE.lit 127)) (IE.mul (IE.lit 7) (IE.var .i64 1007))))) (IE.add (IE.var .i64 1003) (IE.add (IE.var .i64 1007) (IE.lit 1)))) :: pcljR4_11) (Sx.Sub.mk [(.i64, (1011, (IE.add (IE.add (IE.var .i64 1003) (IE.add (IE.var .i64 1007) (IE.lit 1))) (IE.bin BinOp.or .u64 (IE.var .u64 1008) (IE.bin BinOp.shl .u64 (IE.bin BinOp.and .u8 (IE.cel .u8 (LE.rom 0) (IE.add (IE.var .i64 1004) (IE.var .i64 1007)) 0) (IE.lit 127)) (IE.mul (IE.lit 7) (IE.var .i64 1007))))))), (.i64, (1010, (IE.lit 1))), (.u64, (1009, (IE.sub (IE.var .u64 1002) (IE.lit 1))))] [] [(1012, (LE.one (AL.lst (LE.take (LE.rom 0) (IE.bin BinOp.or .u64 (IE.var .u64 1008) (IE.bin BinOp.shl .u64 (IE.bin BinOp.and .u8 (IE.cel .u8 (LE.rom 0) (IE.add (IE.var .i64 1004) (IE.var .i64 1007)) 0) (IE.lit 127)) (IE.mul (IE.lit 7) (IE.var .i64 1007))))) AL.nil)))] [] [] []))
def wljR4_7 : VW := (VW.cut 3 ((BE.not (BE.eq (IE.add (IE.add (IE.var .i64 1003) (IE.add (IE.var .i64 1007) (IE.lit 1))) (IE.bin BinOp.or .u64 (IE.var .u64 1008) (IE.bin BinOp.shl .u64 (IE.bin BinOp.and .u8 (IE.cel .u8 (LE.rom 0) (IE.add (IE.var .i64 1004) (IE.var .i64 1007)) 0) (IE.lit 127)) (IE.mul (IE.lit 7) (IE.var .i64 1007))))) (IE.add (IE.var .i64 1003) (IE.add (IE.var .i64 1007) (IE.lit 1))))) :: pcljR4_11) (Sx.Sub.mk [(.i64, (1011, (IE.add (IE.add (IE.var .i64 1003) (IE.add (IE.var .i64 1007) (IE.lit 1))) (IE.bin BinOp.or .u64 (IE.var .u64 1008) (IE.bin BinOp.shl .u64 (IE.bin BinOp.and .u8 (IE.cel .u8 (LE.rom 0) (IE.add (IE.var .i64 1004) (IE.var .i64 1007)) 0) (IE.lit 127)) (IE.mul (IE.lit 7) (IE.var .i64 1007))))))), (.i64, (1010, (IE.lit 1))), (.u64, (1009, (IE.sub (IE.var .u64 1002) (IE.lit 1))))] [] [(1012, (LE.one (AL.lst (LE.take (LE.drop (LE.rom 0) (IE.add (IE.var .i64 1003) (IE.add (IE.var .i64 1007) (IE.lit 1)))) (IE.bin BinOp.or .u64 (IE.var .u64 1008) (IE.bin BinOp.shl .u64 (IE.bin BinOp.and .u8 (IE.cel .u8 (LE.rom 0) (IE.add (IE.var .i64 1004) (IE.var .i64 1007)) 0) (IE.lit 127)) (IE.mul (IE.lit 7) (IE.var .i64 1007))))) AL.nil)))] [] [] []))
def wljR4_8 : VW := (VW.done ((BE.not (BE.le (IE.bin BinOp.or .u64 (IE.var .u64 1008) (IE.bin BinOp.shl .u64 (IE.bin BinOp.and .u8 (IE.cel .u8 (LE.rom 0) (IE.add (IE.var .i64 1004) (IE.var .i64 1007)) 0) (IE.lit 127)) (IE.mul (IE.lit 7) (IE.var .i64 1007)))) (IE.sub (IE.len (LE.rom 0)) (IE.add (IE.var .i64 1003) (IE.add (IE.var .i64 1007) (IE.lit 1)))))) :: pcljR4_9) (some [(G.b (BE.lit true) (BE.lit false))]))
def wljR4_9 : VW := (VW.done ((BE.not (BE.le (IE.cel .u8 (LE.rom 0) (IE.add (IE.var .i64 1004) (IE.var .i64 1007)) 0) (IE.lit 1))) :: pcljR4_7) (some [(G.b (BE.lit true) (BE.lit false))]))
def wljR4_10 : VW := (VW.cut 4 ((BE.le (IE.lit 128) (IE.cel .u8 (LE.rom 0) (IE.add (IE.var .i64 1004) (IE.var .i64 1007)) 0)) :: pcljR4_8) (Sx.Sub.mk [(.i64, (1003, (IE.var .i64 1003))), (.u64, (1002, (IE.var .u64 1002))), (.i64, (1007, (IE.add (IE.var .i64 1007) (IE.lit 1)))), (.i64, (1006, (IE.var .i64 1006))), (.i64, (1004, (IE.var .i64 1004))), (.u64, (1008, (IE.bin BinOp.or .u64 (IE.var .u64 1008) (IE.bin BinOp.shl .u64 (IE.bin BinOp.and .u8 (IE.cel .u8 (LE.rom 0) (IE.add (IE.var .i64 1004) (IE.var .i64 1007)) 0) (IE.lit 127)) (IE.mul (IE.lit 7) (IE.var .i64 1007))))))] [] [] [] [] []))
def wljR4_11 : VW := (VW.cut 3 ((BE.eq (IE.add (IE.add (IE.var .i64 1003) (IE.add (IE.var .i64 1007) (IE.lit 1))) (IE.bin BinOp.or .u64 (IE.var .u64 1008) (IE.bin BinOp.shl .u64 (IE.bin BinOp.and .u8 (IE.cel .u8 (LE.rom 0) (IE.add (IE.var .i64 1004) (IE.var .i64 1007)) 0) (IE.lit 127)) (IE.mul (IE.lit 7) (IE.var .i64 1007))))) (IE.add (IE.var .i64 1003) (IE.add (IE.var .i64 1007) (IE.lit 1)))) :: pcljR4_12) (Sx.Sub.mk [(.i64, (1011, (IE.add (IE.add (IE.var .i64 1003) (IE.add (IE.var .i64 1007) (IE.lit 1))) (IE.bin BinOp.or .u64 (IE.var .u64 1008) (IE.bin BinOp.shl .u64 (IE.bin BinOp.and .u8 (IE.cel .u8 (LE.rom 0) (IE.add (IE.var .i64 1004) (IE.var .i64 1007)) 0) (IE.lit 127)) (IE.mul (IE.lit 7) (IE.var .i64 1007))))))), (.i64, (1010, (IE.lit 1))), (.u64, (1009, (IE.sub (IE.var .u64 1002) (IE.lit 1))))] [] [(1012, (LE.one (AL.lst (LE.take (LE.rom 0) (IE.bin BinOp.or .u64 (IE.var .u64 1008) (IE.bin BinOp.shl .u64 (IE.bin BinOp.and .u8 (IE.cel .u8 (LE.rom 0) (IE.add (IE.var .i64 1004) (IE.var .i64 1007)) 0) (IE.lit 127)) (IE.mul (IE.lit 7) (IE.var .i64 1007))))) AL.nil)))] [] [] []))
def wljR4_12 : VW := (VW.cut 3 ((BE.not (BE.eq (IE.add (IE.add (IE.var .i64 1003) (IE.add (IE.var .i64 1007) (IE.lit 1))) (IE.bin BinOp.or .u64 (IE.var .u64 1008) (IE.bin BinOp.shl .u64 (IE.bin BinOp.and .u8 (IE.cel .u8 (LE.rom 0) (IE.add (IE.var .i64 1004) (IE.var .i64 1007)) 0) (IE.lit 127)) (IE.mul (IE.lit 7) (IE.var .i64 1007))))) (IE.add (IE.var .i64 1003) (IE.add (IE.var .i64 1007) (IE.lit 1))))) :: pcljR4_12) (Sx.Sub.mk [(.i64, (1011, (IE.add (IE.add (IE.var .i64 1003) (IE.add (IE.var .i64 1007) (IE.lit 1))) (IE.bin BinOp.or .u64 (IE.var .u64 1008) (IE.bin BinOp.shl .u64 (IE.bin BinOp.and .u8 (IE.cel .u8 (LE.rom 0) (IE.add (IE.var .i64 1004) (IE.var .i64 1007)) 0) (IE.lit 127)) (IE.mul (IE.lit 7) (IE.var .i64 1007))))))), (.i64, (1010, (IE.lit 1))), (.u64, (1009, (IE.sub (IE.var .u64 1002) (IE.lit 1))))] [] [(1012, (LE.one (AL.lst (LE.take (LE.drop (LE.rom 0) (IE.add (IE.var .i64 1003) (IE.add (IE.var .i64 1007) (IE.lit 1)))) (IE.bin BinOp.or .u64 (IE.var .u64 1008) (IE.bin BinOp.shl .u64 (IE.bin BinOp.and .u8 (IE.cel .u8 (LE.rom 0) (IE.add (IE.var .i64 1004) (IE.var .i64 1007)) 0) (IE.lit 127)) (IE.mul (IE.lit 7) (IE.var .i64 1007))))) AL.nil)))] [] [] []))
def wljR4_13 : VW := (VW.done ((BE.not (BE.le (IE.bin BinOp.or .u64 (IE.var .u64 1008) (IE.bin BinOp.shl .u64 (IE.bin BinOp.and .u8 (IE.cel .u8 (LE.rom 0) (IE.add (IE.var .i64 1004) (IE.var .i64 1007)) 0) (IE.lit 127)) (IE.mul (IE.lit 7) (IE.var .i64 1007)))) (IE.sub (IE.len (LE.rom 0)) (IE.add (IE.var .i64 1003) (IE.add (IE.var .i64 1007) (IE.lit 1)))))) :: pcljR4_10) (some [(G.b (BE.lit true) (BE.lit false))]))
def vwljR4 : List VW := [wljR4_0, wljR4_1, wljR4_2, wljR4_3, wljR4_4, wljR4_5, wljR4_6, wljR4_7, wljR4_8, wljR4_9, wljR4_10, wljR4_11, wljR4_12, wljR4_13]
def pcljR5_0 : List BE := [(BE.lit true), (BE.le (IE.var .i64 1013) (IE.var .i64 1011)), (BE.le (IE.lit 1) (IE.len (LE.rom 0))), (BE.fn 1 (AL.lst (LE.rom 0) (AL.int .i64 (IE.var .i64 1) AL.nil))), (BE.not (BE.le (IE.var .u64 1009) (IE.lit 0))), (BE.le (IE.lit 0) (IE.var .i64 1010)), (BE.le (IE.lit 0) (IE.var .i64 1011)), (BE.le (IE.var .i64 1011) (IE.len (LE.rom 0))), (BE.le (IE.var .i64 1010) (IE.lit 10000)), (BE.le (IE.lit 0) (IE.var .i64 1013)), (BE.le (IE.lit 0) (IE.var .i64 1015)), (BE.le (IE.lit 0) (IE.var .i64 1016)), (BE.and (BE.lit true) (BE.lit true)), (BE.le (IE.var .i64 1016) (IE.lit 9)), (BE.le (IE.var .i64 1010) (IE.lit 10000))]
def pcljR5_1 : List BE := ((BE.not (BE.le (IE.sub (IE.len (LE.rom 0)) (IE.var .i64 1011)) (IE.var .i64 1016))) :: pcljR5_0)
def pcljR5_2 : List BE := ((BE.le (IE.var .i64 1016) (IE.lit 0)) :: pcljR5_1)
def pcljR5_3 : List BE := ((BE.not (BE.le (IE.var .i64 1016) (IE.lit 0))) :: pcljR5_1)
def pcljR5_4 : List BE := ((BE.not (BE.le (IE.lit 128) (IE.cel .u8 (LE.rom 0) (IE.add (IE.var .i64 1013) (IE.var .i64 1016)) 0))) :: pcljR5_2)
def pcljR5_5 : List BE := ((BE.not (BE.eq (IE.cel .u8 (LE.rom 0) (IE.add (IE.var .i64 1013) (IE.var .i64 1016)) 0) (IE.lit 0))) :: pcljR5_3)
def pcljR5_6 : List BE := ((BE.le (IE.bin BinOp.or .u64 (IE.var .u64 1017) (IE.bin BinOp.shl .u64 (IE.bin BinOp.and .u8 (IE.cel .u8 (LE.rom 0) (IE.add (IE.var .i64 1013) (IE.var .i64 1016)) 0) (IE.lit 127)) (IE.mul (IE.lit 7) (IE.var .i64 1016)))) (IE.sub (IE.len (LE.rom 0)) (IE.add (IE.var .i64 1011) (IE.add (IE.var .i64 1016) (IE.lit 1))))) :: pcljR5_4)
def pcljR5_7 : List BE := ((BE.eq (IE.var .i64 1016) (IE.lit 9)) :: pcljR5_5)
def pcljR5_8 : List BE := ((BE.not (BE.eq (IE.var .i64 1016) (IE.lit 9))) :: pcljR5_5)
def pcljR5_9 : List BE := ((BE.le (IE.cel .u8 (LE.rom 0) (IE.add (IE.var .i64 1013) (IE.var .i64 1016)) 0) (IE.lit 1)) :: pcljR5_7)
def pcljR5_10 : List BE := ((BE.not (BE.le (IE.lit 128) (IE.cel .u8 (LE.rom 0) (IE.add (IE.var .i64 1013) (IE.var .i64 1016)) 0))) :: pcljR5_8)
def pcljR5_11 : List BE := ((BE.le (IE.bin BinOp.or .u64 (IE.var .u64 1017) (IE.bin BinOp.shl .u64 (IE.bin BinOp.and .u8 (IE.cel .u8 (LE.rom 0) (IE.add (IE.var .i64 1013) (IE.var .i64 1016)) 0) (IE.lit 127)) (IE.mul (IE.lit 7) (IE.var .i64 1016)))) (IE.sub (IE.len (LE.rom 0)) (IE.add (IE.var .i64 1011) (IE.add (IE.var .i64 1016) (IE.lit 1))))) :: pcljR5_9)
def pcljR5_12 : List BE := ((BE.le (IE.bin BinOp.or .u64 (IE.var .u64 1017) (IE.bin BinOp.shl .u64 (IE.bin BinOp.and .u8 (IE.cel .u8 (LE.rom 0) (IE.add (IE.var .i64 1013) (IE.var .i64 1016)) 0) (IE.lit 127)) (IE.mul (IE.lit 7) (IE.var .i64 1016)))) (IE.sub (IE.len (LE.rom 0)) (IE.add (IE.var .i64 1011) (IE.add (IE.var .i64 1016) (IE.lit 1))))) :: pcljR5_10)
def wljR5_0 : VW := (VW.done ((BE.le (IE.sub (IE.len (LE.rom 0)) (IE.var .i64 1011)) (IE.var .i64 1016)) :: pcljR5_0) (some [(G.b (BE.lit true) (BE.lit false))]))
def wljR5_1 : VW := (VW.cut 5 ((BE.le (IE.lit 128) (IE.cel .u8 (LE.rom 0) (IE.add (IE.var .i64 1013) (IE.var .i64 1016)) 0)) :: pcljR5_2) (Sx.Sub.mk [(.i64, (1011, (IE.var .i64 1011))), (.i64, (1010, (IE.var .i64 1010))), (.u64, (1009, (IE.var .u64 1009))), (.i64, (1016, (IE.add (IE.var .i64 1016) (IE.lit 1)))), (.i64, (1015, (IE.var .i64 1015))), (.i64, (1013, (IE.var .i64 1013))), (.u64, (1017, (IE.bin BinOp.or .u64 (IE.var .u64 1017) (IE.bin BinOp.shl .u64 (IE.bin BinOp.and .u8 (IE.cel .u8 (LE.rom 0) (IE.add (IE.var .i64 1013) (IE.var .i64 1016)) 0) (IE.lit 127)) (IE.mul (IE.lit 7) (IE.var .i64 1016))))))] [] [(1012, (LE.var 1012))] [] [] []))
def wljR5_2 : VW := (VW.cut 3 ((BE.eq (IE.add (IE.add (IE.var .i64 1011) (IE.add (IE.var .i64 1016) (IE.lit 1))) (IE.bin BinOp.or .u64 (IE.var .u64 1017) (IE.bin BinOp.shl .u64 (IE.bin BinOp.and .u8 (IE.cel .u8 (LE.rom 0) (IE.add (IE.var .i64 1013) (IE.var .i64 1016)) 0) (IE.lit 127)) (IE.mul (IE.lit 7) (IE.var .i64 1016))))) (IE.add (IE.var .i64 1011) (IE.add (IE.var .i64 1016) (IE.lit 1)))) :: pcljR5_6) (Sx.Sub.mk [(.i64, (1011, (IE.add (IE.add (IE.var .i64 1011) (IE.add (IE.var .i64 1016) (IE.lit 1))) (IE.bin BinOp.or .u64 (IE.var .u64 1017) (IE.bin BinOp.shl .u64 (IE.bin BinOp.and .u8 (IE.cel .u8 (LE.rom 0) (IE.add (IE.var .i64 1013) (IE.var .i64 1016)) 0) (IE.lit 127)) (IE.mul (IE.lit 7) (IE.var .i64 1016))))))), (.i64, (1010, (IE.add (IE.var .i64 1010) (IE.lit 1)))), (.u64, (1009, (IE.sub (IE.var .u64 1009) (IE.lit 1))))] [] [(1012, (LE.cat (LE.var 1012) (LE.one (AL.lst (LE.take (LE.rom 0) (IE.bin BinOp.or .u64 (IE.var .u64 1017) (IE.bin BinOp.shl .u64 (IE.bin BinOp.and .u8 (IE.cel .u8 (LE.rom 0) (IE.add (IE.var .i64 1013) (IE.var .i64 1016)) 0) (IE.lit 127)) (IE.mul (IE.lit 7) (IE.var .i64 1016))))) AL.nil))))] [] [] []))
def wljR5_3 : VW := (VW.cut 3 ((BE.not (BE.eq (IE.add (IE.add (IE.var .i64 1011) (IE.add (IE.var .i64 1016) (IE.lit 1))) (IE.bin BinOp.or .u64 (IE.var .u64 1017) (IE.bin BinOp.shl .u64 (IE.bin BinOp.and .u8 (IE.cel .u8 (LE.rom 0) (IE.add (IE.var .i64 1013) (IE.var .i64 1016)) 0) (IE.lit 127)) (IE.mul (IE.lit 7) (IE.var .i64 1016))))) (IE.add (IE.var .i64 1011) (IE.add (IE.var .i64 1016) (IE.lit 1))))) :: pcljR5_6) (Sx.Sub.mk [(.i64, (1011, (IE.add (IE.add (IE.var .i64 1011) (IE.add (IE.var .i64 1016) (IE.lit 1))) (IE.bin BinOp.or .u64 (IE.var .u64 1017) (IE.bin BinOp.shl .u64 (IE.bin BinOp.and .u8 (IE.cel .u8 (LE.rom 0) (IE.add (IE.var .i64 1013) (IE.var .i64 1016)) 0) (IE.lit 127)) (IE.mul (IE.lit 7) (IE.var .i64 1016))))))), (.i64, (1010, (IE.add (IE.var .i64 1010) (IE.lit 1)))), (.u64, (1009, (IE.sub (IE.var .u64 1009) (IE.lit 1))))] [] [(1012, (LE.cat (LE.var 1012) (LE.one (AL.lst (LE.take (LE.drop (LE.rom 0) (IE.add (IE.var .i64 1011) (IE.add (IE.var .i64 1016) (IE.lit 1)))) (IE.bin BinOp.or .u64 (IE.var .u64 1017) (IE.bin BinOp.shl .u64 (IE.bin BinOp.and .u8 (IE.cel .u8 (LE.rom 0) (IE.add (IE.var .i64 1013) (IE.var .i64 1016)) 0) (IE.lit 127)) (IE.mul (IE.lit 7) (IE.var .i64 1016))))) AL.nil))))] [] [] []))
def wljR5_4 : VW := (VW.done ((BE.not (BE.le (IE.bin BinOp.or .u64 (IE.var .u64 1017) (IE.bin BinOp.shl .u64 (IE.bin BinOp.and .u8 (IE.cel .u8 (LE.rom 0) (IE.add (IE.var .i64 1013) (IE.var .i64 1016)) 0) (IE.lit 127)) (IE.mul (IE.lit 7) (IE.var .i64 1016)))) (IE.sub (IE.len (LE.rom 0)) (IE.add (IE.var .i64 1011) (IE.add (IE.var .i64 1016) (IE.lit 1)))))) :: pcljR5_4) (some [(G.b (BE.lit true) (BE.lit false))]))
def wljR5_5 : VW := (VW.done ((BE.eq (IE.cel .u8 (LE.rom 0) (IE.add (IE.var .i64 1013) (IE.var .i64 1016)) 0) (IE.lit 0)) :: pcljR5_3) (some [(G.b (BE.lit true) (BE.lit false))]))
def wljR5_6 : VW := (VW.cut 3 ((BE.eq (IE.add (IE.add (IE.var .i64 1011) (IE.add (IE.var .i64 1016) (IE.lit 1))) (IE.bin BinOp.or .u64 (IE.var .u64 1017) (IE.bin BinOp.shl .u64 (IE.bin BinOp.and .u8 (IE.cel .u8 (LE.rom 0) (IE.add (IE.var .i64 1013) (IE.var .i64 1016)) 0) (IE.lit 127)) (IE.mul (IE.lit 7) (IE.var .i64 1016))))) (IE.add (IE.var .i64 1011) (IE.add (IE.var .i64 1016) (IE.lit 1)))) :: pcljR5_11) (Sx.Sub.mk [(.i64, (1011, (IE.add (IE.add (IE.var .i64 1011) (IE.add (IE.var .i64 1016) (IE.lit 1))) (IE.bin BinOp.or .u64 (IE.var .u64 1017) (IE.bin BinOp.shl .u64 (IE.bin BinOp.and .u8 (IE.cel .u8 (LE.rom 0) (IE.add (IE.var .i64 1013) (IE.var .i64 1016)) 0) (IE.lit 127)) (IE.mul (IE.lit 7) (IE.var .i64 1016))))))), (.i64, (1010, (IE.add (IE.var .i64 1010) (IE.lit 1)))), (.u64, (1009, (IE.sub (IE.var .u64 1009) (IE.lit 1))))] [] [(1012, (LE.cat (LE.var 1012) (LE.one (AL.lst (LE.take (LE.rom 0) (IE.bin BinOp.or .u64 (IE.var .u64 1017) (IE.bin BinOp.shl .u64 (IE.bin BinOp.and .u8 (IE.cel .u8 (LE.rom 0) (IE.add (IE.var .i64 1013) (IE.var .i64 1016)) 0) (IE.lit 127)) (IE.mul (IE.lit 7) (IE.var .i64 1016))))) AL.nil))))] [] [] []))
def wljR5_7 : VW := (VW.cut 3 ((BE.not (BE.eq (IE.add (IE.add (IE.var .i64 1011) (IE.add (IE.var .i64 1016) (IE.lit 1))) (IE.bin BinOp.or .u64 (IE.var .u64 1017) (IE.bin BinOp.shl .u64 (IE.bin BinOp.and .u8 (IE.cel .u8 (LE.rom 0) (IE.add (IE.var .i64 1013) (IE.var .i64 1016)) 0) (IE.lit 127)) (IE.mul (IE.lit 7) (IE.var .i64 1016))))) (IE.add (IE.var .i64 1011) (IE.add (IE.var .i64 1016) (IE.lit 1))))) :: pcljR5_11) (Sx.Sub.mk [(.i64, (1011, (IE.add (IE.add (IE.var .i64 1011) (IE.add (IE.var .i64 1016) (IE.lit 1))) (IE.bin BinOp.or .u64 (IE.var .u64 1017) (IE.bin BinOp.shl .u64 (IE.bin BinOp.and .u8 (IE.cel .u8 (LE.rom 0) (IE.add (IE.var .i64 1013) (IE.var .i64 1016)) 0) (IE.lit 127)) (IE.mul (IE.lit 7) (IE.var .i64 1016))))))), (.i64, (1010, (IE.add (IE.var .i64 1010) (IE.lit 1)))), (.u64, (1009, (IE.sub (IE.var .u64 1009) (IE.lit 1))))] [] [(1012, (LE.cat (LE.var 1012) (LE.one (AL.lst (LE.take (LE.drop (LE.rom 0) (IE.add (IE.var .i64 1011) (IE.add (IE.var .i64 1016) (IE.lit 1)))) (IE.bin BinOp.or .u64 (IE.var .u64 1017) (IE.bin BinOp.shl .u64 (IE.bin BinOp.and .u8 (IE.cel .u8 (LE.rom 0) (IE.add (IE.var .i64 1013) (IE.var .i64 1016)) 0) (IE.lit 127)) (IE.mul (IE.lit 7) (IE.var .i64 1016))))) AL.nil))))] [] [] []))
def wljR5_8 : VW := (VW.done ((BE.not (BE.le (IE.bin BinOp.or .u64 (IE.var .u64 1017) (IE.bin BinOp.shl .u64 (IE.bin BinOp.and .u8 (IE.cel .u8 (LE.rom 0) (IE.add (IE.var .i64 1013) (IE.var .i64 1016)) 0) (IE.lit 127)) (IE.mul (IE.lit 7) (IE.var .i64 1016)))) (IE.sub (IE.len (LE.rom 0)) (IE.add (IE.var .i64 1011) (IE.add (IE.var .i64 1016) (IE.lit 1)))))) :: pcljR5_9) (some [(G.b (BE.lit true) (BE.lit false))]))
def wljR5_9 : VW := (VW.done ((BE.not (BE.le (IE.cel .u8 (LE.rom 0) (IE.add (IE.var .i64 1013) (IE.var .i64 1016)) 0) (IE.lit 1))) :: pcljR5_7) (some [(G.b (BE.lit true) (BE.lit false))]))
def wljR5_10 : VW := (VW.cut 5 ((BE.le (IE.lit 128) (IE.cel .u8 (LE.rom 0) (IE.add (IE.var .i64 1013) (IE.var .i64 1016)) 0)) :: pcljR5_8) (Sx.Sub.mk [(.i64, (1011, (IE.var .i64 1011))), (.i64, (1010, (IE.var .i64 1010))), (.u64, (1009, (IE.var .u64 1009))), (.i64, (1016, (IE.add (IE.var .i64 1016) (IE.lit 1)))), (.i64, (1015, (IE.var .i64 1015))), (.i64, (1013, (IE.var .i64 1013))), (.u64, (1017, (IE.bin BinOp.or .u64 (IE.var .u64 1017) (IE.bin BinOp.shl .u64 (IE.bin BinOp.and .u8 (IE.cel .u8 (LE.rom 0) (IE.add (IE.var .i64 1013) (IE.var .i64 1016)) 0) (IE.lit 127)) (IE.mul (IE.lit 7) (IE.var .i64 1016))))))] [] [(1012, (LE.var 1012))] [] [] []))
def wljR5_11 : VW := (VW.cut 3 ((BE.eq (IE.add (IE.add (IE.var .i64 1011) (IE.add (IE.var .i64 1016) (IE.lit 1))) (IE.bin BinOp.or .u64 (IE.var .u64 1017) (IE.bin BinOp.shl .u64 (IE.bin BinOp.and .u8 (IE.cel .u8 (LE.rom 0) (IE.add (IE.var .i64 1013) (IE.var .i64 1016)) 0) (IE.lit 127)) (IE.mul (IE.lit 7) (IE.var .i64 1016))))) (IE.add (IE.var .i64 1011) (IE.add (IE.var .i64 1016) (IE.lit 1)))) :: pcljR5_12) (Sx.Sub.mk [(.i64, (1011, (IE.add (IE.add (IE.var .i64 1011) (IE.add (IE.var .i64 1016) (IE.lit 1))) (IE.bin BinOp.or .u64 (IE.var .u64 1017) (IE.bin BinOp.shl .u64 (IE.bin BinOp.and .u8 (IE.cel .u8 (LE.rom 0) (IE.add (IE.var .i64 1013) (IE.var .i64 1016)) 0) (IE.lit 127)) (IE.mul (IE.lit 7) (IE.var .i64 1016))))))), (.i64, (1010, (IE.add (IE.var .i64 1010) (IE.lit 1)))), (.u64, (1009, (IE.sub (IE.var .u64 1009) (IE.lit 1))))] [] [(1012, (LE.cat (LE.var 1012) (LE.one (AL.lst (LE.take (LE.rom 0) (IE.bin BinOp.or .u64 (IE.var .u64 1017) (IE.bin BinOp.shl .u64 (IE.bin BinOp.and .u8 (IE.cel .u8 (LE.rom 0) (IE.add (IE.var .i64 1013) (IE.var .i64 1016)) 0) (IE.lit 127)) (IE.mul (IE.lit 7) (IE.var .i64 1016))))) AL.nil))))] [] [] []))
def wljR5_12 : VW := (VW.cut 3 ((BE.not (BE.eq (IE.add (IE.add (IE.var .i64 1011) (IE.add (IE.var .i64 1016) (IE.lit 1))) (IE.bin BinOp.or .u64 (IE.var .u64 1017) (IE.bin BinOp.shl .u64 (IE.bin BinOp.and .u8 (IE.cel .u8 (LE.rom 0) (IE.add (IE.var .i64 1013) (IE.var .i64 1016)) 0) (IE.lit 127)) (IE.mul (IE.lit 7) (IE.var .i64 1016))))) (IE.add (IE.var .i64 1011) (IE.add (IE.var .i64 1016) (IE.lit 1))))) :: pcljR5_12) (Sx.Sub.mk [(.i64, (1011, (IE.add (IE.add (IE.var .i64 1011) (IE.add (IE.var .i64 1016) (IE.lit 1))) (IE.bin BinOp.or .u64 (IE.var .u64 1017) (IE.bin BinOp.shl .u64 (IE.bin BinOp.and .u8 (IE.cel .u8 (LE.rom 0) (IE.add (IE.var .i64 1013) (IE.var .i64 1016)) 0) (IE.lit 127)) (IE.mul (IE.lit 7) (IE.var .i64 1016))))))), (.i64, (1010, (IE.add (IE.var .i64 1010) (IE.lit 1)))), (.u64, (1009, (IE.sub (IE.var .u64 1009) (IE.lit 1))))] [] [(1012, (LE.cat (LE.var 1012) (LE.one (AL.lst (LE.take (LE.drop (LE.rom 0) (IE.add (IE.var .i64 1011) (IE.add (IE.var .i64 1016) (IE.lit 1)))) (IE.bin BinOp.or .u64 (IE.var .u64 1017) (IE.bin BinOp.shl .u64 (IE.bin BinOp.and .u8 (IE.cel .u8 (LE.rom 0) (IE.add (IE.var .i64 1013) (IE.var .i64 1016)) 0) (IE.lit 127)) (IE.mul (IE.lit 7) (IE.var .i64 1016))))) AL.nil))))] [] [] []))
def wljR5_13 : VW := (VW.done ((BE.not (BE.le (IE.bin BinOp.or .u64 (IE.var .u64 1017) (IE.bin BinOp.shl .u64 (IE.bin BinOp.and .u8 (IE.cel .u8 (LE.rom 0) (IE.add (IE.var .i64 1013) (IE.var .i64 1016)) 0) (IE.lit 127)) (IE.mul (IE.lit 7) (IE.var .i64 1016)))) (IE.sub (IE.len (LE.rom 0)) (IE.add (IE.var .i64 1011) (IE.add (IE.var .i64 1016) (IE.lit 1)))))) :: pcljR5_10) (some [(G.b (BE.lit true) (BE.lit false))]))
def vwljR5 : List VW := [wljR5_0, wljR5_1, wljR5_2, wljR5_3, wljR5_4, wljR5_5, wljR5_6, wljR5_7, wljR5_8, wljR5_9, wljR5_10, wljR5_11, wljR5_12, wljR5_13]
def vwljR : Nat → List VW
  | 0 => vwljR0
  | 1 => vwljR1
  | 2 => vwljR2
  | 3 => vwljR3
  | 4 => vwljR4
  | 5 => vwljR5
  | _ => []
end
def invljR : Nat → Lt → Prop
  | 1, l => Nu (l.z.rl 0) 0 0 (l.i .i64 1001) (l.i .u64 1000) ∧ (l.z.rl 0).length ≤ 10000
  | 2, l => Tx (l.z.rl 0) 0 (l.i .i64 1003) ∧ (l.i .u64 1002) = rdV (l.z.rl 0) ∧ (rdV (l.z.rl 0) ≤ (l.i .i64 1) ∨ rdV (l.z.rl 0) ≤ 0) ∧ (l.z.rl 0).length ≤ 10000
  | 3, l => 1 ≤ (l.i .i64 1010) ∧ Tx (l.z.rl 0) (l.i .i64 1010) (l.i .i64 1011) ∧ (l.l 1012) = txsT (l.z.rl 0) (l.i .i64 1010).toNat ∧ (l.i .u64 1009) + (l.i .i64 1010) = rdV (l.z.rl 0) ∧ (rdV (l.z.rl 0) ≤ (l.i .i64 1) ∨ rdV (l.z.rl 0) ≤ 0) ∧ (l.z.rl 0).length ≤ 10000
  | 4, l => Nu (l.z.rl 0) (l.i .i64 1003) (l.i .i64 1004) (l.i .i64 1007) (l.i .u64 1008) ∧ Tx (l.z.rl 0) 0 (l.i .i64 1003) ∧ (l.i .u64 1002) = rdV (l.z.rl 0) ∧ 1 ≤ (l.i .u64 1002) ∧ (rdV (l.z.rl 0) ≤ (l.i .i64 1) ∨ rdV (l.z.rl 0) ≤ 0) ∧ (l.z.rl 0).length ≤ 10000
  | 5, l => 1 ≤ (l.i .i64 1010) ∧ Nu (l.z.rl 0) (l.i .i64 1011) (l.i .i64 1013) (l.i .i64 1016) (l.i .u64 1017) ∧ Tx (l.z.rl 0) (l.i .i64 1010) (l.i .i64 1011) ∧ (l.l 1012) = txsT (l.z.rl 0) (l.i .i64 1010).toNat ∧ (l.i .u64 1009) + (l.i .i64 1010) = rdV (l.z.rl 0) ∧ 1 ≤ (l.i .u64 1009) ∧ (rdV (l.z.rl 0) ≤ (l.i .i64 1) ∨ rdV (l.z.rl 0) ≤ 0) ∧ (l.z.rl 0).length ≤ 10000
  | _, _ => True
def msljR : Nat → Lt → Nat
  | 0, l => 12 * (l.z.rl 0).length + 60
  | 1, l => 12 * (l.z.rl 0).length + 40 - (l.i .i64 1001).toNat
  | 2, l => 12 * ((l.z.rl 0).length + 1 - (l.i .i64 1003).toNat)
  | 3, l => 12 * ((l.z.rl 0).length + 1 - (l.i .i64 1011).toNat)
  | 4, l => 12 * ((l.z.rl 0).length + 1 - (l.i .i64 1003).toNat) - 1 - (l.i .i64 1007).toNat
  | 5, l => 12 * ((l.z.rl 0).length + 1 - (l.i .i64 1011).toNat) - 1 - (l.i .i64 1016).toNat
  | _, _ => 0
theorem vcljR0_0 : VC TTljR invljR msljR 0 (startF 33 cListR2.pat (.lit true :: cListR2.pre)) wljR0_0 := by
  intro ρ kn hi hp
  have hF : ρ.z.F = oct.Φ := kn.F
  simp only [h_nil, h_cons, d_le, d_eq, d_not, d_var, d_lit, d_cel, d_leq, d_fn, d_and, d_iff, IE.den, LE.den, AL.den, lenV, true_and, and_true, hF, pi2, pi3, pi4, pi5, pi6, pi7, pl1, pi8, pi9, pl3, pi10, pi11, pb1, pl2] at hp
  obtain ⟨p1, p2, p3⟩ := hp
  refine (show (Nu (ρ.z.rl 0) 0 0 (0 : Int) (0 : Int) ∧ (ρ.z.rl 0).length ≤ 10000) ∧ ((12 * (ρ.z.rl 0).length + 40 - (0 : Int).toNat : Nat) < 12 * (ρ.z.rl 0).length + 60) from ?_)
  exact ⟨⟨nu_start rfl, by omega⟩, by omega⟩
def ivljR1 (ρ : Rho) : Prop := Nu (ρ.z.rl 0) 0 0 (ρ.i .i64 1001) (ρ.i .u64 1000) ∧ (ρ.z.rl 0).length ≤ 10000
theorem vcgljR1_0 : VC TTljR invljR msljR 1 tljR1 wljR1_0 ∧ VC TTljR invljR msljR 1 tljR1 wljR1_3 ∧ VC TTljR invljR msljR 1 tljR1 wljR1_5 ∧ VC TTljR invljR msljR 1 tljR1 wljR1_6 ∧ VC TTljR invljR msljR 1 tljR1 wljR1_8 ∧ VC TTljR invljR msljR 1 tljR1 wljR1_10 ∧ VC TTljR invljR msljR 1 tljR1 wljR1_11 ∧ VC TTljR invljR msljR 1 tljR1 wljR1_14 ∧ VC TTljR invljR msljR 1 tljR1 wljR1_16 := by
  refine ⟨?_, ?_, ?_, ?_, ?_, ?_, ?_, ?_, ?_⟩
  all_goals
    intro ρ kn hi hp
    have hi : ivljR1 ρ := hi
    unfold ivljR1 at hi
    have hF : ρ.z.F = oct.Φ := kn.F
    simp only [h_nil, h_cons, d_le, d_eq, d_not, d_var, d_lit, d_cel, d_leq, d_fn, d_and, d_iff, IE.den, LE.den, AL.den, lenV, true_and, and_true, pcljR1_0, pcljR1_6, pcljR1_4, pcljR1_2, pcljR1_1, pcljR1_7, pcljR1_3, pcljR1_12, pcljR1_10, pcljR1_8, pcljR1_5, pcljR1_13, pcljR1_14, pcljR1_11, pcljR1_9, pcljR1_15, hF, pi2, pi3, pi4, pi5, pi6, pi7, pl1, pi8, pi9, pl3, pi10, pi11, pb1, pl2] at hp
    have p1 := And.left hp
    replace hp := And.right hp
    repeat (have _ := And.left hp; replace hp := And.right hp)
    exfalso
    have hB := lsB_t.1 (by assumption : lsB (ρ.z.rl 0) (ρ.i .i64 1) = true)
    obtain ⟨u, h2⟩ := hi
    first
      | (have k := nu_end u (by omega) (by omega); simp only [d0] at k; have q := ls_no (L := (ρ.z.rl 0)) (m := (ρ.i .i64 1)) (by omega); omega)
      | (have k := nu_bad u (b := clampK .u8 (intV (celV (ρ.z.rl 0) (ρ.i .i64 1001) 0))) (by omega) (by omega) (by rw [Int.zero_add]) (by omega); simp only [d0] at k; have q := ls_no (L := (ρ.z.rl 0)) (m := (ρ.i .i64 1)) (by omega); omega)
      | (have k := nu_read u (b := clampK .u8 (intV (celV (ρ.z.rl 0) (ρ.i .i64 1001) 0))) (by omega) (by omega) (by rw [Int.zero_add]) (by omega) (by omega) (by omega); simp only [d0] at k; have q := ls_long (L := (ρ.z.rl 0)) (m := (ρ.i .i64 1)) k.1 (by rw [k.2.2]; omega); omega)
theorem vcljR1_1 : VC TTljR invljR msljR 1 tljR1 wljR1_1 := by
  intro ρ kn hi hp
  have hi : ivljR1 ρ := hi
  unfold ivljR1 at hi
  have hF : ρ.z.F = oct.Φ := kn.F
  simp only [h_nil, h_cons, d_le, d_eq, d_not, d_var, d_lit, d_cel, d_leq, d_fn, d_and, d_iff, IE.den, LE.den, AL.den, lenV, true_and, and_true, pcljR1_2, pcljR1_1, pcljR1_0, hF, pi2, pi3, pi4, pi5, pi6, pi7, pl1, pi8, pi9, pl3, pi10, pi11, pb1, pl2] at hp
  obtain ⟨p1, p2, p3, p4, p5, p6, p7, p8⟩ := hp
  refine (show (Nu (ρ.z.rl 0) 0 0 ((ρ.i .i64 1001) + (1 : Int)) (binI BinOp.or .u64 (ρ.i .u64 1000) (binI BinOp.shl .u64 (binI BinOp.and .u8 (clampK .u8 (intV (celV (ρ.z.rl 0) (ρ.i .i64 1001) 0))) (127 : Int)) ((7 : Int) * (ρ.i .i64 1001)))) ∧ (ρ.z.rl 0).length ≤ 10000) ∧ ((12 * (ρ.z.rl 0).length + 40 - ((ρ.i .i64 1001) + (1 : Int)).toNat : Nat) < 12 * (ρ.z.rl 0).length + 40 - (ρ.i .i64 1001).toNat) from ?_)
  obtain ⟨u, h2⟩ := hi
  exact ⟨⟨nu_go u (b := clampK .u8 (intV (celV (ρ.z.rl 0) (ρ.i .i64 1001) 0))) (by omega) (by omega) (by rw [Int.zero_add]) (by omega) (by omega) (by omega), h2⟩, by omega⟩
theorem vcljR1_2 : VC TTljR invljR msljR 1 tljR1 wljR1_2 := by
  intro ρ kn hi hp
  have hi : ivljR1 ρ := hi
  unfold ivljR1 at hi
  have hF : ρ.z.F = oct.Φ := kn.F
  simp only [h_nil, h_cons, d_le, d_eq, d_not, d_var, d_lit, d_cel, d_leq, d_fn, d_and, d_iff, IE.den, LE.den, AL.den, lenV, true_and, and_true, pcljR1_6, pcljR1_4, pcljR1_2, pcljR1_1, pcljR1_0, hF, pi2, pi3, pi4, pi5, pi6, pi7, pl1, pi8, pi9, pl3, pi10, pi11, pb1, pl2] at hp
  obtain ⟨p1, p2, p3, p4, p5, p6, p7, p8, p9, p10⟩ := hp
  refine (show (Tx (ρ.z.rl 0) 0 ((0 : Int) + ((ρ.i .i64 1001) + (1 : Int))) ∧ (binI BinOp.or .u64 (ρ.i .u64 1000) (binI BinOp.shl .u64 (binI BinOp.and .u8 (clampK .u8 (intV (celV (ρ.z.rl 0) (ρ.i .i64 1001) 0))) (127 : Int)) ((7 : Int) * (ρ.i .i64 1001)))) = rdV (ρ.z.rl 0) ∧ (rdV (ρ.z.rl 0) ≤ (ρ.i .i64 1) ∨ rdV (ρ.z.rl 0) ≤ 0) ∧ (ρ.z.rl 0).length ≤ 10000) ∧ ((12 * ((ρ.z.rl 0).length + 1 - ((0 : Int) + ((ρ.i .i64 1001) + (1 : Int))).toNat) : Nat) < 12 * (ρ.z.rl 0).length + 40 - (ρ.i .i64 1001).toNat) from ?_)
  obtain ⟨u, h2⟩ := hi
  obtain ⟨k1, k2, k3⟩ := nu_read u (b := clampK .u8 (intV (celV (ρ.z.rl 0) (ρ.i .i64 1001) 0))) (by omega) (by omega) (by rw [Int.zero_add]) (by omega) (by omega) (by omega)
  simp only [d0] at k1 k2 k3
  exact ⟨⟨tx0 k1 (by omega), k3.symm, by omega, h2⟩, by omega⟩
theorem vcljR1_4 : VC TTljR invljR msljR 1 tljR1 wljR1_4 := by
  intro ρ kn hi hp
  have hi : ivljR1 ρ := hi
  unfold ivljR1 at hi
  have hF : ρ.z.F = oct.Φ := kn.F
  simp only [h_nil, h_cons, d_le, d_eq, d_not, d_var, d_lit, d_cel, d_leq, d_fn, d_and, d_iff, IE.den, LE.den, AL.den, lenV, true_and, and_true, pcljR1_7, pcljR1_4, pcljR1_2, pcljR1_1, pcljR1_0, hF, pi2, pi3, pi4, pi5, pi6, pi7, pl1, pi8, pi9, pl3, pi10, pi11, pb1, pl2] at hp
  obtain ⟨p1, p2, p3, p4, p5, p6, p7, p8, p9, p10⟩ := hp
  refine (show (Tx (ρ.z.rl 0) 0 ((0 : Int) + ((ρ.i .i64 1001) + (1 : Int))) ∧ (binI BinOp.or .u64 (ρ.i .u64 1000) (binI BinOp.shl .u64 (binI BinOp.and .u8 (clampK .u8 (intV (celV (ρ.z.rl 0) (ρ.i .i64 1001) 0))) (127 : Int)) ((7 : Int) * (ρ.i .i64 1001)))) = rdV (ρ.z.rl 0) ∧ (rdV (ρ.z.rl 0) ≤ (ρ.i .i64 1) ∨ rdV (ρ.z.rl 0) ≤ 0) ∧ (ρ.z.rl 0).length ≤ 10000) ∧ ((12 * ((ρ.z.rl 0).length + 1 - ((0 : Int) + ((ρ.i .i64 1001) + (1 : Int))).toNat) : Nat) < 12 * (ρ.z.rl 0).length + 40 - (ρ.i .i64 1001).toNat) from ?_)
  obtain ⟨u, h2⟩ := hi
  obtain ⟨k1, k2, k3⟩ := nu_read u (b := clampK .u8 (intV (celV (ρ.z.rl 0) (ρ.i .i64 1001) 0))) (by omega) (by omega) (by rw [Int.zero_add]) (by omega) (by omega) (by omega)
  simp only [d0] at k1 k2 k3
  exact ⟨⟨tx0 k1 (by omega), k3.symm, by omega, h2⟩, by omega⟩
theorem vcljR1_7 : VC TTljR invljR msljR 1 tljR1 wljR1_7 := by
  intro ρ kn hi hp
  have hi : ivljR1 ρ := hi
  unfold ivljR1 at hi
  have hF : ρ.z.F = oct.Φ := kn.F
  simp only [h_nil, h_cons, d_le, d_eq, d_not, d_var, d_lit, d_cel, d_leq, d_fn, d_and, d_iff, IE.den, LE.den, AL.den, lenV, true_and, and_true, pcljR1_12, pcljR1_10, pcljR1_8, pcljR1_5, pcljR1_3, pcljR1_1, pcljR1_0, hF, pi2, pi3, pi4, pi5, pi6, pi7, pl1, pi8, pi9, pl3, pi10, pi11, pb1, pl2] at hp
  obtain ⟨p1, p2, p3, p4, p5, p6, p7, p8, p9, p10, p11, p12⟩ := hp
  refine (show (Tx (ρ.z.rl 0) 0 ((0 : Int) + ((ρ.i .i64 1001) + (1 : Int))) ∧ (binI BinOp.or .u64 (ρ.i .u64 1000) (binI BinOp.shl .u64 (binI BinOp.and .u8 (clampK .u8 (intV (celV (ρ.z.rl 0) (ρ.i .i64 1001) 0))) (127 : Int)) ((7 : Int) * (ρ.i .i64 1001)))) = rdV (ρ.z.rl 0) ∧ (rdV (ρ.z.rl 0) ≤ (ρ.i .i64 1) ∨ rdV (ρ.z.rl 0) ≤ 0) ∧ (ρ.z.rl 0).length ≤ 10000) ∧ ((12 * ((ρ.z.rl 0).length + 1 - ((0 : Int) + ((ρ.i .i64 1001) + (1 : Int))).toNat) : Nat) < 12 * (ρ.z.rl 0).length + 40 - (ρ.i .i64 1001).toNat) from ?_)
  obtain ⟨u, h2⟩ := hi
  obtain ⟨k1, k2, k3⟩ := nu_read u (b := clampK .u8 (intV (celV (ρ.z.rl 0) (ρ.i .i64 1001) 0))) (by omega) (by omega) (by rw [Int.zero_add]) (by omega) (by omega) (by omega)
  simp only [d0] at k1 k2 k3
  exact ⟨⟨tx0 k1 (by omega), k3.symm, by omega, h2⟩, by omega⟩
theorem vcljR1_9 : VC TTljR invljR msljR 1 tljR1 wljR1_9 := by
  intro ρ kn hi hp
  have hi : ivljR1 ρ := hi
  unfold ivljR1 at hi
  have hF : ρ.z.F = oct.Φ := kn.F
  simp only [h_nil, h_cons, d_le, d_eq, d_not, d_var, d_lit, d_cel, d_leq, d_fn, d_and, d_iff, IE.den, LE.den, AL.den, lenV, true_and, and_true, pcljR1_13, pcljR1_10, pcljR1_8, pcljR1_5, pcljR1_3, pcljR1_1, pcljR1_0, hF, pi2, pi3, pi4, pi5, pi6, pi7, pl1, pi8, pi9, pl3, pi10, pi11, pb1, pl2] at hp
  obtain ⟨p1, p2, p3, p4, p5, p6, p7, p8, p9, p10, p11, p12⟩ := hp
  refine (show (Tx (ρ.z.rl 0) 0 ((0 : Int) + ((ρ.i .i64 1001) + (1 : Int))) ∧ (binI BinOp.or .u64 (ρ.i .u64 1000) (binI BinOp.shl .u64 (binI BinOp.and .u8 (clampK .u8 (intV (celV (ρ.z.rl 0) (ρ.i .i64 1001) 0))) (127 : Int)) ((7 : Int) * (ρ.i .i64 1001)))) = rdV (ρ.z.rl 0) ∧ (rdV (ρ.z.rl 0) ≤ (ρ.i .i64 1) ∨ rdV (ρ.z.rl 0) ≤ 0) ∧ (ρ.z.rl 0).length ≤ 10000) ∧ ((12 * ((ρ.z.rl 0).length + 1 - ((0 : Int) + ((ρ.i .i64 1001) + (1 : Int))).toNat) : Nat) < 12 * (ρ.z.rl 0).length + 40 - (ρ.i .i64 1001).toNat) from ?_)
  obtain ⟨u, h2⟩ := hi
  obtain ⟨k1, k2, k3⟩ := nu_read u (b := clampK .u8 (intV (celV (ρ.z.rl 0) (ρ.i .i64 1001) 0))) (by omega) (by omega) (by rw [Int.zero_add]) (by omega) (by omega) (by omega)
  simp only [d0] at k1 k2 k3
  exact ⟨⟨tx0 k1 (by omega), k3.symm, by omega, h2⟩, by omega⟩
theorem vcljR1_12 : VC TTljR invljR msljR 1 tljR1 wljR1_12 := by
  intro ρ kn hi hp
  have hi : ivljR1 ρ := hi
  unfold ivljR1 at hi
  have hF : ρ.z.F = oct.Φ := kn.F
  simp only [h_nil, h_cons, d_le, d_eq, d_not, d_var, d_lit, d_cel, d_leq, d_fn, d_and, d_iff, IE.den, LE.den, AL.den, lenV, true_and, and_true, pcljR1_9, pcljR1_5, pcljR1_3, pcljR1_1, pcljR1_0, hF, pi2, pi3, pi4, pi5, pi6, pi7, pl1, pi8, pi9, pl3, pi10, pi11, pb1, pl2] at hp
  obtain ⟨p1, p2, p3, p4, p5, p6, p7, p8, p9, p10⟩ := hp
  refine (show (Nu (ρ.z.rl 0) 0 0 ((ρ.i .i64 1001) + (1 : Int)) (binI BinOp.or .u64 (ρ.i .u64 1000) (binI BinOp.shl .u64 (binI BinOp.and .u8 (clampK .u8 (intV (celV (ρ.z.rl 0) (ρ.i .i64 1001) 0))) (127 : Int)) ((7 : Int) * (ρ.i .i64 1001)))) ∧ (ρ.z.rl 0).length ≤ 10000) ∧ ((12 * (ρ.z.rl 0).length + 40 - ((ρ.i .i64 1001) + (1 : Int)).toNat : Nat) < 12 * (ρ.z.rl 0).length + 40 - (ρ.i .i64 1001).toNat) from ?_)
  obtain ⟨u, h2⟩ := hi
  exact ⟨⟨nu_go u (b := clampK .u8 (intV (celV (ρ.z.rl 0) (ρ.i .i64 1001) 0))) (by omega) (by omega) (by rw [Int.zero_add]) (by omega) (by omega) (by omega), h2⟩, by omega⟩
theorem vcljR1_13 : VC TTljR invljR msljR 1 tljR1 wljR1_13 := by
  intro ρ kn hi hp
  have hi : ivljR1 ρ := hi
  unfold ivljR1 at hi
  have hF : ρ.z.F = oct.Φ := kn.F
  simp only [h_nil, h_cons, d_le, d_eq, d_not, d_var, d_lit, d_cel, d_leq, d_fn, d_and, d_iff, IE.den, LE.den, AL.den, lenV, true_and, and_true, pcljR1_14, pcljR1_11, pcljR1_9, pcljR1_5, pcljR1_3, pcljR1_1, pcljR1_0, hF, pi2, pi3, pi4, pi5, pi6, pi7, pl1, pi8, pi9, pl3, pi10, pi11, pb1, pl2] at hp
  obtain ⟨p1, p2, p3, p4, p5, p6, p7, p8, p9, p10, p11, p12⟩ := hp
  refine (show (Tx (ρ.z.rl 0) 0 ((0 : Int) + ((ρ.i .i64 1001) + (1 : Int))) ∧ (binI BinOp.or .u64 (ρ.i .u64 1000) (binI BinOp.shl .u64 (binI BinOp.and .u8 (clampK .u8 (intV (celV (ρ.z.rl 0) (ρ.i .i64 1001) 0))) (127 : Int)) ((7 : Int) * (ρ.i .i64 1001)))) = rdV (ρ.z.rl 0) ∧ (rdV (ρ.z.rl 0) ≤ (ρ.i .i64 1) ∨ rdV (ρ.z.rl 0) ≤ 0) ∧ (ρ.z.rl 0).length ≤ 10000) ∧ ((12 * ((ρ.z.rl 0).length + 1 - ((0 : Int) + ((ρ.i .i64 1001) + (1 : Int))).toNat) : Nat) < 12 * (ρ.z.rl 0).length + 40 - (ρ.i .i64 1001).toNat) from ?_)
  obtain ⟨u, h2⟩ := hi
  obtain ⟨k1, k2, k3⟩ := nu_read u (b := clampK .u8 (intV (celV (ρ.z.rl 0) (ρ.i .i64 1001) 0))) (by omega) (by omega) (by rw [Int.zero_add]) (by omega) (by omega) (by omega)
  simp only [d0] at k1 k2 k3
  exact ⟨⟨tx0 k1 (by omega), k3.symm, by omega, h2⟩, by omega⟩
theorem vcljR1_15 : VC TTljR invljR msljR 1 tljR1 wljR1_15 := by
  intro ρ kn hi hp
  have hi : ivljR1 ρ := hi
  unfold ivljR1 at hi
  have hF : ρ.z.F = oct.Φ := kn.F
  simp only [h_nil, h_cons, d_le, d_eq, d_not, d_var, d_lit, d_cel, d_leq, d_fn, d_and, d_iff, IE.den, LE.den, AL.den, lenV, true_and, and_true, pcljR1_15, pcljR1_11, pcljR1_9, pcljR1_5, pcljR1_3, pcljR1_1, pcljR1_0, hF, pi2, pi3, pi4, pi5, pi6, pi7, pl1, pi8, pi9, pl3, pi10, pi11, pb1, pl2] at hp
  obtain ⟨p1, p2, p3, p4, p5, p6, p7, p8, p9, p10, p11, p12⟩ := hp
  refine (show (Tx (ρ.z.rl 0) 0 ((0 : Int) + ((ρ.i .i64 1001) + (1 : Int))) ∧ (binI BinOp.or .u64 (ρ.i .u64 1000) (binI BinOp.shl .u64 (binI BinOp.and .u8 (clampK .u8 (intV (celV (ρ.z.rl 0) (ρ.i .i64 1001) 0))) (127 : Int)) ((7 : Int) * (ρ.i .i64 1001)))) = rdV (ρ.z.rl 0) ∧ (rdV (ρ.z.rl 0) ≤ (ρ.i .i64 1) ∨ rdV (ρ.z.rl 0) ≤ 0) ∧ (ρ.z.rl 0).length ≤ 10000) ∧ ((12 * ((ρ.z.rl 0).length + 1 - ((0 : Int) + ((ρ.i .i64 1001) + (1 : Int))).toNat) : Nat) < 12 * (ρ.z.rl 0).length + 40 - (ρ.i .i64 1001).toNat) from ?_)
  obtain ⟨u, h2⟩ := hi
  obtain ⟨k1, k2, k3⟩ := nu_read u (b := clampK .u8 (intV (celV (ρ.z.rl 0) (ρ.i .i64 1001) 0))) (by omega) (by omega) (by rw [Int.zero_add]) (by omega) (by omega) (by omega)
  simp only [d0] at k1 k2 k3
  exact ⟨⟨tx0 k1 (by omega), k3.symm, by omega, h2⟩, by omega⟩
def ivljR2 (ρ : Rho) : Prop := Tx (ρ.z.rl 0) 0 (ρ.i .i64 1003) ∧ (ρ.i .u64 1002) = rdV (ρ.z.rl 0) ∧ (rdV (ρ.z.rl 0) ≤ (ρ.i .i64 1) ∨ rdV (ρ.z.rl 0) ≤ 0) ∧ (ρ.z.rl 0).length ≤ 10000
theorem vcljR2_0 : VC TTljR invljR msljR 2 tljR2 wljR2_0 := by
  intro ρ kn hi hp
  have hi : ivljR2 ρ := hi
  unfold ivljR2 at hi
  have hF : ρ.z.F = oct.Φ := kn.F
  simp only [h_nil, h_cons, d_le, d_eq, d_not, d_var, d_lit, d_cel, d_leq, d_fn, d_and, d_iff, IE.den, LE.den, AL.den, lenV, true_and, and_true, pcljR2_0, hF, pi2, pi3, pi4, pi5, pi6, pi7, pl1, pi8, pi9, pl3, pi10, pi11, pb1, pl2] at hp
  obtain ⟨p1, p2, p3, p4, p5⟩ := hp
  exfalso
  have hB := lsB_t.1 (by assumption : lsB (ρ.z.rl 0) (ρ.i .i64 1) = true)
  obtain ⟨t, hn, h1, h2⟩ := hi
  have kr := tx_rng t
  omega
theorem vcljR2_1 : VC TTljR invljR msljR 2 tljR2 wljR2_1 := by
  intro ρ kn hi hp
  have hi : ivljR2 ρ := hi
  unfold ivljR2 at hi
  have hF : ρ.z.F = oct.Φ := kn.F
  simp only [h_nil, h_cons, d_le, d_eq, d_not, d_var, d_lit, d_cel, d_leq, d_fn, d_and, d_iff, IE.den, LE.den, AL.den, lenV, true_and, and_true, pcljR2_1, pcljR2_0, hF, pi2, pi3, pi4, pi5, pi6, pi7, pl1, pi8, pi9, pl3, pi10, pi11, pb1, pl2] at hp
  obtain ⟨p1, p2, p3, p4, p5, p6⟩ := hp
  refine (show (Nu (ρ.z.rl 0) (ρ.i .i64 1003) (0 : Int) (0 : Int) (0 : Int) ∧ Tx (ρ.z.rl 0) 0 (ρ.i .i64 1003) ∧ (ρ.i .u64 1002) = rdV (ρ.z.rl 0) ∧ 1 ≤ (ρ.i .u64 1002) ∧ (rdV (ρ.z.rl 0) ≤ (ρ.i .i64 1) ∨ rdV (ρ.z.rl 0) ≤ 0) ∧ (ρ.z.rl 0).length ≤ 10000) ∧ ((12 * ((ρ.z.rl 0).length + 1 - (ρ.i .i64 1003).toNat) - 1 - (0 : Int).toNat : Nat) < 12 * ((ρ.z.rl 0).length + 1 - (ρ.i .i64 1003).toNat)) from ?_)
  obtain ⟨t, hn, h1, h2⟩ := hi
  have kr := tx_rng t
  exact ⟨⟨nu0 kr (by omega), t, hn, by omega, h1, h2⟩, by omega⟩
theorem vcljR2_2 : VC TTljR invljR msljR 2 tljR2 wljR2_2 := by
  intro ρ kn hi hp
  have hi : ivljR2 ρ := hi
  unfold ivljR2 at hi
  have hF : ρ.z.F = oct.Φ := kn.F
  simp only [h_nil, h_cons, d_le, d_eq, d_not, d_var, d_lit, d_cel, d_leq, d_fn, d_and, d_iff, IE.den, LE.den, AL.den, lenV, true_and, and_true, pcljR2_1, pcljR2_0, hF, pi2, pi3, pi4, pi5, pi6, pi7, pl1, pi8, pi9, pl3, pi10, pi11, pb1, pl2] at hp
  obtain ⟨p1, p2, p3, p4, p5, p6⟩ := hp
  refine (show (Nu (ρ.z.rl 0) (ρ.i .i64 1003) (ρ.i .i64 1003) (0 : Int) (0 : Int) ∧ Tx (ρ.z.rl 0) 0 (ρ.i .i64 1003) ∧ (ρ.i .u64 1002) = rdV (ρ.z.rl 0) ∧ 1 ≤ (ρ.i .u64 1002) ∧ (rdV (ρ.z.rl 0) ≤ (ρ.i .i64 1) ∨ rdV (ρ.z.rl 0) ≤ 0) ∧ (ρ.z.rl 0).length ≤ 10000) ∧ ((12 * ((ρ.z.rl 0).length + 1 - (ρ.i .i64 1003).toNat) - 1 - (0 : Int).toNat : Nat) < 12 * ((ρ.z.rl 0).length + 1 - (ρ.i .i64 1003).toNat)) from ?_)
  obtain ⟨t, hn, h1, h2⟩ := hi
  have kr := tx_rng t
  exact ⟨⟨nu0 kr (by omega), t, hn, by omega, h1, h2⟩, by omega⟩
def ivljR3 (ρ : Rho) : Prop := 1 ≤ (ρ.i .i64 1010) ∧ Tx (ρ.z.rl 0) (ρ.i .i64 1010) (ρ.i .i64 1011) ∧ (ρ.l 1012) = txsT (ρ.z.rl 0) (ρ.i .i64 1010).toNat ∧ (ρ.i .u64 1009) + (ρ.i .i64 1010) = rdV (ρ.z.rl 0) ∧ (rdV (ρ.z.rl 0) ≤ (ρ.i .i64 1) ∨ rdV (ρ.z.rl 0) ≤ 0) ∧ (ρ.z.rl 0).length ≤ 10000
theorem vcljR3_0 : VC TTljR invljR msljR 3 tljR3 wljR3_0 := by
  intro ρ kn hi hp
  have hi : ivljR3 ρ := hi
  unfold ivljR3 at hi
  have hr2 : Typed [CK.str] (ρ.l 1012) ∧ (ρ.i .i64 1010) = (((ρ.l 1012)).length : Int) := kn.rows 2 _ _ _ _ _ _ rfl
  have hF : ρ.z.F = oct.Φ := kn.F
  simp only [h_nil, h_cons, d_le, d_eq, d_not, d_var, d_lit, d_cel, d_leq, d_fn, d_and, d_iff, IE.den, LE.den, AL.den, lenV, true_and, and_true, pcljR3_0, hF, pi2, pi3, pi4, pi5, pi6, pi7, pl1, pi8, pi9, pl3, pi10, pi11, pb1, pl2] at hp
  obtain ⟨p1, p2, p3, p4, p5, p6, p7⟩ := hp
  refine all_cons (show (((ρ.z.F.l 2 [.lst (ρ.z.rl 0), .int .i64 (ρ.i .i64 1)]).length : Nat) : Int) = (ρ.i .i64 1010) from ?_) (all_cons (show (clampK .i64 (ρ.z.F.i 11 [.lst (ρ.z.rl 0), .int .i64 (ρ.i .i64 1)])) = (ρ.i .i64 1011) from ?_) (all_cons (show (ρ.z.F.l 2 [.lst (ρ.z.rl 0), .int .i64 (ρ.i .i64 1)]) = (ρ.l 1012) from ?_) (all_cons (show (((ρ.z.F.l 2 [.lst (ρ.z.rl 0), .int .i64 (ρ.i .i64 1)]).length : Nat) : Int) = (ρ.i .i64 1010) from ?_) (all_nil))))
  all_goals try simp only [hF, pi2, pi3, pi4, pi5, pi6, pi7, pl1, pi8, pi9, pl3, pi10, pi11, pb1, pl2]
  all_goals
    have hl := kn.ok.rl 0
    try simp only [rdE_in, rdN_in, rdV_in, txtE_in, txtN_ind hl, lsE_in, lsN_in hl] at *
    have hB' : lsB (ρ.z.rl 0) (ρ.i .i64 1) = true := by assumption
    obtain ⟨hj, t, hw, hn, h1, h2⟩ := hi
    have kr := tx_rng t
    have hr : Typed _ (ρ.l 1012) ∧ ρ.i .i64 1010 = ((ρ.l 1012).length : Int) := kn.rows 2 _ _ _ _ _ _ rfl
    have hu := u64_rng kn.ok 1009
    have q := tx_end (m := (ρ.i .i64 1)) t (by omega) h1
    have e : ρ.i .i64 1010 = rdV (ρ.z.rl 0) := by omega
    first
      | (rw [lsL_t hB', hw, e]; done)
      | (rw [lsL_t hB', txs_len]; omega)
      | omega
theorem vcljR3_1 : VC TTljR invljR msljR 3 tljR3 wljR3_1 := by
  intro ρ kn hi hp
  have hi : ivljR3 ρ := hi
  unfold ivljR3 at hi
  have hF : ρ.z.F = oct.Φ := kn.F
  simp only [h_nil, h_cons, d_le, d_eq, d_not, d_var, d_lit, d_cel, d_leq, d_fn, d_and, d_iff, IE.den, LE.den, AL.den, lenV, true_and, and_true, pcljR3_1, pcljR3_0, hF, pi2, pi3, pi4, pi5, pi6, pi7, pl1, pi8, pi9, pl3, pi10, pi11, pb1, pl2] at hp
  obtain ⟨p1, p2, p3, p4, p5, p6, p7, p8⟩ := hp
  refine (show (1 ≤ (ρ.i .i64 1010) ∧ Nu (ρ.z.rl 0) (ρ.i .i64 1011) (0 : Int) (0 : Int) (0 : Int) ∧ Tx (ρ.z.rl 0) (ρ.i .i64 1010) (ρ.i .i64 1011) ∧ (ρ.l 1012) = txsT (ρ.z.rl 0) (ρ.i .i64 1010).toNat ∧ (ρ.i .u64 1009) + (ρ.i .i64 1010) = rdV (ρ.z.rl 0) ∧ 1 ≤ (ρ.i .u64 1009) ∧ (rdV (ρ.z.rl 0) ≤ (ρ.i .i64 1) ∨ rdV (ρ.z.rl 0) ≤ 0) ∧ (ρ.z.rl 0).length ≤ 10000) ∧ ((12 * ((ρ.z.rl 0).length + 1 - (ρ.i .i64 1011).toNat) - 1 - (0 : Int).toNat : Nat) < 12 * ((ρ.z.rl 0).length + 1 - (ρ.i .i64 1011).toNat)) from ?_)
  obtain ⟨hj, t, hw, hn, h1, h2⟩ := hi
  have kr := tx_rng t
  exact ⟨⟨hj, nu0 kr (by omega), t, hw, hn, by omega, h1, h2⟩, by omega⟩
theorem vcljR3_2 : VC TTljR invljR msljR 3 tljR3 wljR3_2 := by
  intro ρ kn hi hp
  have hi : ivljR3 ρ := hi
  unfold ivljR3 at hi
  have hF : ρ.z.F = oct.Φ := kn.F
  simp only [h_nil, h_cons, d_le, d_eq, d_not, d_var, d_lit, d_cel, d_leq, d_fn, d_and, d_iff, IE.den, LE.den, AL.den, lenV, true_and, and_true, pcljR3_1, pcljR3_0, hF, pi2, pi3, pi4, pi5, pi6, pi7, pl1, pi8, pi9, pl3, pi10, pi11, pb1, pl2] at hp
  obtain ⟨p1, p2, p3, p4, p5, p6, p7, p8⟩ := hp
  refine (show (1 ≤ (ρ.i .i64 1010) ∧ Nu (ρ.z.rl 0) (ρ.i .i64 1011) (ρ.i .i64 1011) (0 : Int) (0 : Int) ∧ Tx (ρ.z.rl 0) (ρ.i .i64 1010) (ρ.i .i64 1011) ∧ (ρ.l 1012) = txsT (ρ.z.rl 0) (ρ.i .i64 1010).toNat ∧ (ρ.i .u64 1009) + (ρ.i .i64 1010) = rdV (ρ.z.rl 0) ∧ 1 ≤ (ρ.i .u64 1009) ∧ (rdV (ρ.z.rl 0) ≤ (ρ.i .i64 1) ∨ rdV (ρ.z.rl 0) ≤ 0) ∧ (ρ.z.rl 0).length ≤ 10000) ∧ ((12 * ((ρ.z.rl 0).length + 1 - (ρ.i .i64 1011).toNat) - 1 - (0 : Int).toNat : Nat) < 12 * ((ρ.z.rl 0).length + 1 - (ρ.i .i64 1011).toNat)) from ?_)
  obtain ⟨hj, t, hw, hn, h1, h2⟩ := hi
  have kr := tx_rng t
  exact ⟨⟨hj, nu0 kr (by omega), t, hw, hn, by omega, h1, h2⟩, by omega⟩
def ivljR4 (ρ : Rho) : Prop := Nu (ρ.z.rl 0) (ρ.i .i64 1003) (ρ.i .i64 1004) (ρ.i .i64 1007) (ρ.i .u64 1008) ∧ Tx (ρ.z.rl 0) 0 (ρ.i .i64 1003) ∧ (ρ.i .u64 1002) = rdV (ρ.z.rl 0) ∧ 1 ≤ (ρ.i .u64 1002) ∧ (rdV (ρ.z.rl 0) ≤ (ρ.i .i64 1) ∨ rdV (ρ.z.rl 0) ≤ 0) ∧ (ρ.z.rl 0).length ≤ 10000
theorem vcgljR4_0 : VC TTljR invljR msljR 4 tljR4 wljR4_0 ∧ VC TTljR invljR msljR 4 tljR4 wljR4_4 ∧ VC TTljR invljR msljR 4 tljR4 wljR4_5 ∧ VC TTljR invljR msljR 4 tljR4 wljR4_8 ∧ VC TTljR invljR msljR 4 tljR4 wljR4_9 ∧ VC TTljR invljR msljR 4 tljR4 wljR4_13 := by
  refine ⟨?_, ?_, ?_, ?_, ?_, ?_⟩
  all_goals
    intro ρ kn hi hp
    have hi : ivljR4 ρ := hi
    unfold ivljR4 at hi
    have hF : ρ.z.F = oct.Φ := kn.F
    simp only [h_nil, h_cons, d_le, d_eq, d_not, d_var, d_lit, d_cel, d_leq, d_fn, d_and, d_iff, IE.den, LE.den, AL.den, lenV, true_and, and_true, pcljR4_0, pcljR4_4, pcljR4_2, pcljR4_1, pcljR4_3, pcljR4_9, pcljR4_7, pcljR4_5, pcljR4_10, pcljR4_8, hF, pi2, pi3, pi4, pi5, pi6, pi7, pl1, pi8, pi9, pl3, pi10, pi11, pb1, pl2] at hp
    have p1 := And.left hp
    replace hp := And.right hp
    repeat (have _ := And.left hp; replace hp := And.right hp)
    exfalso
    have hB := lsB_t.1 (by assumption : lsB (ρ.z.rl 0) (ρ.i .i64 1) = true)
    obtain ⟨u, t, hn, h0, h1, h2⟩ := hi
    have kr := tx_rng t
    first
      | (have k := nu_end u (by omega) (by omega); have k4 := text_no (R := (ρ.z.rl 0)) (a := (ρ.i .i64 1003)) (by omega); have q := tx_err (m := (ρ.i .i64 1)) t (by omega) h1 (e := txtE (List.drop ((ρ.i .i64 1003)).toNat (ρ.z.rl 0))) rfl (by omega); omega)
      | (have k := nu_bad u (b := clampK .u8 (intV (celV (ρ.z.rl 0) ((ρ.i .i64 1004) + (ρ.i .i64 1007)) 0))) (by omega) (by omega) rfl (by omega); have k4 := text_no (R := (ρ.z.rl 0)) (a := (ρ.i .i64 1003)) (by omega); have q := tx_err (m := (ρ.i .i64 1)) t (by omega) h1 (e := txtE (List.drop ((ρ.i .i64 1003)).toNat (ρ.z.rl 0))) rfl (by omega); omega)
      | (have k := nu_read u (b := clampK .u8 (intV (celV (ρ.z.rl 0) ((ρ.i .i64 1004) + (ρ.i .i64 1007)) 0))) (by omega) (by omega) rfl (by omega) (by omega) (by omega); have k4 := text_long kr k.1 k.2.1 k.2.2 (by omega); have q := tx_err (m := (ρ.i .i64 1)) t (by omega) h1 (e := txtE (List.drop ((ρ.i .i64 1003)).toNat (ρ.z.rl 0))) rfl (by omega); omega)
theorem vcljR4_1 : VC TTljR invljR msljR 4 tljR4 wljR4_1 := by
  intro ρ kn hi hp
  have hi : ivljR4 ρ := hi
  unfold ivljR4 at hi
  have hF : ρ.z.F = oct.Φ := kn.F
  simp only [h_nil, h_cons, d_le, d_eq, d_not, d_var, d_lit, d_cel, d_leq, d_fn, d_and, d_iff, IE.den, LE.den, AL.den, lenV, true_and, and_true, pcljR4_2, pcljR4_1, pcljR4_0, hF, pi2, pi3, pi4, pi5, pi6, pi7, pl1, pi8, pi9, pl3, pi10, pi11, pb1, pl2] at hp
  obtain ⟨p1, p2, p3, p4, p5, p6, p7, p8, p9, p10, p11, p12, p13⟩ := hp
  refine (show (Nu (ρ.z.rl 0) (ρ.i .i64 1003) (ρ.i .i64 1004) ((ρ.i .i64 1007) + (1 : Int)) (binI BinOp.or .u64 (ρ.i .u64 1008) (binI BinOp.shl .u64 (binI BinOp.and .u8 (clampK .u8 (intV (celV (ρ.z.rl 0) ((ρ.i .i64 1004) + (ρ.i .i64 1007)) 0))) (127 : Int)) ((7 : Int) * (ρ.i .i64 1007)))) ∧ Tx (ρ.z.rl 0) 0 (ρ.i .i64 1003) ∧ (ρ.i .u64 1002) = rdV (ρ.z.rl 0) ∧ 1 ≤ (ρ.i .u64 1002) ∧ (rdV (ρ.z.rl 0) ≤ (ρ.i .i64 1) ∨ rdV (ρ.z.rl 0) ≤ 0) ∧ (ρ.z.rl 0).length ≤ 10000) ∧ ((12 * ((ρ.z.rl 0).length + 1 - (ρ.i .i64 1003).toNat) - 1 - ((ρ.i .i64 1007) + (1 : Int)).toNat : Nat) < 12 * ((ρ.z.rl 0).length + 1 - (ρ.i .i64 1003).toNat) - 1 - (ρ.i .i64 1007).toNat) from ?_)
  obtain ⟨u, t, hn, h0, h1, h2⟩ := hi
  have kr := tx_rng t
  exact ⟨⟨nu_go u (b := clampK .u8 (intV (celV (ρ.z.rl 0) ((ρ.i .i64 1004) + (ρ.i .i64 1007)) 0))) (by omega) (by omega) rfl (by omega) (by omega) (by omega), t, hn, h0, h1, h2⟩, by omega⟩
theorem vcljR4_2 : VC TTljR invljR msljR 4 tljR4 wljR4_2 := by
  intro ρ kn hi hp
  have hi : ivljR4 ρ := hi
  unfold ivljR4 at hi
  have hF : ρ.z.F = oct.Φ := kn.F
  simp only [h_nil, h_cons, d_le, d_eq, d_not, d_var, d_lit, d_cel, d_leq, d_fn, d_and, d_iff, IE.den, LE.den, AL.den, lenV, true_and, and_true, pcljR4_6, pcljR4_4, pcljR4_2, pcljR4_1, pcljR4_0, hF, pi2, pi3, pi4, pi5, pi6, pi7, pl1, pi8, pi9, pl3, pi10, pi11, pb1, pl2] at hp
  obtain ⟨p1, p2, p3, p4, p5, p6, p7, p8, p9, p10, p11, p12, p13, p14, p15⟩ := hp
  refine (show (1 ≤ (1 : Int) ∧ Tx (ρ.z.rl 0) (1 : Int) (((ρ.i .i64 1003) + ((ρ.i .i64 1007) + (1 : Int))) + (binI BinOp.or .u64 (ρ.i .u64 1008) (binI BinOp.shl .u64 (binI BinOp.and .u8 (clampK .u8 (intV (celV (ρ.z.rl 0) ((ρ.i .i64 1004) + (ρ.i .i64 1007)) 0))) (127 : Int)) ((7 : Int) * (ρ.i .i64 1007))))) ∧ ([[Go.Value.string (byteL ((ρ.z.rl 0).take (binI BinOp.or .u64 (ρ.i .u64 1008) (binI BinOp.shl .u64 (binI BinOp.and .u8 (clampK .u8 (intV (celV (ρ.z.rl 0) ((ρ.i .i64 1004) + (ρ.i .i64 1007)) 0))) (127 : Int)) ((7 : Int) * (ρ.i .i64 1007)))).toNat))]] : LV) = txsT (ρ.z.rl 0) (1 : Int).toNat ∧ ((ρ.i .u64 1002) - (1 : Int)) + (1 : Int) = rdV (ρ.z.rl 0) ∧ (rdV (ρ.z.rl 0) ≤ (ρ.i .i64 1) ∨ rdV (ρ.z.rl 0) ≤ 0) ∧ (ρ.z.rl 0).length ≤ 10000) ∧ ((12 * ((ρ.z.rl 0).length + 1 - (((ρ.i .i64 1003) + ((ρ.i .i64 1007) + (1 : Int))) + (binI BinOp.or .u64 (ρ.i .u64 1008) (binI BinOp.shl .u64 (binI BinOp.and .u8 (clampK .u8 (intV (celV (ρ.z.rl 0) ((ρ.i .i64 1004) + (ρ.i .i64 1007)) 0))) (127 : Int)) ((7 : Int) * (ρ.i .i64 1007))))).toNat) : Nat) < 12 * ((ρ.z.rl 0).length + 1 - (ρ.i .i64 1003).toNat) - 1 - (ρ.i .i64 1007).toNat) from ?_)
  obtain ⟨u, t, hn, h0, h1, h2⟩ := hi
  have kr := tx_rng t
  obtain ⟨k1, k2, k3⟩ := nu_read u (b := clampK .u8 (intV (celV (ρ.z.rl 0) ((ρ.i .i64 1004) + (ρ.i .i64 1007)) 0))) (by omega) (by omega) rfl (by omega) (by omega) (by omega)
  have kv := rdV_rng (List.drop ((ρ.i .i64 1003)).toNat (ρ.z.rl 0))
  rw [k3] at kv
  have hT := kn.rom 0 _ _ rfl
  obtain ⟨e1, e2, e3⟩ := text_ok hT kr k1 k2 k3 (by omega) (by omega)
  have t2 := txs t e1
  have w2 := txs_s t (W := []) rfl
  rw [e2, ← Int.add_assoc] at t2
  rw [e3] at w2
  refine ⟨⟨by omega, t2, ?_, by omega, h1, h2⟩, by omega⟩
  first
    | exact w2
    | (rw [show ∀ x : Int, x = 0 → x.toNat = 0 from fun x h => by omega] at w2 ⊢
       · simp only [List.take_zero] at w2 ⊢
         exact w2
       all_goals omega)
theorem vcljR4_3 : VC TTljR invljR msljR 4 tljR4 wljR4_3 := by
  intro ρ kn hi hp
  have hi : ivljR4 ρ := hi
  unfold ivljR4 at hi
  have hF : ρ.z.F = oct.Φ := kn.F
  simp only [h_nil, h_cons, d_le, d_eq, d_not, d_var, d_lit, d_cel, d_leq, d_fn, d_and, d_iff, IE.den, LE.den, AL.den, lenV, true_and, and_true, pcljR4_6, pcljR4_4, pcljR4_2, pcljR4_1, pcljR4_0, hF, pi2, pi3, pi4, pi5, pi6, pi7, pl1, pi8, pi9, pl3, pi10, pi11, pb1, pl2] at hp
  obtain ⟨p1, p2, p3, p4, p5, p6, p7, p8, p9, p10, p11, p12, p13, p14, p15⟩ := hp
  refine (show (1 ≤ (1 : Int) ∧ Tx (ρ.z.rl 0) (1 : Int) (((ρ.i .i64 1003) + ((ρ.i .i64 1007) + (1 : Int))) + (binI BinOp.or .u64 (ρ.i .u64 1008) (binI BinOp.shl .u64 (binI BinOp.and .u8 (clampK .u8 (intV (celV (ρ.z.rl 0) ((ρ.i .i64 1004) + (ρ.i .i64 1007)) 0))) (127 : Int)) ((7 : Int) * (ρ.i .i64 1007))))) ∧ ([[Go.Value.string (byteL (((ρ.z.rl 0).drop ((ρ.i .i64 1003) + ((ρ.i .i64 1007) + (1 : Int))).toNat).take (binI BinOp.or .u64 (ρ.i .u64 1008) (binI BinOp.shl .u64 (binI BinOp.and .u8 (clampK .u8 (intV (celV (ρ.z.rl 0) ((ρ.i .i64 1004) + (ρ.i .i64 1007)) 0))) (127 : Int)) ((7 : Int) * (ρ.i .i64 1007)))).toNat))]] : LV) = txsT (ρ.z.rl 0) (1 : Int).toNat ∧ ((ρ.i .u64 1002) - (1 : Int)) + (1 : Int) = rdV (ρ.z.rl 0) ∧ (rdV (ρ.z.rl 0) ≤ (ρ.i .i64 1) ∨ rdV (ρ.z.rl 0) ≤ 0) ∧ (ρ.z.rl 0).length ≤ 10000) ∧ ((12 * ((ρ.z.rl 0).length + 1 - (((ρ.i .i64 1003) + ((ρ.i .i64 1007) + (1 : Int))) + (binI BinOp.or .u64 (ρ.i .u64 1008) (binI BinOp.shl .u64 (binI BinOp.and .u8 (clampK .u8 (intV (celV (ρ.z.rl 0) ((ρ.i .i64 1004) + (ρ.i .i64 1007)) 0))) (127 : Int)) ((7 : Int) * (ρ.i .i64 1007))))).toNat) : Nat) < 12 * ((ρ.z.rl 0).length + 1 - (ρ.i .i64 1003).toNat) - 1 - (ρ.i .i64 1007).toNat) from ?_)
  obtain ⟨u, t, hn, h0, h1, h2⟩ := hi
  have kr := tx_rng t
  obtain ⟨k1, k2, k3⟩ := nu_read u (b := clampK .u8 (intV (celV (ρ.z.rl 0) ((ρ.i .i64 1004) + (ρ.i .i64 1007)) 0))) (by omega) (by omega) rfl (by omega) (by omega) (by omega)
  have kv := rdV_rng (List.drop ((ρ.i .i64 1003)).toNat (ρ.z.rl 0))
  rw [k3] at kv
  have hT := kn.rom 0 _ _ rfl
  obtain ⟨e1, e2, e3⟩ := text_ok hT kr k1 k2 k3 (by omega) (by omega)
  have t2 := txs t e1
  have w2 := txs_s t (W := []) rfl
  rw [e2, ← Int.add_assoc] at t2
  rw [e3] at w2
  refine ⟨⟨by omega, t2, ?_, by omega, h1, h2⟩, by omega⟩
  first
    | exact w2
    | (rw [show ∀ x : Int, x = 0 → x.toNat = 0 from fun x h => by omega] at w2 ⊢
       · simp only [List.take_zero] at w2 ⊢
         exact w2
       all_goals omega)
theorem vcljR4_6 : VC TTljR invljR msljR 4 tljR4 wljR4_6 := by
  intro ρ kn hi hp
  have hi : ivljR4 ρ := hi
  unfold ivljR4 at hi
  have hF : ρ.z.F = oct.Φ := kn.F
  simp only [h_nil, h_cons, d_le, d_eq, d_not, d_var, d_lit, d_cel, d_leq, d_fn, d_and, d_iff, IE.den, LE.den, AL.den, lenV, true_and, and_true, pcljR4_11, pcljR4_9, pcljR4_7, pcljR4_5, pcljR4_3, pcljR4_1, pcljR4_0, hF, pi2, pi3, pi4, pi5, pi6, pi7, pl1, pi8, pi9, pl3, pi10, pi11, pb1, pl2] at hp
  obtain ⟨p1, p2, p3, p4, p5, p6, p7, p8, p9, p10, p11, p12, p13, p14, p15, p16, p17⟩ := hp
  refine (show (1 ≤ (1 : Int) ∧ Tx (ρ.z.rl 0) (1 : Int) (((ρ.i .i64 1003) + ((ρ.i .i64 1007) + (1 : Int))) + (binI BinOp.or .u64 (ρ.i .u64 1008) (binI BinOp.shl .u64 (binI BinOp.and .u8 (clampK .u8 (intV (celV (ρ.z.rl 0) ((ρ.i .i64 1004) + (ρ.i .i64 1007)) 0))) (127 : Int)) ((7 : Int) * (ρ.i .i64 1007))))) ∧ ([[Go.Value.string (byteL ((ρ.z.rl 0).take (binI BinOp.or .u64 (ρ.i .u64 1008) (binI BinOp.shl .u64 (binI BinOp.and .u8 (clampK .u8 (intV (celV (ρ.z.rl 0) ((ρ.i .i64 1004) + (ρ.i .i64 1007)) 0))) (127 : Int)) ((7 : Int) * (ρ.i .i64 1007)))).toNat))]] : LV) = txsT (ρ.z.rl 0) (1 : Int).toNat ∧ ((ρ.i .u64 1002) - (1 : Int)) + (1 : Int) = rdV (ρ.z.rl 0) ∧ (rdV (ρ.z.rl 0) ≤ (ρ.i .i64 1) ∨ rdV (ρ.z.rl 0) ≤ 0) ∧ (ρ.z.rl 0).length ≤ 10000) ∧ ((12 * ((ρ.z.rl 0).length + 1 - (((ρ.i .i64 1003) + ((ρ.i .i64 1007) + (1 : Int))) + (binI BinOp.or .u64 (ρ.i .u64 1008) (binI BinOp.shl .u64 (binI BinOp.and .u8 (clampK .u8 (intV (celV (ρ.z.rl 0) ((ρ.i .i64 1004) + (ρ.i .i64 1007)) 0))) (127 : Int)) ((7 : Int) * (ρ.i .i64 1007))))).toNat) : Nat) < 12 * ((ρ.z.rl 0).length + 1 - (ρ.i .i64 1003).toNat) - 1 - (ρ.i .i64 1007).toNat) from ?_)
  obtain ⟨u, t, hn, h0, h1, h2⟩ := hi
  have kr := tx_rng t
  obtain ⟨k1, k2, k3⟩ := nu_read u (b := clampK .u8 (intV (celV (ρ.z.rl 0) ((ρ.i .i64 1004) + (ρ.i .i64 1007)) 0))) (by omega) (by omega) rfl (by omega) (by omega) (by omega)
  have kv := rdV_rng (List.drop ((ρ.i .i64 1003)).toNat (ρ.z.rl 0))
  rw [k3] at kv
  have hT := kn.rom 0 _ _ rfl
  obtain ⟨e1, e2, e3⟩ := text_ok hT kr k1 k2 k3 (by omega) (by omega)
  have t2 := txs t e1
  have w2 := txs_s t (W := []) rfl
  rw [e2, ← Int.add_assoc] at t2
  rw [e3] at w2
  refine ⟨⟨by omega, t2, ?_, by omega, h1, h2⟩, by omega⟩
  first
    | exact w2
    | (rw [show ∀ x : Int, x = 0 → x.toNat = 0 from fun x h => by omega] at w2 ⊢
       · simp only [List.take_zero] at w2 ⊢
         exact w2
       all_goals omega)
theorem vcljR4_7 : VC TTljR invljR msljR 4 tljR4 wljR4_7 := by
  intro ρ kn hi hp
  have hi : ivljR4 ρ := hi
  unfold ivljR4 at hi
  have hF : ρ.z.F = oct.Φ := kn.F
  simp only [h_nil, h_cons, d_le, d_eq, d_not, d_var, d_lit, d_cel, d_leq, d_fn, d_and, d_iff, IE.den, LE.den, AL.den, lenV, true_and, and_true, pcljR4_11, pcljR4_9, pcljR4_7, pcljR4_5, pcljR4_3, pcljR4_1, pcljR4_0, hF, pi2, pi3, pi4, pi5, pi6, pi7, pl1, pi8, pi9, pl3, pi10, pi11, pb1, pl2] at hp
  obtain ⟨p1, p2, p3, p4, p5, p6, p7, p8, p9, p10, p11, p12, p13, p14, p15, p16, p17⟩ := hp
  refine (show (1 ≤ (1 : Int) ∧ Tx (ρ.z.rl 0) (1 : Int) (((ρ.i .i64 1003) + ((ρ.i .i64 1007) + (1 : Int))) + (binI BinOp.or .u64 (ρ.i .u64 1008) (binI BinOp.shl .u64 (binI BinOp.and .u8 (clampK .u8 (intV (celV (ρ.z.rl 0) ((ρ.i .i64 1004) + (ρ.i .i64 1007)) 0))) (127 : Int)) ((7 : Int) * (ρ.i .i64 1007))))) ∧ ([[Go.Value.string (byteL (((ρ.z.rl 0).drop ((ρ.i .i64 1003) + ((ρ.i .i64 1007) + (1 : Int))).toNat).take (binI BinOp.or .u64 (ρ.i .u64 1008) (binI BinOp.shl .u64 (binI BinOp.and .u8 (clampK .u8 (intV (celV (ρ.z.rl 0) ((ρ.i .i64 1004) + (ρ.i .i64 1007)) 0))) (127 : Int)) ((7 : Int) * (ρ.i .i64 1007)))).toNat))]] : LV) = txsT (ρ.z.rl 0) (1 : Int).toNat ∧ ((ρ.i .u64 1002) - (1 : Int)) + (1 : Int) = rdV (ρ.z.rl 0) ∧ (rdV (ρ.z.rl 0) ≤ (ρ.i .i64 1) ∨ rdV (ρ.z.rl 0) ≤ 0) ∧ (ρ.z.rl 0).length ≤ 10000) ∧ ((12 * ((ρ.z.rl 0).length + 1 - (((ρ.i .i64 1003) + ((ρ.i .i64 1007) + (1 : Int))) + (binI BinOp.or .u64 (ρ.i .u64 1008) (binI BinOp.shl .u64 (binI BinOp.and .u8 (clampK .u8 (intV (celV (ρ.z.rl 0) ((ρ.i .i64 1004) + (ρ.i .i64 1007)) 0))) (127 : Int)) ((7 : Int) * (ρ.i .i64 1007))))).toNat) : Nat) < 12 * ((ρ.z.rl 0).length + 1 - (ρ.i .i64 1003).toNat) - 1 - (ρ.i .i64 1007).toNat) from ?_)
  obtain ⟨u, t, hn, h0, h1, h2⟩ := hi
  have kr := tx_rng t
  obtain ⟨k1, k2, k3⟩ := nu_read u (b := clampK .u8 (intV (celV (ρ.z.rl 0) ((ρ.i .i64 1004) + (ρ.i .i64 1007)) 0))) (by omega) (by omega) rfl (by omega) (by omega) (by omega)
  have kv := rdV_rng (List.drop ((ρ.i .i64 1003)).toNat (ρ.z.rl 0))
  rw [k3] at kv
  have hT := kn.rom 0 _ _ rfl
  obtain ⟨e1, e2, e3⟩ := text_ok hT kr k1 k2 k3 (by omega) (by omega)
  have t2 := txs t e1
  have w2 := txs_s t (W := []) rfl
  rw [e2, ← Int.add_assoc] at t2
  rw [e3] at w2
  refine ⟨⟨by omega, t2, ?_, by omega, h1, h2⟩, by omega⟩
  first
    | exact w2
    | (rw [show ∀ x : Int, x = 0 → x.toNat = 0 from fun x h => by omega] at w2 ⊢
       · simp only [List.take_zero] at w2 ⊢
         exact w2
       all_goals omega)
theorem vcljR4_10 : VC TTljR invljR msljR 4 tljR4 wljR4_10 := by
  intro ρ kn hi hp
  have hi : ivljR4 ρ := hi
  unfold ivljR4 at hi
  have hF : ρ.z.F = oct.Φ := kn.F
  simp only [h_nil, h_cons, d_le, d_eq, d_not, d_var, d_lit, d_cel, d_leq, d_fn, d_and, d_iff, IE.den, LE.den, AL.den, lenV, true_and, and_true, pcljR4_8, pcljR4_5, pcljR4_3, pcljR4_1, pcljR4_0, hF, pi2, pi3, pi4, pi5, pi6, pi7, pl1, pi8, pi9, pl3, pi10, pi11, pb1, pl2] at hp
  obtain ⟨p1, p2, p3, p4, p5, p6, p7, p8, p9, p10, p11, p12, p13, p14, p15⟩ := hp
  refine (show (Nu (ρ.z.rl 0) (ρ.i .i64 1003) (ρ.i .i64 1004) ((ρ.i .i64 1007) + (1 : Int)) (binI BinOp.or .u64 (ρ.i .u64 1008) (binI BinOp.shl .u64 (binI BinOp.and .u8 (clampK .u8 (intV (celV (ρ.z.rl 0) ((ρ.i .i64 1004) + (ρ.i .i64 1007)) 0))) (127 : Int)) ((7 : Int) * (ρ.i .i64 1007)))) ∧ Tx (ρ.z.rl 0) 0 (ρ.i .i64 1003) ∧ (ρ.i .u64 1002) = rdV (ρ.z.rl 0) ∧ 1 ≤ (ρ.i .u64 1002) ∧ (rdV (ρ.z.rl 0) ≤ (ρ.i .i64 1) ∨ rdV (ρ.z.rl 0) ≤ 0) ∧ (ρ.z.rl 0).length ≤ 10000) ∧ ((12 * ((ρ.z.rl 0).length + 1 - (ρ.i .i64 1003).toNat) - 1 - ((ρ.i .i64 1007) + (1 : Int)).toNat : Nat) < 12 * ((ρ.z.rl 0).length + 1 - (ρ.i .i64 1003).toNat) - 1 - (ρ.i .i64 1007).toNat) from ?_)
  obtain ⟨u, t, hn, h0, h1, h2⟩ := hi
  have kr := tx_rng t
  exact ⟨⟨nu_go u (b := clampK .u8 (intV (celV (ρ.z.rl 0) ((ρ.i .i64 1004) + (ρ.i .i64 1007)) 0))) (by omega) (by omega) rfl (by omega) (by omega) (by omega), t, hn, h0, h1, h2⟩, by omega⟩
theorem vcljR4_11 : VC TTljR invljR msljR 4 tljR4 wljR4_11 := by
  intro ρ kn hi hp
  have hi : ivljR4 ρ := hi
  unfold ivljR4 at hi
  have hF : ρ.z.F = oct.Φ := kn.F
  simp only [h_nil, h_cons, d_le, d_eq, d_not, d_var, d_lit, d_cel, d_leq, d_fn, d_and, d_iff, IE.den, LE.den, AL.den, lenV, true_and, and_true, pcljR4_12, pcljR4_10, pcljR4_8, pcljR4_5, pcljR4_3, pcljR4_1, pcljR4_0, hF, pi2, pi3, pi4, pi5, pi6, pi7, pl1, pi8, pi9, pl3, pi10, pi11, pb1, pl2] at hp
  obtain ⟨p1, p2, p3, p4, p5, p6, p7, p8, p9, p10, p11, p12, p13, p14, p15, p16, p17⟩ := hp
  refine (show (1 ≤ (1 : Int) ∧ Tx (ρ.z.rl 0) (1 : Int) (((ρ.i .i64 1003) + ((ρ.i .i64 1007) + (1 : Int))) + (binI BinOp.or .u64 (ρ.i .u64 1008) (binI BinOp.shl .u64 (binI BinOp.and .u8 (clampK .u8 (intV (celV (ρ.z.rl 0) ((ρ.i .i64 1004) + (ρ.i .i64 1007)) 0))) (127 : Int)) ((7 : Int) * (ρ.i .i64 1007))))) ∧ ([[Go.Value.string (byteL ((ρ.z.rl 0).take (binI BinOp.or .u64 (ρ.i .u64 1008) (binI BinOp.shl .u64 (binI BinOp.and .u8 (clampK .u8 (intV (celV (ρ.z.rl 0) ((ρ.i .i64 1004) + (ρ.i .i64 1007)) 0))) (127 : Int)) ((7 : Int) * (ρ.i .i64 1007)))).toNat))]] : LV) = txsT (ρ.z.rl 0) (1 : Int).toNat ∧ ((ρ.i .u64 1002) - (1 : Int)) + (1 : Int) = rdV (ρ.z.rl 0) ∧ (rdV (ρ.z.rl 0) ≤ (ρ.i .i64 1) ∨ rdV (ρ.z.rl 0) ≤ 0) ∧ (ρ.z.rl 0).length ≤ 10000) ∧ ((12 * ((ρ.z.rl 0).length + 1 - (((ρ.i .i64 1003) + ((ρ.i .i64 1007) + (1 : Int))) + (binI BinOp.or .u64 (ρ.i .u64 1008) (binI BinOp.shl .u64 (binI BinOp.and .u8 (clampK .u8 (intV (celV (ρ.z.rl 0) ((ρ.i .i64 1004) + (ρ.i .i64 1007)) 0))) (127 : Int)) ((7 : Int) * (ρ.i .i64 1007))))).toNat) : Nat) < 12 * ((ρ.z.rl 0).length + 1 - (ρ.i .i64 1003).toNat) - 1 - (ρ.i .i64 1007).toNat) from ?_)
  obtain ⟨u, t, hn, h0, h1, h2⟩ := hi
  have kr := tx_rng t
  obtain ⟨k1, k2, k3⟩ := nu_read u (b := clampK .u8 (intV (celV (ρ.z.rl 0) ((ρ.i .i64 1004) + (ρ.i .i64 1007)) 0))) (by omega) (by omega) rfl (by omega) (by omega) (by omega)
  have kv := rdV_rng (List.drop ((ρ.i .i64 1003)).toNat (ρ.z.rl 0))
  rw [k3] at kv
  have hT := kn.rom 0 _ _ rfl
  obtain ⟨e1, e2, e3⟩ := text_ok hT kr k1 k2 k3 (by omega) (by omega)
  have t2 := txs t e1
  have w2 := txs_s t (W := []) rfl
  rw [e2, ← Int.add_assoc] at t2
  rw [e3] at w2
  refine ⟨⟨by omega, t2, ?_, by omega, h1, h2⟩, by omega⟩
  first
    | exact w2
    | (rw [show ∀ x : Int, x = 0 → x.toNat = 0 from fun x h => by omega] at w2 ⊢
       · simp only [List.take_zero] at w2 ⊢
         exact w2
       all_goals omega)
theorem vcljR4_12 : VC TTljR invljR msljR 4 tljR4 wljR4_12 := by
  intro ρ kn hi hp
  have hi : ivljR4 ρ := hi
  unfold ivljR4 at hi
  have hF : ρ.z.F = oct.Φ := kn.F
  simp only [h_nil, h_cons, d_le, d_eq, d_not, d_var, d_lit, d_cel, d_leq, d_fn, d_and, d_iff, IE.den, LE.den, AL.den, lenV, true_and, and_true, pcljR4_12, pcljR4_10, pcljR4_8, pcljR4_5, pcljR4_3, pcljR4_1, pcljR4_0, hF, pi2, pi3, pi4, pi5, pi6, pi7, pl1, pi8, pi9, pl3, pi10, pi11, pb1, pl2] at hp
  obtain ⟨p1, p2, p3, p4, p5, p6, p7, p8, p9, p10, p11, p12, p13, p14, p15, p16, p17⟩ := hp
  refine (show (1 ≤ (1 : Int) ∧ Tx (ρ.z.rl 0) (1 : Int) (((ρ.i .i64 1003) + ((ρ.i .i64 1007) + (1 : Int))) + (binI BinOp.or .u64 (ρ.i .u64 1008) (binI BinOp.shl .u64 (binI BinOp.and .u8 (clampK .u8 (intV (celV (ρ.z.rl 0) ((ρ.i .i64 1004) + (ρ.i .i64 1007)) 0))) (127 : Int)) ((7 : Int) * (ρ.i .i64 1007))))) ∧ ([[Go.Value.string (byteL (((ρ.z.rl 0).drop ((ρ.i .i64 1003) + ((ρ.i .i64 1007) + (1 : Int))).toNat).take (binI BinOp.or .u64 (ρ.i .u64 1008) (binI BinOp.shl .u64 (binI BinOp.and .u8 (clampK .u8 (intV (celV (ρ.z.rl 0) ((ρ.i .i64 1004) + (ρ.i .i64 1007)) 0))) (127 : Int)) ((7 : Int) * (ρ.i .i64 1007)))).toNat))]] : LV) = txsT (ρ.z.rl 0) (1 : Int).toNat ∧ ((ρ.i .u64 1002) - (1 : Int)) + (1 : Int) = rdV (ρ.z.rl 0) ∧ (rdV (ρ.z.rl 0) ≤ (ρ.i .i64 1) ∨ rdV (ρ.z.rl 0) ≤ 0) ∧ (ρ.z.rl 0).length ≤ 10000) ∧ ((12 * ((ρ.z.rl 0).length + 1 - (((ρ.i .i64 1003) + ((ρ.i .i64 1007) + (1 : Int))) + (binI BinOp.or .u64 (ρ.i .u64 1008) (binI BinOp.shl .u64 (binI BinOp.and .u8 (clampK .u8 (intV (celV (ρ.z.rl 0) ((ρ.i .i64 1004) + (ρ.i .i64 1007)) 0))) (127 : Int)) ((7 : Int) * (ρ.i .i64 1007))))).toNat) : Nat) < 12 * ((ρ.z.rl 0).length + 1 - (ρ.i .i64 1003).toNat) - 1 - (ρ.i .i64 1007).toNat) from ?_)
  obtain ⟨u, t, hn, h0, h1, h2⟩ := hi
  have kr := tx_rng t
  obtain ⟨k1, k2, k3⟩ := nu_read u (b := clampK .u8 (intV (celV (ρ.z.rl 0) ((ρ.i .i64 1004) + (ρ.i .i64 1007)) 0))) (by omega) (by omega) rfl (by omega) (by omega) (by omega)
  have kv := rdV_rng (List.drop ((ρ.i .i64 1003)).toNat (ρ.z.rl 0))
  rw [k3] at kv
  have hT := kn.rom 0 _ _ rfl
  obtain ⟨e1, e2, e3⟩ := text_ok hT kr k1 k2 k3 (by omega) (by omega)
  have t2 := txs t e1
  have w2 := txs_s t (W := []) rfl
  rw [e2, ← Int.add_assoc] at t2
  rw [e3] at w2
  refine ⟨⟨by omega, t2, ?_, by omega, h1, h2⟩, by omega⟩
  first
    | exact w2
    | (rw [show ∀ x : Int, x = 0 → x.toNat = 0 from fun x h => by omega] at w2 ⊢
       · simp only [List.take_zero] at w2 ⊢
         exact w2
       all_goals omega)
def ivljR5 (ρ : Rho) : Prop := 1 ≤ (ρ.i .i64 1010) ∧ Nu (ρ.z.rl 0) (ρ.i .i64 1011) (ρ.i .i64 1013) (ρ.i .i64 1016) (ρ.i .u64 1017) ∧ Tx (ρ.z.rl 0) (ρ.i .i64 1010) (ρ.i .i64 1011) ∧ (ρ.l 1012) = txsT (ρ.z.rl 0) (ρ.i .i64 1010).toNat ∧ (ρ.i .u64 1009) + (ρ.i .i64 1010) = rdV (ρ.z.rl 0) ∧ 1 ≤ (ρ.i .u64 1009) ∧ (rdV (ρ.z.rl 0) ≤ (ρ.i .i64 1) ∨ rdV (ρ.z.rl 0) ≤ 0) ∧ (ρ.z.rl 0).length ≤ 10000
theorem vcgljR5_0 : VC TTljR invljR msljR 5 tljR5 wljR5_0 ∧ VC TTljR invljR msljR 5 tljR5 wljR5_4 ∧ VC TTljR invljR msljR 5 tljR5 wljR5_5 ∧ VC TTljR invljR msljR 5 tljR5 wljR5_8 ∧ VC TTljR invljR msljR 5 tljR5 wljR5_9 ∧ VC TTljR invljR msljR 5 tljR5 wljR5_13 := by
  refine ⟨?_, ?_, ?_, ?_, ?_, ?_⟩
  all_goals
    intro ρ kn hi hp
    have hi : ivljR5 ρ := hi
    unfold ivljR5 at hi
    have hF : ρ.z.F = oct.Φ := kn.F
    simp only [h_nil, h_cons, d_le, d_eq, d_not, d_var, d_lit, d_cel, d_leq, d_fn, d_and, d_iff, IE.den, LE.den, AL.den, lenV, true_and, and_true, pcljR5_0, pcljR5_4, pcljR5_2, pcljR5_1, pcljR5_3, pcljR5_9, pcljR5_7, pcljR5_5, pcljR5_10, pcljR5_8, hF, pi2, pi3, pi4, pi5, pi6, pi7, pl1, pi8, pi9, pl3, pi10, pi11, pb1, pl2] at hp
    have p1 := And.left hp
    replace hp := And.right hp
    repeat (have _ := And.left hp; replace hp := And.right hp)
    exfalso
    have hB := lsB_t.1 (by assumption : lsB (ρ.z.rl 0) (ρ.i .i64 1) = true)
    obtain ⟨hj, u, t, hw, hn, h0, h1, h2⟩ := hi
    have kr := tx_rng t
    first
      | (have k := nu_end u (by omega) (by omega); have k4 := text_no (R := (ρ.z.rl 0)) (a := (ρ.i .i64 1011)) (by omega); have q := tx_err (m := (ρ.i .i64 1)) t (by omega) h1 (e := txtE (List.drop ((ρ.i .i64 1011)).toNat (ρ.z.rl 0))) rfl (by omega); omega)
      | (have k := nu_bad u (b := clampK .u8 (intV (celV (ρ.z.rl 0) ((ρ.i .i64 1013) + (ρ.i .i64 1016)) 0))) (by omega) (by omega) rfl (by omega); have k4 := text_no (R := (ρ.z.rl 0)) (a := (ρ.i .i64 1011)) (by omega); have q := tx_err (m := (ρ.i .i64 1)) t (by omega) h1 (e := txtE (List.drop ((ρ.i .i64 1011)).toNat (ρ.z.rl 0))) rfl (by omega); omega)
      | (have k := nu_read u (b := clampK .u8 (intV (celV (ρ.z.rl 0) ((ρ.i .i64 1013) + (ρ.i .i64 1016)) 0))) (by omega) (by omega) rfl (by omega) (by omega) (by omega); have k4 := text_long kr k.1 k.2.1 k.2.2 (by omega); have q := tx_err (m := (ρ.i .i64 1)) t (by omega) h1 (e := txtE (List.drop ((ρ.i .i64 1011)).toNat (ρ.z.rl 0))) rfl (by omega); omega)
theorem vcljR5_1 : VC TTljR invljR msljR 5 tljR5 wljR5_1 := by
  intro ρ kn hi hp
  have hi : ivljR5 ρ := hi
  unfold ivljR5 at hi
  have hF : ρ.z.F = oct.Φ := kn.F
  simp only [h_nil, h_cons, d_le, d_eq, d_not, d_var, d_lit, d_cel, d_leq, d_fn, d_and, d_iff, IE.den, LE.den, AL.den, lenV, true_and, and_true, pcljR5_2, pcljR5_1, pcljR5_0, hF, pi2, pi3, pi4, pi5, pi6, pi7, pl1, pi8, pi9, pl3, pi10, pi11, pb1, pl2] at hp
  obtain ⟨p1, p2, p3, p4, p5, p6, p7, p8, p9, p10, p11, p12, p13, p14, p15, p16⟩ := hp
  refine (show (1 ≤ (ρ.i .i64 1010) ∧ Nu (ρ.z.rl 0) (ρ.i .i64 1011) (ρ.i .i64 1013) ((ρ.i .i64 1016) + (1 : Int)) (binI BinOp.or .u64 (ρ.i .u64 1017) (binI BinOp.shl .u64 (binI BinOp.and .u8 (clampK .u8 (intV (celV (ρ.z.rl 0) ((ρ.i .i64 1013) + (ρ.i .i64 1016)) 0))) (127 : Int)) ((7 : Int) * (ρ.i .i64 1016)))) ∧ Tx (ρ.z.rl 0) (ρ.i .i64 1010) (ρ.i .i64 1011) ∧ (ρ.l 1012) = txsT (ρ.z.rl 0) (ρ.i .i64 1010).toNat ∧ (ρ.i .u64 1009) + (ρ.i .i64 1010) = rdV (ρ.z.rl 0) ∧ 1 ≤ (ρ.i .u64 1009) ∧ (rdV (ρ.z.rl 0) ≤ (ρ.i .i64 1) ∨ rdV (ρ.z.rl 0) ≤ 0) ∧ (ρ.z.rl 0).length ≤ 10000) ∧ ((12 * ((ρ.z.rl 0).length + 1 - (ρ.i .i64 1011).toNat) - 1 - ((ρ.i .i64 1016) + (1 : Int)).toNat : Nat) < 12 * ((ρ.z.rl 0).length + 1 - (ρ.i .i64 1011).toNat) - 1 - (ρ.i .i64 1016).toNat) from ?_)
  obtain ⟨hj, u, t, hw, hn, h0, h1, h2⟩ := hi
  have kr := tx_rng t
  exact ⟨⟨hj, nu_go u (b := clampK .u8 (intV (celV (ρ.z.rl 0) ((ρ.i .i64 1013) + (ρ.i .i64 1016)) 0))) (by omega) (by omega) rfl (by omega) (by omega) (by omega), t, hw, hn, h0, h1, h2⟩, by omega⟩
theorem vcljR5_2 : VC TTljR invljR msljR 5 tljR5 wljR5_2 := by
  intro ρ kn hi hp
  have hi : ivljR5 ρ := hi
  unfold ivljR5 at hi
  have hF : ρ.z.F = oct.Φ := kn.F
  simp only [h_nil, h_cons, d_le, d_eq, d_not, d_var, d_lit, d_cel, d_leq, d_fn, d_and, d_iff, IE.den, LE.den, AL.den, lenV, true_and, and_true, pcljR5_6, pcljR5_4, pcljR5_2, pcljR5_1, pcljR5_0, hF, pi2, pi3, pi4, pi5, pi6, pi7, pl1, pi8, pi9, pl3, pi10, pi11, pb1, pl2] at hp
  obtain ⟨p1, p2, p3, p4, p5, p6, p7, p8, p9, p10, p11, p12, p13, p14, p15, p16, p17, p18⟩ := hp
  refine (show (1 ≤ ((ρ.i .i64 1010) + (1 : Int)) ∧ Tx (ρ.z.rl 0) ((ρ.i .i64 1010) + (1 : Int)) (((ρ.i .i64 1011) + ((ρ.i .i64 1016) + (1 : Int))) + (binI BinOp.or .u64 (ρ.i .u64 1017) (binI BinOp.shl .u64 (binI BinOp.and .u8 (clampK .u8 (intV (celV (ρ.z.rl 0) ((ρ.i .i64 1013) + (ρ.i .i64 1016)) 0))) (127 : Int)) ((7 : Int) * (ρ.i .i64 1016))))) ∧ ((ρ.l 1012) ++ ([[Go.Value.string (byteL ((ρ.z.rl 0).take (binI BinOp.or .u64 (ρ.i .u64 1017) (binI BinOp.shl .u64 (binI BinOp.and .u8 (clampK .u8 (intV (celV (ρ.z.rl 0) ((ρ.i .i64 1013) + (ρ.i .i64 1016)) 0))) (127 : Int)) ((7 : Int) * (ρ.i .i64 1016)))).toNat))]] : LV)) = txsT (ρ.z.rl 0) ((ρ.i .i64 1010) + (1 : Int)).toNat ∧ ((ρ.i .u64 1009) - (1 : Int)) + ((ρ.i .i64 1010) + (1 : Int)) = rdV (ρ.z.rl 0) ∧ (rdV (ρ.z.rl 0) ≤ (ρ.i .i64 1) ∨ rdV (ρ.z.rl 0) ≤ 0) ∧ (ρ.z.rl 0).length ≤ 10000) ∧ ((12 * ((ρ.z.rl 0).length + 1 - (((ρ.i .i64 1011) + ((ρ.i .i64 1016) + (1 : Int))) + (binI BinOp.or .u64 (ρ.i .u64 1017) (binI BinOp.shl .u64 (binI BinOp.and .u8 (clampK .u8 (intV (celV (ρ.z.rl 0) ((ρ.i .i64 1013) + (ρ.i .i64 1016)) 0))) (127 : Int)) ((7 : Int) * (ρ.i .i64 1016))))).toNat) : Nat) < 12 * ((ρ.z.rl 0).length + 1 - (ρ.i .i64 1011).toNat) - 1 - (ρ.i .i64 1016).toNat) from ?_)
  obtain ⟨hj, u, t, hw, hn, h0, h1, h2⟩ := hi
  have kr := tx_rng t
  obtain ⟨k1, k2, k3⟩ := nu_read u (b := clampK .u8 (intV (celV (ρ.z.rl 0) ((ρ.i .i64 1013) + (ρ.i .i64 1016)) 0))) (by omega) (by omega) rfl (by omega) (by omega) (by omega)
  have kv := rdV_rng (List.drop ((ρ.i .i64 1011)).toNat (ρ.z.rl 0))
  rw [k3] at kv
  have hT := kn.rom 0 _ _ rfl
  obtain ⟨e1, e2, e3⟩ := text_ok hT kr k1 k2 k3 (by omega) (by omega)
  have t2 := txs t e1
  have w2 := txs_s t (W := ρ.l 1012) hw
  rw [e2, ← Int.add_assoc] at t2
  rw [e3] at w2
  refine ⟨⟨by omega, t2, ?_, by omega, h1, h2⟩, by omega⟩
  first
    | exact w2
    | (rw [show ∀ x : Int, x = 0 → x.toNat = 0 from fun x h => by omega] at w2 ⊢
       · simp only [List.take_zero] at w2 ⊢
         exact w2
       all_goals omega)
theorem vcljR5_3 : VC TTljR invljR msljR 5 tljR5 wljR5_3 := by
  intro ρ kn hi hp
  have hi : ivljR5 ρ := hi
  unfold ivljR5 at hi
  have hF : ρ.z.F = oct.Φ := kn.F
  simp only [h_nil, h_cons, d_le, d_eq, d_not, d_var, d_lit, d_cel, d_leq, d_fn, d_and, d_iff, IE.den, LE.den, AL.den, lenV, true_and, and_true, pcljR5_6, pcljR5_4, pcljR5_2, pcljR5_1, pcljR5_0, hF, pi2, pi3, pi4, pi5, pi6, pi7, pl1, pi8, pi9, pl3, pi10, pi11, pb1, pl2] at hp
  obtain ⟨p1, p2, p3, p4, p5, p6, p7, p8, p9, p10, p11, p12, p13, p14, p15, p16, p17, p18⟩ := hp
  refine (show (1 ≤ ((ρ.i .i64 1010) + (1 : Int)) ∧ Tx (ρ.z.rl 0) ((ρ.i .i64 1010) + (1 : Int)) (((ρ.i .i64 1011) + ((ρ.i .i64 1016) + (1 : Int))) + (binI BinOp.or .u64 (ρ.i .u64 1017) (binI BinOp.shl .u64 (binI BinOp.and .u8 (clampK .u8 (intV (celV (ρ.z.rl 0) ((ρ.i .i64 1013) + (ρ.i .i64 1016)) 0))) (127 : Int)) ((7 : Int) * (ρ.i .i64 1016))))) ∧ ((ρ.l 1012) ++ ([[Go.Value.string (byteL (((ρ.z.rl 0).drop ((ρ.i .i64 1011) + ((ρ.i .i64 1016) + (1 : Int))).toNat).take (binI BinOp.or .u64 (ρ.i .u64 1017) (binI BinOp.shl .u64 (binI BinOp.and .u8 (clampK .u8 (intV (celV (ρ.z.rl 0) ((ρ.i .i64 1013) + (ρ.i .i64 1016)) 0))) (127 : Int)) ((7 : Int) * (ρ.i .i64 1016)))).toNat))]] : LV)) = txsT (ρ.z.rl 0) ((ρ.i .i64 1010) + (1 : Int)).toNat ∧ ((ρ.i .u64 1009) - (1 : Int)) + ((ρ.i .i64 1010) + (1 : Int)) = rdV (ρ.z.rl 0) ∧ (rdV (ρ.z.rl 0) ≤ (ρ.i .i64 1) ∨ rdV (ρ.z.rl 0) ≤ 0) ∧ (ρ.z.rl 0).length ≤ 10000) ∧ ((12 * ((ρ.z.rl 0).length + 1 - (((ρ.i .i64 1011) + ((ρ.i .i64 1016) + (1 : Int))) + (binI BinOp.or .u64 (ρ.i .u64 1017) (binI BinOp.shl .u64 (binI BinOp.and .u8 (clampK .u8 (intV (celV (ρ.z.rl 0) ((ρ.i .i64 1013) + (ρ.i .i64 1016)) 0))) (127 : Int)) ((7 : Int) * (ρ.i .i64 1016))))).toNat) : Nat) < 12 * ((ρ.z.rl 0).length + 1 - (ρ.i .i64 1011).toNat) - 1 - (ρ.i .i64 1016).toNat) from ?_)
  obtain ⟨hj, u, t, hw, hn, h0, h1, h2⟩ := hi
  have kr := tx_rng t
  obtain ⟨k1, k2, k3⟩ := nu_read u (b := clampK .u8 (intV (celV (ρ.z.rl 0) ((ρ.i .i64 1013) + (ρ.i .i64 1016)) 0))) (by omega) (by omega) rfl (by omega) (by omega) (by omega)
  have kv := rdV_rng (List.drop ((ρ.i .i64 1011)).toNat (ρ.z.rl 0))
  rw [k3] at kv
  have hT := kn.rom 0 _ _ rfl
  obtain ⟨e1, e2, e3⟩ := text_ok hT kr k1 k2 k3 (by omega) (by omega)
  have t2 := txs t e1
  have w2 := txs_s t (W := ρ.l 1012) hw
  rw [e2, ← Int.add_assoc] at t2
  rw [e3] at w2
  refine ⟨⟨by omega, t2, ?_, by omega, h1, h2⟩, by omega⟩
  first
    | exact w2
    | (rw [show ∀ x : Int, x = 0 → x.toNat = 0 from fun x h => by omega] at w2 ⊢
       · simp only [List.take_zero] at w2 ⊢
         exact w2
       all_goals omega)
theorem vcljR5_6 : VC TTljR invljR msljR 5 tljR5 wljR5_6 := by
  intro ρ kn hi hp
  have hi : ivljR5 ρ := hi
  unfold ivljR5 at hi
  have hF : ρ.z.F = oct.Φ := kn.F
  simp only [h_nil, h_cons, d_le, d_eq, d_not, d_var, d_lit, d_cel, d_leq, d_fn, d_and, d_iff, IE.den, LE.den, AL.den, lenV, true_and, and_true, pcljR5_11, pcljR5_9, pcljR5_7, pcljR5_5, pcljR5_3, pcljR5_1, pcljR5_0, hF, pi2, pi3, pi4, pi5, pi6, pi7, pl1, pi8, pi9, pl3, pi10, pi11, pb1, pl2] at hp
  obtain ⟨p1, p2, p3, p4, p5, p6, p7, p8, p9, p10, p11, p12, p13, p14, p15, p16, p17, p18, p19, p20⟩ := hp
  refine (show (1 ≤ ((ρ.i .i64 1010) + (1 : Int)) ∧ Tx (ρ.z.rl 0) ((ρ.i .i64 1010) + (1 : Int)) (((ρ.i .i64 1011) + ((ρ.i .i64 1016) + (1 : Int))) + (binI BinOp.or .u64 (ρ.i .u64 1017) (binI BinOp.shl .u64 (binI BinOp.and .u8 (clampK .u8 (intV (celV (ρ.z.rl 0) ((ρ.i .i64 1013) + (ρ.i .i64 1016)) 0))) (127 : Int)) ((7 : Int) * (ρ.i .i64 1016))))) ∧ ((ρ.l 1012) ++ ([[Go.Value.string (byteL ((ρ.z.rl 0).take (binI BinOp.or .u64 (ρ.i .u64 1017) (binI BinOp.shl .u64 (binI BinOp.and .u8 (clampK .u8 (intV (celV (ρ.z.rl 0) ((ρ.i .i64 1013) + (ρ.i .i64 1016)) 0))) (127 : Int)) ((7 : Int) * (ρ.i .i64 1016)))).toNat))]] : LV)) = txsT (ρ.z.rl 0) ((ρ.i .i64 1010) + (1 : Int)).toNat ∧ ((ρ.i .u64 1009) - (1 : Int)) + ((ρ.i .i64 1010) + (1 : Int)) = rdV (ρ.z.rl 0) ∧ (rdV (ρ.z.rl 0) ≤ (ρ.i .i64 1) ∨ rdV (ρ.z.rl 0) ≤ 0) ∧ (ρ.z.rl 0).length ≤ 10000) ∧ ((12 * ((ρ.z.rl 0).length + 1 - (((ρ.i .i64 1011) + ((ρ.i .i64 1016) + (1 : Int))) + (binI BinOp.or .u64 (ρ.i .u64 1017) (binI BinOp.shl .u64 (binI BinOp.and .u8 (clampK .u8 (intV (celV (ρ.z.rl 0) ((ρ.i .i64 1013) + (ρ.i .i64 1016)) 0))) (127 : Int)) ((7 : Int) * (ρ.i .i64 1016))))).toNat) : Nat) < 12 * ((ρ.z.rl 0).length + 1 - (ρ.i .i64 1011).toNat) - 1 - (ρ.i .i64 1016).toNat) from ?_)
  obtain ⟨hj, u, t, hw, hn, h0, h1, h2⟩ := hi
  have kr := tx_rng t
  obtain ⟨k1, k2, k3⟩ := nu_read u (b := clampK .u8 (intV (celV (ρ.z.rl 0) ((ρ.i .i64 1013) + (ρ.i .i64 1016)) 0))) (by omega) (by omega) rfl (by omega) (by omega) (by omega)
  have kv := rdV_rng (List.drop ((ρ.i .i64 1011)).toNat (ρ.z.rl 0))
  rw [k3] at kv
  have hT := kn.rom 0 _ _ rfl
  obtain ⟨e1, e2, e3⟩ := text_ok hT kr k1 k2 k3 (by omega) (by omega)
  have t2 := txs t e1
  have w2 := txs_s t (W := ρ.l 1012) hw
  rw [e2, ← Int.add_assoc] at t2
  rw [e3] at w2
  refine ⟨⟨by omega, t2, ?_, by omega, h1, h2⟩, by omega⟩
  first
    | exact w2
    | (rw [show ∀ x : Int, x = 0 → x.toNat = 0 from fun x h => by omega] at w2 ⊢
       · simp only [List.take_zero] at w2 ⊢
         exact w2
       all_goals omega)
theorem vcljR5_7 : VC TTljR invljR msljR 5 tljR5 wljR5_7 := by
  intro ρ kn hi hp
  have hi : ivljR5 ρ := hi
  unfold ivljR5 at hi
  have hF : ρ.z.F = oct.Φ := kn.F
  simp only [h_nil, h_cons, d_le, d_eq, d_not, d_var, d_lit, d_cel, d_leq, d_fn, d_and, d_iff, IE.den, LE.den, AL.den, lenV, true_and, and_true, pcljR5_11, pcljR5_9, pcljR5_7, pcljR5_5, pcljR5_3, pcljR5_1, pcljR5_0, hF, pi2, pi3, pi4, pi5, pi6, pi7, pl1, pi8, pi9, pl3, pi10, pi11, pb1, pl2] at hp
  obtain ⟨p1, p2, p3, p4, p5, p6, p7, p8, p9, p10, p11, p12, p13, p14, p15, p16, p17, p18, p19, p20⟩ := hp
  refine (show (1 ≤ ((ρ.i .i64 1010) + (1 : Int)) ∧ Tx (ρ.z.rl 0) ((ρ.i .i64 1010) + (1 : Int)) (((ρ.i .i64 1011) + ((ρ.i .i64 1016) + (1 : Int))) + (binI BinOp.or .u64 (ρ.i .u64 1017) (binI BinOp.shl .u64 (binI BinOp.and .u8 (clampK .u8 (intV (celV (ρ.z.rl 0) ((ρ.i .i64 1013) + (ρ.i .i64 1016)) 0))) (127 : Int)) ((7 : Int) * (ρ.i .i64 1016))))) ∧ ((ρ.l 1012) ++ ([[Go.Value.string (byteL (((ρ.z.rl 0).drop ((ρ.i .i64 1011) + ((ρ.i .i64 1016) + (1 : Int))).toNat).take (binI BinOp.or .u64 (ρ.i .u64 1017) (binI BinOp.shl .u64 (binI BinOp.and .u8 (clampK .u8 (intV (celV (ρ.z.rl 0) ((ρ.i .i64 1013) + (ρ.i .i64 1016)) 0))) (127 : Int)) ((7 : Int) * (ρ.i .i64 1016)))).toNat))]] : LV)) = txsT (ρ.z.rl 0) ((ρ.i .i64 1010) + (1 : Int)).toNat ∧ ((ρ.i .u64 1009) - (1 : Int)) + ((ρ.i .i64 1010) + (1 : Int)) = rdV (ρ.z.rl 0) ∧ (rdV (ρ.z.rl 0) ≤ (ρ.i .i64 1) ∨ rdV (ρ.z.rl 0) ≤ 0) ∧ (ρ.z.rl 0).length ≤ 10000) ∧ ((12 * ((ρ.z.rl 0).length + 1 - (((ρ.i .i64 1011) + ((ρ.i .i64 1016) + (1 : Int))) + (binI BinOp.or .u64 (ρ.i .u64 1017) (binI BinOp.shl .u64 (binI BinOp.and .u8 (clampK .u8 (intV (celV (ρ.z.rl 0) ((ρ.i .i64 1013) + (ρ.i .i64 1016)) 0))) (127 : Int)) ((7 : Int) * (ρ.i .i64 1016))))).toNat) : Nat) < 12 * ((ρ.z.rl 0).length + 1 - (ρ.i .i64 1011).toNat) - 1 - (ρ.i .i64 1016).toNat) from ?_)
  obtain ⟨hj, u, t, hw, hn, h0, h1, h2⟩ := hi
  have kr := tx_rng t
  obtain ⟨k1, k2, k3⟩ := nu_read u (b := clampK .u8 (intV (celV (ρ.z.rl 0) ((ρ.i .i64 1013) + (ρ.i .i64 1016)) 0))) (by omega) (by omega) rfl (by omega) (by omega) (by omega)
  have kv := rdV_rng (List.drop ((ρ.i .i64 1011)).toNat (ρ.z.rl 0))
  rw [k3] at kv
  have hT := kn.rom 0 _ _ rfl
  obtain ⟨e1, e2, e3⟩ := text_ok hT kr k1 k2 k3 (by omega) (by omega)
  have t2 := txs t e1
  have w2 := txs_s t (W := ρ.l 1012) hw
  rw [e2, ← Int.add_assoc] at t2
  rw [e3] at w2
  refine ⟨⟨by omega, t2, ?_, by omega, h1, h2⟩, by omega⟩
  first
    | exact w2
    | (rw [show ∀ x : Int, x = 0 → x.toNat = 0 from fun x h => by omega] at w2 ⊢
       · simp only [List.take_zero] at w2 ⊢
         exact w2
       all_goals omega)
theorem vcljR5_10 : VC TTljR invljR msljR 5 tljR5 wljR5_10 := by
  intro ρ kn hi hp
  have hi : ivljR5 ρ := hi
  unfold ivljR5 at hi
  have hF : ρ.z.F = oct.Φ := kn.F
  simp only [h_nil, h_cons, d_le, d_eq, d_not, d_var, d_lit, d_cel, d_leq, d_fn, d_and, d_iff, IE.den, LE.den, AL.den, lenV, true_and, and_true, pcljR5_8, pcljR5_5, pcljR5_3, pcljR5_1, pcljR5_0, hF, pi2, pi3, pi4, pi5, pi6, pi7, pl1, pi8, pi9, pl3, pi10, pi11, pb1, pl2] at hp
  obtain ⟨p1, p2, p3, p4, p5, p6, p7, p8, p9, p10, p11, p12, p13, p14, p15, p16, p17, p18⟩ := hp
  refine (show (1 ≤ (ρ.i .i64 1010) ∧ Nu (ρ.z.rl 0) (ρ.i .i64 1011) (ρ.i .i64 1013) ((ρ.i .i64 1016) + (1 : Int)) (binI BinOp.or .u64 (ρ.i .u64 1017) (binI BinOp.shl .u64 (binI BinOp.and .u8 (clampK .u8 (intV (celV (ρ.z.rl 0) ((ρ.i .i64 1013) + (ρ.i .i64 1016)) 0))) (127 : Int)) ((7 : Int) * (ρ.i .i64 1016)))) ∧ Tx (ρ.z.rl 0) (ρ.i .i64 1010) (ρ.i .i64 1011) ∧ (ρ.l 1012) = txsT (ρ.z.rl 0) (ρ.i .i64 1010).toNat ∧ (ρ.i .u64 1009) + (ρ.i .i64 1010) = rdV (ρ.z.rl 0) ∧ 1 ≤ (ρ.i .u64 1009) ∧ (rdV (ρ.z.rl 0) ≤ (ρ.i .i64 1) ∨ rdV (ρ.z.rl 0) ≤ 0) ∧ (ρ.z.rl 0).length ≤ 10000) ∧ ((12 * ((ρ.z.rl 0).length + 1 - (ρ.i .i64 1011).toNat) - 1 - ((ρ.i .i64 1016) + (1 : Int)).toNat : Nat) < 12 * ((ρ.z.rl 0).length + 1 - (ρ.i .i64 1011).toNat) - 1 - (ρ.i .i64 1016).toNat) from ?_)
  obtain ⟨hj, u, t, hw, hn, h0, h1, h2⟩ := hi
  have kr := tx_rng t
  exact ⟨⟨hj, nu_go u (b := clampK .u8 (intV (celV (ρ.z.rl 0) ((ρ.i .i64 1013) + (ρ.i .i64 1016)) 0))) (by omega) (by omega) rfl (by omega) (by omega) (by omega), t, hw, hn, h0, h1, h2⟩, by omega⟩
theorem vcljR5_11 : VC TTljR invljR msljR 5 tljR5 wljR5_11 := by
  intro ρ kn hi hp
  have hi : ivljR5 ρ := hi
  unfold ivljR5 at hi
  have hF : ρ.z.F = oct.Φ := kn.F
  simp only [h_nil, h_cons, d_le, d_eq, d_not, d_var, d_lit, d_cel, d_leq, d_fn, d_and, d_iff, IE.den, LE.den, AL.den, lenV, true_and, and_true, pcljR5_12, pcljR5_10, pcljR5_8, pcljR5_5, pcljR5_3, pcljR5_1, pcljR5_0, hF, pi2, pi3, pi4, pi5, pi6, pi7, pl1, pi8, pi9, pl3, pi10, pi11, pb1, pl2] at hp
  obtain ⟨p1, p2, p3, p4, p5, p6, p7, p8, p9, p10, p11, p12, p13, p14, p15, p16, p17, p18, p19, p20⟩ := hp
  refine (show (1 ≤ ((ρ.i .i64 1010) + (1 : Int)) ∧ Tx (ρ.z.rl 0) ((ρ.i .i64 1010) + (1 : Int)) (((ρ.i .i64 1011) + ((ρ.i .i64 1016) + (1 : Int))) + (binI BinOp.or .u64 (ρ.i .u64 1017) (binI BinOp.shl .u64 (binI BinOp.and .u8 (clampK .u8 (intV (celV (ρ.z.rl 0) ((ρ.i .i64 1013) + (ρ.i .i64 1016)) 0))) (127 : Int)) ((7 : Int) * (ρ.i .i64 1016))))) ∧ ((ρ.l 1012) ++ ([[Go.Value.string (byteL ((ρ.z.rl 0).take (binI BinOp.or .u64 (ρ.i .u64 1017) (binI BinOp.shl .u64 (binI BinOp.and .u8 (clampK .u8 (intV (celV (ρ.z.rl 0) ((ρ.i .i64 1013) + (ρ.i .i64 1016)) 0))) (127 : Int)) ((7 : Int) * (ρ.i .i64 1016)))).toNat))]] : LV)) = txsT (ρ.z.rl 0) ((ρ.i .i64 1010) + (1 : Int)).toNat ∧ ((ρ.i .u64 1009) - (1 : Int)) + ((ρ.i .i64 1010) + (1 : Int)) = rdV (ρ.z.rl 0) ∧ (rdV (ρ.z.rl 0) ≤ (ρ.i .i64 1) ∨ rdV (ρ.z.rl 0) ≤ 0) ∧ (ρ.z.rl 0).length ≤ 10000) ∧ ((12 * ((ρ.z.rl 0).length + 1 - (((ρ.i .i64 1011) + ((ρ.i .i64 1016) + (1 : Int))) + (binI BinOp.or .u64 (ρ.i .u64 1017) (binI BinOp.shl .u64 (binI BinOp.and .u8 (clampK .u8 (intV (celV (ρ.z.rl 0) ((ρ.i .i64 1013) + (ρ.i .i64 1016)) 0))) (127 : Int)) ((7 : Int) * (ρ.i .i64 1016))))).toNat) : Nat) < 12 * ((ρ.z.rl 0).length + 1 - (ρ.i .i64 1011).toNat) - 1 - (ρ.i .i64 1016).toNat) from ?_)
  obtain ⟨hj, u, t, hw, hn, h0, h1, h2⟩ := hi
  have kr := tx_rng t
  obtain ⟨k1, k2, k3⟩ := nu_read u (b := clampK .u8 (intV (celV (ρ.z.rl 0) ((ρ.i .i64 1013) + (ρ.i .i64 1016)) 0))) (by omega) (by omega) rfl (by omega) (by omega) (by omega)
  have kv := rdV_rng (List.drop ((ρ.i .i64 1011)).toNat (ρ.z.rl 0))
  rw [k3] at kv
  have hT := kn.rom 0 _ _ rfl
  obtain ⟨e1, e2, e3⟩ := text_ok hT kr k1 k2 k3 (by omega) (by omega)
  have t2 := txs t e1
  have w2 := txs_s t (W := ρ.l 1012) hw
  rw [e2, ← Int.add_assoc] at t2
  rw [e3] at w2
  refine ⟨⟨by omega, t2, ?_, by omega, h1, h2⟩, by omega⟩
  first
    | exact w2
    | (rw [show ∀ x : Int, x = 0 → x.toNat = 0 from fun x h => by omega] at w2 ⊢
       · simp only [List.take_zero] at w2 ⊢
         exact w2
       all_goals omega)
theorem vcljR5_12 : VC TTljR invljR msljR 5 tljR5 wljR5_12 := by
  intro ρ kn hi hp
  have hi : ivljR5 ρ := hi
  unfold ivljR5 at hi
  have hF : ρ.z.F = oct.Φ := kn.F
  simp only [h_nil, h_cons, d_le, d_eq, d_not, d_var, d_lit, d_cel, d_leq, d_fn, d_and, d_iff, IE.den, LE.den, AL.den, lenV, true_and, and_true, pcljR5_12, pcljR5_10, pcljR5_8, pcljR5_5, pcljR5_3, pcljR5_1, pcljR5_0, hF, pi2, pi3, pi4, pi5, pi6, pi7, pl1, pi8, pi9, pl3, pi10, pi11, pb1, pl2] at hp
  obtain ⟨p1, p2, p3, p4, p5, p6, p7, p8, p9, p10, p11, p12, p13, p14, p15, p16, p17, p18, p19, p20⟩ := hp
  refine (show (1 ≤ ((ρ.i .i64 1010) + (1 : Int)) ∧ Tx (ρ.z.rl 0) ((ρ.i .i64 1010) + (1 : Int)) (((ρ.i .i64 1011) + ((ρ.i .i64 1016) + (1 : Int))) + (binI BinOp.or .u64 (ρ.i .u64 1017) (binI BinOp.shl .u64 (binI BinOp.and .u8 (clampK .u8 (intV (celV (ρ.z.rl 0) ((ρ.i .i64 1013) + (ρ.i .i64 1016)) 0))) (127 : Int)) ((7 : Int) * (ρ.i .i64 1016))))) ∧ ((ρ.l 1012) ++ ([[Go.Value.string (byteL (((ρ.z.rl 0).drop ((ρ.i .i64 1011) + ((ρ.i .i64 1016) + (1 : Int))).toNat).take (binI BinOp.or .u64 (ρ.i .u64 1017) (binI BinOp.shl .u64 (binI BinOp.and .u8 (clampK .u8 (intV (celV (ρ.z.rl 0) ((ρ.i .i64 1013) + (ρ.i .i64 1016)) 0))) (127 : Int)) ((7 : Int) * (ρ.i .i64 1016)))).toNat))]] : LV)) = txsT (ρ.z.rl 0) ((ρ.i .i64 1010) + (1 : Int)).toNat ∧ ((ρ.i .u64 1009) - (1 : Int)) + ((ρ.i .i64 1010) + (1 : Int)) = rdV (ρ.z.rl 0) ∧ (rdV (ρ.z.rl 0) ≤ (ρ.i .i64 1) ∨ rdV (ρ.z.rl 0) ≤ 0) ∧ (ρ.z.rl 0).length ≤ 10000) ∧ ((12 * ((ρ.z.rl 0).length + 1 - (((ρ.i .i64 1011) + ((ρ.i .i64 1016) + (1 : Int))) + (binI BinOp.or .u64 (ρ.i .u64 1017) (binI BinOp.shl .u64 (binI BinOp.and .u8 (clampK .u8 (intV (celV (ρ.z.rl 0) ((ρ.i .i64 1013) + (ρ.i .i64 1016)) 0))) (127 : Int)) ((7 : Int) * (ρ.i .i64 1016))))).toNat) : Nat) < 12 * ((ρ.z.rl 0).length + 1 - (ρ.i .i64 1011).toNat) - 1 - (ρ.i .i64 1016).toNat) from ?_)
  obtain ⟨hj, u, t, hw, hn, h0, h1, h2⟩ := hi
  have kr := tx_rng t
  obtain ⟨k1, k2, k3⟩ := nu_read u (b := clampK .u8 (intV (celV (ρ.z.rl 0) ((ρ.i .i64 1013) + (ρ.i .i64 1016)) 0))) (by omega) (by omega) rfl (by omega) (by omega) (by omega)
  have kv := rdV_rng (List.drop ((ρ.i .i64 1011)).toNat (ρ.z.rl 0))
  rw [k3] at kv
  have hT := kn.rom 0 _ _ rfl
  obtain ⟨e1, e2, e3⟩ := text_ok hT kr k1 k2 k3 (by omega) (by omega)
  have t2 := txs t e1
  have w2 := txs_s t (W := ρ.l 1012) hw
  rw [e2, ← Int.add_assoc] at t2
  rw [e3] at w2
  refine ⟨⟨by omega, t2, ?_, by omega, h1, h2⟩, by omega⟩
  first
    | exact w2
    | (rw [show ∀ x : Int, x = 0 → x.toNat = 0 from fun x h => by omega] at w2 ⊢
       · simp only [List.take_zero] at w2 ⊢
         exact w2
       all_goals omega)
theorem vcsljR0 : ∀ v ∈ vwljR 0, VC TTljR invljR msljR 0 (startF 33 cListR2.pat (.lit true :: cListR2.pre)) v := all_cons vcljR0_0 (all_nil)
theorem okljR0 : cfgOk (startF 33 cListR2.pat (.lit true :: cListR2.pre)) = true := by kernel_rfl
theorem sgljR0 : segL cListR2.roms cListR2 (seg TTljR selljR 400 tmljR (startF 33 cListR2.pat (.lit true :: cListR2.pre))) = (true, codesR tmljR (views (seg TTljR selljR 400 tmljR (startF 33 cListR2.pat (.lit true :: cListR2.pre)))), vwljR 0) := by kernel_rfl
theorem vcsljR1 : ∀ v ∈ vwljR 1, VC TTljR invljR msljR 1 tljR1 v := all_cons vcgljR1_0.1 (all_cons vcljR1_1 (all_cons vcljR1_2 (all_cons vcgljR1_0.2.1 (all_cons vcljR1_4 (all_cons vcgljR1_0.2.2.1 (all_cons vcgljR1_0.2.2.2.1 (all_cons vcljR1_7 (all_cons vcgljR1_0.2.2.2.2.1 (all_cons vcljR1_9 (all_cons vcgljR1_0.2.2.2.2.2.1 (all_cons vcgljR1_0.2.2.2.2.2.2.1 (all_cons vcljR1_12 (all_cons vcljR1_13 (all_cons vcgljR1_0.2.2.2.2.2.2.2.1 (all_cons vcljR1_15 (all_cons vcgljR1_0.2.2.2.2.2.2.2.2 (all_nil)))))))))))))))))
theorem okljR1 : cfgOk tljR1 = true := by kernel_rfl
theorem sgljR1 : segL cListR2.roms cListR2 (seg TTljR selljR 400 tmljR tljR1) = (true, codesR tmljR (views (seg TTljR selljR 400 tmljR tljR1)), vwljR 1) := by kernel_rfl
theorem vcsljR2 : ∀ v ∈ vwljR 2, VC TTljR invljR msljR 2 tljR2 v := all_cons vcljR2_0 (all_cons vcljR2_1 (all_cons vcljR2_2 (all_nil)))
theorem okljR2 : cfgOk tljR2 = true := by kernel_rfl
theorem sgljR2 : segL cListR2.roms cListR2 (seg TTljR selljR 400 tmljR tljR2) = (true, codesR tmljR (views (seg TTljR selljR 400 tmljR tljR2)), vwljR 2) := by kernel_rfl
theorem vcsljR3 : ∀ v ∈ vwljR 3, VC TTljR invljR msljR 3 tljR3 v := all_cons vcljR3_0 (all_cons vcljR3_1 (all_cons vcljR3_2 (all_nil)))
theorem okljR3 : cfgOk tljR3 = true := by kernel_rfl
theorem sgljR3 : segL cListR2.roms cListR2 (seg TTljR selljR 400 tmljR tljR3) = (true, codesR tmljR (views (seg TTljR selljR 400 tmljR tljR3)), vwljR 3) := by kernel_rfl
theorem vcsljR4 : ∀ v ∈ vwljR 4, VC TTljR invljR msljR 4 tljR4 v := all_cons vcgljR4_0.1 (all_cons vcljR4_1 (all_cons vcljR4_2 (all_cons vcljR4_3 (all_cons vcgljR4_0.2.1 (all_cons vcgljR4_0.2.2.1 (all_cons vcljR4_6 (all_cons vcljR4_7 (all_cons vcgljR4_0.2.2.2.1 (all_cons vcgljR4_0.2.2.2.2.1 (all_cons vcljR4_10 (all_cons vcljR4_11 (all_cons vcljR4_12 (all_cons vcgljR4_0.2.2.2.2.2 (all_nil))))))))))))))
theorem okljR4 : cfgOk tljR4 = true := by kernel_rfl
theorem sgljR4 : segL cListR2.roms cListR2 (seg TTljR selljR 400 tmljR tljR4) = (true, codesR tmljR (views (seg TTljR selljR 400 tmljR tljR4)), vwljR 4) := by kernel_rfl
theorem vcsljR5 : ∀ v ∈ vwljR 5, VC TTljR invljR msljR 5 tljR5 v := all_cons vcgljR5_0.1 (all_cons vcljR5_1 (all_cons vcljR5_2 (all_cons vcljR5_3 (all_cons vcgljR5_0.2.1 (all_cons vcgljR5_0.2.2.1 (all_cons vcljR5_6 (all_cons vcljR5_7 (all_cons vcgljR5_0.2.2.2.1 (all_cons vcgljR5_0.2.2.2.2.1 (all_cons vcljR5_10 (all_cons vcljR5_11 (all_cons vcljR5_12 (all_cons vcgljR5_0.2.2.2.2.2 (all_nil))))))))))))))
theorem okljR5 : cfgOk tljR5 = true := by kernel_rfl
theorem sgljR5 : segL cListR2.roms cListR2 (seg TTljR selljR 400 tmljR tljR5) = (true, codesR tmljR (views (seg TTljR selljR 400 tmljR tljR5)), vwljR 5) := by kernel_rfl
theorem lnljR0 : ∀ ρ, Known TTljR (startF 33 cListR2.pat (.lit true :: cListR2.pre)) ρ → invljR 0 ρ.lt → Holds ρ (leanOf (Cfg.pc (startF 33 cListR2.pat (.lit true :: cListR2.pre)))) := by
  intro ρ _ _
  exact (show Holds ρ [] from fun p hp => by cases hp)
theorem lnljR1 : ∀ ρ, Known TTljR tljR1 ρ → invljR 1 ρ.lt → Holds ρ (leanOf (Cfg.pc tljR1)) := by
  intro ρ kn hi
  refine (show Holds ρ [.le (.var .i64 1001) (.lit 9)] from ?_)
  have hi : Nu (ρ.z.rl 0) 0 0 (ρ.i .i64 1001) (ρ.i .u64 1000) ∧ (ρ.z.rl 0).length ≤ 10000 := hi
  have hF : ρ.z.F = oct.Φ := kn.F
  simp only [h_nil, h_cons, d_le, d_eq, d_not, d_var, d_lit, d_cel, d_leq, d_fn, d_and, d_iff, IE.den, LE.den, AL.den, lenV, true_and, and_true, hF, pi2, pi3, pi4, pi5, pi6, pi7, pl1, pi8, pi9, pl3, pi10, pi11, pb1, pl2]
  have h9 := nu9 hi.1
  omega
theorem lnljR2 : ∀ ρ, Known TTljR tljR2 ρ → invljR 2 ρ.lt → Holds ρ (leanOf (Cfg.pc tljR2)) := by
  intro ρ _ _
  exact (show Holds ρ [] from fun p hp => by cases hp)
theorem lnljR3 : ∀ ρ, Known TTljR tljR3 ρ → invljR 3 ρ.lt → Holds ρ (leanOf (Cfg.pc tljR3)) := by
  intro ρ kn hi
  refine (show Holds ρ [.le (.var .i64 1010) (.lit 10000)] from ?_)
  have hi : 1 ≤ (ρ.i .i64 1010) ∧ Tx (ρ.z.rl 0) (ρ.i .i64 1010) (ρ.i .i64 1011) ∧ (ρ.l 1012) = txsT (ρ.z.rl 0) (ρ.i .i64 1010).toNat ∧ (ρ.i .u64 1009) + (ρ.i .i64 1010) = rdV (ρ.z.rl 0) ∧ (rdV (ρ.z.rl 0) ≤ (ρ.i .i64 1) ∨ rdV (ρ.z.rl 0) ≤ 0) ∧ (ρ.z.rl 0).length ≤ 10000 := hi
  have hF : ρ.z.F = oct.Φ := kn.F
  simp only [h_nil, h_cons, d_le, d_eq, d_not, d_var, d_lit, d_cel, d_leq, d_fn, d_and, d_iff, IE.den, LE.den, AL.den, lenV, true_and, and_true, hF, pi2, pi3, pi4, pi5, pi6, pi7, pl1, pi8, pi9, pl3, pi10, pi11, pb1, pl2]
  obtain ⟨hj, t, hw, hn, h1, h2⟩ := hi
  have k1 := tx_le t
  have k2 := tx_rng t
  omega
theorem lnljR4 : ∀ ρ, Known TTljR tljR4 ρ → invljR 4 ρ.lt → Holds ρ (leanOf (Cfg.pc tljR4)) := by
  intro ρ kn hi
  refine (show Holds ρ [.le (.var .i64 1007) (.lit 9)] from ?_)
  have hi : Nu (ρ.z.rl 0) (ρ.i .i64 1003) (ρ.i .i64 1004) (ρ.i .i64 1007) (ρ.i .u64 1008) ∧ Tx (ρ.z.rl 0) 0 (ρ.i .i64 1003) ∧ (ρ.i .u64 1002) = rdV (ρ.z.rl 0) ∧ 1 ≤ (ρ.i .u64 1002) ∧ (rdV (ρ.z.rl 0) ≤ (ρ.i .i64 1) ∨ rdV (ρ.z.rl 0) ≤ 0) ∧ (ρ.z.rl 0).length ≤ 10000 := hi
  have hF : ρ.z.F = oct.Φ := kn.F
  simp only [h_nil, h_cons, d_le, d_eq, d_not, d_var, d_lit, d_cel, d_leq, d_fn, d_and, d_iff, IE.den, LE.den, AL.den, lenV, true_and, and_true, hF, pi2, pi3, pi4, pi5, pi6, pi7, pl1, pi8, pi9, pl3, pi10, pi11, pb1, pl2]
  have h9 := nu9 hi.1
  omega
theorem lnljR5 : ∀ ρ, Known TTljR tljR5 ρ → invljR 5 ρ.lt → Holds ρ (leanOf (Cfg.pc tljR5)) := by
  intro ρ kn hi
  refine (show Holds ρ [.le (.var .i64 1016) (.lit 9), .le (.var .i64 1010) (.lit 10000)] from ?_)
  have hi : 1 ≤ (ρ.i .i64 1010) ∧ Nu (ρ.z.rl 0) (ρ.i .i64 1011) (ρ.i .i64 1013) (ρ.i .i64 1016) (ρ.i .u64 1017) ∧ Tx (ρ.z.rl 0) (ρ.i .i64 1010) (ρ.i .i64 1011) ∧ (ρ.l 1012) = txsT (ρ.z.rl 0) (ρ.i .i64 1010).toNat ∧ (ρ.i .u64 1009) + (ρ.i .i64 1010) = rdV (ρ.z.rl 0) ∧ 1 ≤ (ρ.i .u64 1009) ∧ (rdV (ρ.z.rl 0) ≤ (ρ.i .i64 1) ∨ rdV (ρ.z.rl 0) ≤ 0) ∧ (ρ.z.rl 0).length ≤ 10000 := hi
  have hF : ρ.z.F = oct.Φ := kn.F
  simp only [h_nil, h_cons, d_le, d_eq, d_not, d_var, d_lit, d_cel, d_leq, d_fn, d_and, d_iff, IE.den, LE.den, AL.den, lenV, true_and, and_true, hF, pi2, pi3, pi4, pi5, pi6, pi7, pl1, pi8, pi9, pl3, pi10, pi11, pb1, pl2]
  obtain ⟨hj, u, t, hw, hn, h0, h1, h2⟩ := hi
  have h9 := nu9 u
  have k1 := tx_le t
  have k2 := tx_rng t
  omega
theorem told_ljR : Sx.Told oct.Φ cListR2 := by
  refine told_of (cs := []) (all_nil) (sel := selljR) 400 tmljR invljR msljR vwljR 0 (pc0 := (.lit true :: cListR2.pre)) (by kernel_rfl) (by kernel_rfl) (by kernel_rfl) post_ljR ?_ ?_ ?_ rfl (fun ρ _ h => h.cons (p := .lit true) (by simp only [BE.den])) (fun _ _ _ _ => trivial) ?_
  · intro k C h
    have := lk_mem h
    simp only [tmljR, List.mem_cons, Prod.mk.injEq, List.not_mem_nil, or_false] at this
    rcases this with ⟨rfl, rfl⟩ | ⟨rfl, rfl⟩ | ⟨rfl, rfl⟩ | ⟨rfl, rfl⟩ | ⟨rfl, rfl⟩ | ⟨rfl, rfl⟩
    · exact okljR0
    · exact okljR1
    · exact okljR2
    · exact okljR3
    · exact okljR4
    · exact okljR5
  · intro k C h
    have := lk_mem h
    simp only [tmljR, List.mem_cons, Prod.mk.injEq, List.not_mem_nil, or_false] at this
    rcases this with ⟨rfl, rfl⟩ | ⟨rfl, rfl⟩ | ⟨rfl, rfl⟩ | ⟨rfl, rfl⟩ | ⟨rfl, rfl⟩ | ⟨rfl, rfl⟩
    · exact sgljR0
    · exact sgljR1
    · exact sgljR2
    · exact sgljR3
    · exact sgljR4
    · exact sgljR5
  · intro k C h
    have := lk_mem h
    simp only [tmljR, List.mem_cons, Prod.mk.injEq, List.not_mem_nil, or_false] at this
    rcases this with ⟨rfl, rfl⟩ | ⟨rfl, rfl⟩ | ⟨rfl, rfl⟩ | ⟨rfl, rfl⟩ | ⟨rfl, rfl⟩ | ⟨rfl, rfl⟩
    · exact vcsljR0
    · exact vcsljR1
    · exact vcsljR2
    · exact vcsljR3
    · exact vcsljR4
    · exact vcsljR5
  · intro k C h
    have := lk_mem h
    simp only [tmljR, List.mem_cons, Prod.mk.injEq, List.not_mem_nil, or_false] at this
    rcases this with ⟨rfl, rfl⟩ | ⟨rfl, rfl⟩ | ⟨rfl, rfl⟩ | ⟨rfl, rfl⟩ | ⟨rfl, rfl⟩ | ⟨rfl, rfl⟩
    · exact lnljR0
    · exact lnljR1
    · exact lnljR2
    · exact lnljR3
    · exact lnljR4
    · exact lnljR5
noncomputable section
abbrev TTljN : Tab := T oct.Φ cListN2.roms []
def tljN1 : Cfg := { top := ⟨60, over (opqS 10000 64) [(0, (SV.ptr 0 0)), (4, (SV.int .u64 (IE.var .u64 1000))), (5, (SV.int .i64 (IE.lit 110))), (21, (SV.rom 0 (IE.lit 0) (IE.len (LE.rom 0)) (some (IE.len (LE.rom 0))))), (22, (SV.int .i64 (IE.len (LE.rom 0)))), (23, (SV.int .i64 (IE.var .i64 1001)))], ogt (loopTodo (bodyOf (T oct.Φ [] []) 60) 0), [], false, none⟩, rest := [⟨33, over (opqS 30000 37) [(1, (SV.int .i64 (IE.var .i64 1))), (7, (SV.ptr 0 0))], ogt (callTodo (bodyOf (T oct.Φ [] []) 33) 2 [0, 1, 2, 3, 4, 5]), [], false, none⟩], heap := [(0, .cells [(SV.rom 0 (IE.lit 0) (IE.len (LE.rom 0)) none), (SV.int .i64 (IE.lit 0))] 110)], next := 1, pc := .lit true :: ([] ++ [(BE.le (IE.lit 1) (IE.len (LE.rom 0))), (BE.not (BE.fn 1 (AL.lst (LE.rom 0) (AL.int .i64 (IE.var .i64 1) AL.nil)))), (BE.le (IE.lit 0) (IE.var .i64 1001)), (BE.le (IE.var .i64 1001) (IE.len (LE.rom 0)))] ++ (.and (.lit true) (.lit true)) :: [.le (.var .i64 1001) (.lit 9)]) }
def tljN2 : Cfg := { top := ⟨64, over (opqS 10000 26) [(0, (SV.int .u64 (IE.var .u64 1002))), (1, (SV.func (Go.Fn.func 65) [] [(SV.ptr 0 0)])), (6, (SV.const (Go.Value.slice none 0 0)))], ogt (loopTodo (bodyOf (T oct.Φ [] []) 64) 0), [], false, none⟩, rest := [⟨33, over (opqS 30000 37) [(7, (SV.ptr 0 0))], ogt (callTodo (bodyOf (T oct.Φ [] []) 33) 7 [2, 3, 4, 5, 6, 7]), [], false, none⟩], heap := [(0, .cells [(SV.rom 0 (IE.lit 0) (IE.len (LE.rom 0)) none), (SV.int .i64 (IE.var .i64 1003))] 110)], next := 1, pc := .lit true :: ([] ++ [(BE.not (BE.fn 1 (AL.lst (LE.rom 0) (AL.int .i64 (IE.var .i64 1) AL.nil)))), (BE.le (IE.lit 1) (IE.len (LE.rom 0))), (BE.le (IE.lit 0) (IE.var .i64 1003)), (BE.le (IE.var .i64 1003) (IE.len (LE.rom 0)))]) }
def tljN3 : Cfg := { top := ⟨64, over (opqS 10000 26) [(0, (SV.int .u64 (IE.var .u64 1009))), (1, (SV.func (Go.Fn.func 65) [] [(SV.ptr 0 0)])), (6, (SV.sll 2 3 1 (IE.lit 0) (IE.var .i64 1010) none))], ogt (loopTodo (bodyOf (T oct.Φ [] []) 64) 0), [], false, none⟩, rest := [⟨33, over (opqS 30000 37) [(7, (SV.ptr 0 0))], ogt (callTodo (bodyOf (T oct.Φ [] []) 33) 7 [2, 3, 4, 5, 6, 7]), [], false, none⟩], heap := [(0, .cells [(SV.rom 0 (IE.lit 0) (IE.len (LE.rom 0)) none), (SV.int .i64 (IE.var .i64 1011))] 110), (2, .rowl (LE.var 1012) (IE.var .i64 1010) [CK.str] 9 3 1)], next := 4, pc := .lit true :: ([] ++ [(BE.not (BE.fn 1 (AL.lst (LE.rom 0) (AL.int .i64 (IE.var .i64 1) AL.nil)))), (BE.le (IE.lit 1) (IE.len (LE.rom 0))), (BE.le (IE.lit 0) (IE.var .i64 1010)), (BE.le (IE.lit 0) (IE.var .i64 1011)), (BE.le (IE.var .i64 1011) (IE.len (LE.rom 0)))] ++ (.and (.lit true) (.lit true)) :: [.le (.var .i64 1010) (.lit 10000)]) }
def tljN4 : Cfg := { top := ⟨60, over (opqS 10000 64) [(0, (SV.ptr 0 0)), (4, (SV.int .u64 (IE.var .u64 1008))), (5, (SV.int .i64 (IE.lit 110))), (21, (SV.rom 0 (IE.var .i64 1004) (IE.sub (IE.len (LE.rom 0)) (IE.var .i64 1003)) (some (IE.var .i64 1006)))), (22, (SV.int .i64 (IE.sub (IE.len (LE.rom 0)) (IE.var .i64 1003)))), (23, (SV.int .i64 (IE.var .i64 1007)))], ogt (loopTodo (bodyOf (T oct.Φ [] []) 60) 0), [], false, none⟩, rest := [⟨62, over (opqS 30000 48) [(0, (SV.ptr 0 0))], ogt (callTodo (bodyOf (T oct.Φ [] []) 62) 1 [1, 2, 3, 4, 5, 6]), [], false, none⟩, ⟨65, over (opqS 50000 6) [], ogt (callTodo (bodyOf (T oct.Φ [] []) 65) 1 [0, 1, 2, 3, 4]), [], false, none⟩, ⟨64, over (opqS 70000 26) [(0, (SV.int .u64 (IE.var .u64 1002))), (1, (SV.func (Go.Fn.func 65) [] [(SV.ptr 0 0)])), (6, (SV.const (Go.Value.slice none 0 0)))], ogt (callTodo (bodyOf (T oct.Φ [] []) 64) 4 [1, 2, 3, 4, 5, 6]), [], false, none⟩, ⟨33, over (opqS 90000 37) [(7, (SV.ptr 0 0))], ogt (callTodo (bodyOf (T oct.Φ [] []) 33) 7 [2, 3, 4, 5, 6, 7]), [], false, none⟩], heap := [(0, .cells [(SV.rom 0 (IE.lit 0) (IE.len (LE.rom 0)) none), (SV.int .i64 (IE.var .i64 1003))] 110)], next := 1, pc := .lit true :: ([.le (.var .i64 1004) (.var .i64 1003)] ++ [(BE.le (IE.lit 1) (IE.len (LE.rom 0))), (BE.not (BE.fn 1 (AL.lst (LE.rom 0) (AL.int .i64 (IE.var .i64 1) AL.nil)))), (BE.not (BE.le (IE.var .u64 1002) (IE.lit 0))), (BE.le (IE.lit 0) (IE.var .i64 1003)), (BE.le (IE.var .i64 1003) (IE.len (LE.rom 0))), (BE.le (IE.lit 0) (IE.var .i64 1004)), (BE.le (IE.lit 0) (IE.var .i64 1006)), (BE.le (IE.lit 0) (IE.var .i64 1007))] ++ (.and (.lit true) (.lit true)) :: [.le (.var .i64 1007) (.lit 9)]) }
def tljN5 : Cfg := { top := ⟨60, over (opqS 10000 64) [(0, (SV.ptr 0 0)), (4, (SV.int .u64 (IE.var .u64 1017))), (5, (SV.int .i64 (IE.lit 110))), (21, (SV.rom 0 (IE.var .i64 1013) (IE.sub (IE.len (LE.rom 0)) (IE.var .i64 1011)) (some (IE.var .i64 1015)))), (22, (SV.int .i64 (IE.sub (IE.len (LE.rom 0)) (IE.var .i64 1011)))), (23, (SV.int .i64 (IE.var .i64 1016)))], ogt (loopTodo (bodyOf (T oct.Φ [] []) 60) 0), [], false, none⟩, rest := [⟨62, over (opqS 30000 48) [(0, (SV.ptr 0 0))], ogt (callTodo (bodyOf (T oct.Φ [] []) 62) 1 [1, 2, 3, 4, 5, 6]), [], false, none⟩, ⟨65, over (opqS 50000 6) [], ogt (callTodo (bodyOf (T oct.Φ [] []) 65) 1 [0, 1, 2, 3, 4]), [], false, none⟩, ⟨64, over (opqS 70000 26) [(0, (SV.int .u64 (IE.var .u64 1009))), (1, (SV.func (Go.Fn.func 65) [] [(SV.ptr 0 0)])), (6, (SV.sll 2 3 1 (IE.lit 0) (IE.var .i64 1010) none))], ogt (callTodo (bodyOf (T oct.Φ [] []) 64) 4 [1, 2, 3, 4, 5, 6]), [], false, none⟩, ⟨33, over (opqS 90000 37) [(7, (SV.ptr 0 0))], ogt (callTodo (bodyOf (T oct.Φ [] []) 33) 7 [2, 3, 4, 5, 6, 7]), [], false, none⟩], heap := [(0, .cells [(SV.rom 0 (IE.lit 0) (IE.len (LE.rom 0)) none), (SV.int .i64 (IE.var .i64 1011))] 110), (2, .rowl (LE.var 1012) (IE.var .i64 1010) [CK.str] 9 3 1)], next := 4, pc := .lit true :: ([.le (.var .i64 1013) (.var .i64 1011)] ++ [(BE.le (IE.lit 1) (IE.len (LE.rom 0))), (BE.not (BE.fn 1 (AL.lst (LE.rom 0) (AL.int .i64 (IE.var .i64 1) AL.nil)))), (BE.not (BE.le (IE.var .u64 1009) (IE.lit 0))), (BE.le (IE.lit 0) (IE.var .i64 1010)), (BE.le (IE.lit 0) (IE.var .i64 1011)), (BE.le (IE.var .i64 1011) (IE.len (LE.rom 0))), (BE.le (IE.var .i64 1010) (IE.lit 10000)), (BE.le (IE.lit 0) (IE.var .i64 1013)), (BE.le (IE.lit 0) (IE.var .i64 1015)), (BE.le (IE.lit 0) (IE.var .i64 1016))] ++ (.and (.lit true) (.lit true)) :: [.le (.var .i64 1016) (.lit 9), .le (.var .i64 1010) (.lit 10000)]) }
def tmljN : List (Nat × Cfg) := [(0, startF 33 cListN2.pat (.lit true :: cListN2.pre)), (1, tljN1), (2, tljN2), (3, tljN3), (4, tljN4), (5, tljN5)]
def selljN : Sel := [(60, 1, 1, 1), (64, 1, 769001, 2), (64, 1, 770001, 3), (60, 1, 99073004, 4), (60, 1, 99074004, 5)]
def wljN0_0 : VW := (VW.cut 1 [(BE.lit true), (BE.not (BE.fn 1 (AL.lst (LE.rom 0) (AL.int .i64 (IE.var .i64 1) AL.nil)))), (BE.le (IE.lit 1) (IE.len (LE.rom 0))), (BE.le (IE.len (LE.rom 0)) (IE.lit 10000))] (Sx.Sub.mk [(.i64, (1001, (IE.lit 0))), (.u64, (1000, (IE.lit 0)))] [] [] [] [] []))
def vwljN0 : List VW := [wljN0_0]
def pcljN1_0 : List BE := [(BE.lit true), (BE.le (IE.lit 1) (IE.len (LE.rom 0))), (BE.not (BE.fn 1 (AL.lst (LE.rom 0) (AL.int .i64 (IE.var .i64 1) AL.nil)))), (BE.le (IE.lit 0) (IE.var .i64 1001)), (BE.le (IE.var .i64 1001) (IE.len (LE.rom 0))), (BE.and (BE.lit true) (BE.lit true)), (BE.le (IE.var .i64 1001) (IE.lit 9))]
def pcljN1_1 : List BE := ((BE.not (BE.le (IE.len (LE.rom 0)) (IE.var .i64 1001))) :: pcljN1_0)
def pcljN1_2 : List BE := ((BE.le (IE.var .i64 1001) (IE.lit 0)) :: pcljN1_1)
def pcljN1_3 : List BE := ((BE.not (BE.le (IE.var .i64 1001) (IE.lit 0))) :: pcljN1_1)
def pcljN1_4 : List BE := ((BE.not (BE.le (IE.lit 128) (IE.cel .u8 (LE.rom 0) (IE.var .i64 1001) 0))) :: pcljN1_2)
def pcljN1_5 : List BE := ((BE.not (BE.eq (IE.cel .u8 (LE.rom 0) (IE.var .i64 1001) 0) (IE.lit 0))) :: pcljN1_3)
def pcljN1_6 : List BE := ((BE.le (IE.var .i64 1) (IE.lit 0)) :: pcljN1_4)
def pcljN1_7 : List BE := ((BE.not (BE.le (IE.var .i64 1) (IE.lit 0))) :: pcljN1_4)
def pcljN1_8 : List BE := ((BE.eq (IE.var .i64 1001) (IE.lit 9)) :: pcljN1_5)
def pcljN1_9 : List BE := ((BE.not (BE.eq (IE.var .i64 1001) (IE.lit 9))) :: pcljN1_5)
def pcljN1_10 : List BE := ((BE.le (IE.cel .u8 (LE.rom 0) (IE.var .i64 1001) 0) (IE.lit 1)) :: pcljN1_8)
def pcljN1_11 : List BE := ((BE.not (BE.le (IE.lit 128) (IE.cel .u8 (LE.rom 0) (IE.var .i64 1001) 0))) :: pcljN1_9)
def pcljN1_12 : List BE := ((BE.le (IE.var .i64 1) (IE.lit 0)) :: pcljN1_10)
def pcljN1_13 : List BE := ((BE.not (BE.le (IE.var .i64 1) (IE.lit 0))) :: pcljN1_10)
def pcljN1_14 : List BE := ((BE.le (IE.var .i64 1) (IE.lit 0)) :: pcljN1_11)
def pcljN1_15 : List BE := ((BE.not (BE.le (IE.var .i64 1) (IE.lit 0))) :: pcljN1_11)
def wljN1_0 : VW := (VW.done ((BE.le (IE.len (LE.rom 0)) (IE.var .i64 1001)) :: pcljN1_0) (some [(G.i (IE.fn .i64 11 (AL.lst (LE.rom 0) (AL.int .i64 (IE.var .i64 1) AL.nil))) (IE.lit 0)), (G.i (IE.fn .i64 10 (AL.lst (LE.rom 0) (AL.int .i64 (IE.var .i64 1) AL.nil))) (IE.lit 110))]))
def wljN1_1 : VW := (VW.cut 1 ((BE.le (IE.lit 128) (IE.cel .u8 (LE.rom 0) (IE.var .i64 1001) 0)) :: pcljN1_2) (Sx.Sub.mk [(.i64, (1001, (IE.add (IE.var .i64 1001) (IE.lit 1)))), (.u64, (1000, (IE.bin BinOp.or .u64 (IE.var .u64 1000) (IE.bin BinOp.shl .u64 (IE.bin BinOp.and .u8 (IE.cel .u8 (LE.rom 0) (IE.var .i64 1001) 0) (IE.lit 127)) (IE.mul (IE.lit 7) (IE.var .i64 1001))))))] [] [] [] [] []))
def wljN1_2 : VW := (VW.cut 2 ((BE.le (IE.bin BinOp.or .u64 (IE.var .u64 1000) (IE.bin BinOp.shl .u64 (IE.bin BinOp.and .u8 (IE.cel .u8 (LE.rom 0) (IE.var .i64 1001) 0) (IE.lit 127)) (IE.mul (IE.lit 7) (IE.var .i64 1001)))) (IE.lit 0)) :: pcljN1_6) (Sx.Sub.mk [(.i64, (1003, (IE.add (IE.lit 0) (IE.add (IE.var .i64 1001) (IE.lit 1))))), (.u64, (1002, (IE.bin BinOp.or .u64 (IE.var .u64 1000) (IE.bin BinOp.shl .u64 (IE.bin BinOp.and .u8 (IE.cel .u8 (LE.rom 0) (IE.var .i64 1001) 0) (IE.lit 127)) (IE.mul (IE.lit 7) (IE.var .i64 1001))))))] [] [] [] [] []))
def wljN1_3 : VW := (VW.done ((BE.not (BE.le (IE.bin BinOp.or .u64 (IE.var .u64 1000) (IE.bin BinOp.shl .u64 (IE.bin BinOp.and .u8 (IE.cel .u8 (LE.rom 0) (IE.var .i64 1001) 0) (IE.lit 127)) (IE.mul (IE.lit 7) (IE.var .i64 1001)))) (IE.lit 0))) :: pcljN1_6) (some [(G.i (IE.fn .i64 11 (AL.lst (LE.rom 0) (AL.int .i64 (IE.var .i64 1) AL.nil))) (IE.lit 0)), (G.i (IE.fn .i64 10 (AL.lst (LE.rom 0) (AL.int .i64 (IE.var .i64 1) AL.nil))) (IE.lit 3))]))
def wljN1_4 : VW := (VW.cut 2 ((BE.le (IE.bin BinOp.or .u64 (IE.var .u64 1000) (IE.bin BinOp.shl .u64 (IE.bin BinOp.and .u8 (IE.cel .u8 (LE.rom 0) (IE.var .i64 1001) 0) (IE.lit 127)) (IE.mul (IE.lit 7) (IE.var .i64 1001)))) (IE.var .i64 1)) :: pcljN1_7) (Sx.Sub.mk [(.i64, (1003, (IE.add (IE.lit 0) (IE.add (IE.var .i64 1001) (IE.lit 1))))), (.u64, (1002, (IE.bin BinOp.or .u64 (IE.var .u64 1000) (IE.bin BinOp.shl .u64 (IE.bin BinOp.and .u8 (IE.cel .u8 (LE.rom 0) (IE.var .i64 1001) 0) (IE.lit 127)) (IE.mul (IE.lit 7) (IE.var .i64 1001))))))] [] [] [] [] []))
def wljN1_5 : VW := (VW.done ((BE.not (BE.le (IE.bin BinOp.or .u64 (IE.var .u64 1000) (IE.bin BinOp.shl .u64 (IE.bin BinOp.and .u8 (IE.cel .u8 (LE.rom 0) (IE.var .i64 1001) 0) (IE.lit 127)) (IE.mul (IE.lit 7) (IE.var .i64 1001)))) (IE.var .i64 1))) :: pcljN1_7) (some [(G.i (IE.fn .i64 11 (AL.lst (LE.rom 0) (AL.int .i64 (IE.var .i64 1) AL.nil))) (IE.lit 0)), (G.i (IE.fn .i64 10 (AL.lst (LE.rom 0) (AL.int .i64 (IE.var .i64 1) AL.nil))) (IE.lit 3))]))
def wljN1_6 : VW := (VW.done ((BE.eq (IE.cel .u8 (LE.rom 0) (IE.var .i64 1001) 0) (IE.lit 0)) :: pcljN1_3) (some [(G.i (IE.fn .i64 11 (AL.lst (LE.rom 0) (AL.int .i64 (IE.var .i64 1) AL.nil))) (IE.lit 0)), (G.i (IE.fn .i64 10 (AL.lst (LE.rom 0) (AL.int .i64 (IE.var .i64 1) AL.nil))) (IE.lit 111))]))
def wljN1_7 : VW := (VW.cut 2 ((BE.le (IE.bin BinOp.or .u64 (IE.var .u64 1000) (IE.bin BinOp.shl .u64 (IE.bin BinOp.and .u8 (IE.cel .u8 (LE.rom 0) (IE.var .i64 1001) 0) (IE.lit 127)) (IE.mul (IE.lit 7) (IE.var .i64 1001)))) (IE.lit 0)) :: pcljN1_12) (Sx.Sub.mk [(.i64, (1003, (IE.add (IE.lit 0) (IE.add (IE.var .i64 1001) (IE.lit 1))))), (.u64, (1002, (IE.bin BinOp.or .u64 (IE.var .u64 1000) (IE.bin BinOp.shl .u64 (IE.bin BinOp.and .u8 (IE.cel .u8 (LE.rom 0) (IE.var .i64 1001) 0) (IE.lit 127)) (IE.mul (IE.lit 7) (IE.var .i64 1001))))))] [] [] [] [] []))
def wljN1_8 : VW := (VW.done ((BE.not (BE.le (IE.bin BinOp.or .u64 (IE.var .u64 1000) (IE.bin BinOp.shl .u64 (IE.bin BinOp.and .u8 (IE.cel .u8 (LE.rom 0) (IE.var .i64 1001) 0) (IE.lit 127)) (IE.mul (IE.lit 7) (IE.var .i64 1001)))) (IE.lit 0))) :: pcljN1_12) (some [(G.i (IE.fn .i64 11 (AL.lst (LE.rom 0) (AL.int .i64 (IE.var .i64 1) AL.nil))) (IE.lit 0)), (G.i (IE.fn .i64 10 (AL.lst (LE.rom 0) (AL.int .i64 (IE.var .i64 1) AL.nil))) (IE.lit 3))]))
def wljN1_9 : VW := (VW.cut 2 ((BE.le (IE.bin BinOp.or .u64 (IE.var .u64 1000) (IE.bin BinOp.shl .u64 (IE.bin BinOp.and .u8 (IE.cel .u8 (LE.rom 0) (IE.var .i64 1001) 0) (IE.lit 127)) (IE.mul (IE.lit 7) (IE.var .i64 1001)))) (IE.var .i64 1)) :: pcljN1_13) (Sx.Sub.mk [(.i64, (1003, (IE.add (IE.lit 0) (IE.add (IE.var .i64 1001) (IE.lit 1))))), (.u64, (1002, (IE.bin BinOp.or .u64 (IE.var .u64 1000) (IE.bin BinOp.shl .u64 (IE.bin BinOp.and .u8 (IE.cel .u8 (LE.rom 0) (IE.var .i64 1001) 0) (IE.lit 127)) (IE.mul (IE.lit 7) (IE.var .i64 1001))))))] [] [] [] [] []))
def wljN1_10 : VW := (VW.done ((BE.not (BE.le (IE.bin BinOp.or .u64 (IE.var .u64 1000) (IE.bin BinOp.shl .u64 (IE.bin BinOp.and .u8 (IE.cel .u8 (LE.rom 0) (IE.var .i64 1001) 0) (IE.lit 127)) (IE.mul (IE.lit 7) (IE.var .i64 1001)))) (IE.var .i64 1))) :: pcljN1_13) (some [(G.i (IE.fn .i64 11 (AL.lst (LE.rom 0) (AL.int .i64 (IE.var .i64 1) AL.nil))) (IE.lit 0)), (G.i (IE.fn .i64 10 (AL.lst (LE.rom 0) (AL.int .i64 (IE.var .i64 1) AL.nil))) (IE.lit 3))]))
def wljN1_11 : VW := (VW.done ((BE.not (BE.le (IE.cel .u8 (LE.rom 0) (IE.var .i64 1001) 0) (IE.lit 1))) :: pcljN1_8) (some [(G.i (IE.fn .i64 11 (AL.lst (LE.rom 0) (AL.int .i64 (IE.var .i64 1) AL.nil))) (IE.lit 0)), (G.i (IE.fn .i64 10 (AL.lst (LE.rom 0) (AL.int .i64 (IE.var .i64 1) AL.nil))) (IE.lit 111))]))
def wljN1_12 : VW := (VW.cut 1 ((BE.le (IE.lit 128) (IE.cel .u8 (LE.rom 0) (IE.var .i64 1001) 0)) :: pcljN1_9) (Sx.Sub.mk [(.i64, (1001, (IE.add (IE.var .i64 1001) (IE.lit 1)))), (.u64, (1000, (IE.bin BinOp.or .u64 (IE.var .u64 1000) (IE.bin BinOp.shl .u64 (IE.bin BinOp.and .u8 (IE.cel .u8 (LE.rom 0) (IE.var .i64 1001) 0) (IE.lit 127)) (IE.mul (IE.lit 7) (IE.var .i64 1001))))))] [] [] [] [] []))
def wljN1_13 : VW := (VW.cut 2 ((BE.le (IE.bin BinOp.or .u64 (IE.var .u64 1000) (IE.bin BinOp.shl .u64 (IE.bin BinOp.and .u8 (IE.cel .u8 (LE.rom 0) (IE.var .i64 1001) 0) (IE.lit 127)) (IE.mul (IE.lit 7) (IE.var .i64 1001)))) (IE.lit 0)) :: pcljN1_14) (Sx.Sub.mk [(.i64, (1003, (IE.add (IE.lit 0) (IE.add (IE.var .i64 1001) (IE.lit 1))))), (.u64, (1002, (IE.bin BinOp.or .u64 (IE.var .u64 1000) (IE.bin BinOp.shl .u64 (IE.bin BinOp.and .u8 (IE.cel .u8 (LE.rom 0) (IE.var .i64 1001) 0) (IE.lit 127)) (IE.mul (IE.lit 7) (IE.var .i64 1001))))))] [] [] [] [] []))
def wljN1_14 : VW := (VW.done ((BE.not (BE.le (IE.bin BinOp.or .u64 (IE.var .u64 1000) (IE.bin BinOp.shl .u64 (IE.bin BinOp.and .u8 (IE.cel .u8 (LE.rom 0) (IE.var .i64 1001) 0) (IE.lit 127)) (IE.mul (IE.lit 7) (IE.var .i64 1001)))) (IE.lit 0))) :: pcljN1_14) (some [(G.i (IE.fn .i64 11 (AL.lst (LE.rom 0) (AL.int .i64 (IE.var .i64 1) AL.nil))) (IE.lit 0)), (G.i (IE.fn .i64 10 (AL.lst (LE.rom 0) (AL.int .i64 (IE.var .i64 1) AL.nil))) (IE.lit 3))]))
def wljN1_15 : VW := (VW.cut 2 ((BE.le (IE.bin BinOp.or .u64 (IE.var .u64 1000) (IE.bin BinOp.shl .u64 (IE.bin BinOp.and .u8 (IE.cel .u8 (LE.rom 0) (IE.var .i64 1001) 0) (IE.lit 127)) (IE.mul (IE.lit 7) (IE.var .i64 1001)))) (IE.var .i64 1)) :: pcljN1_15) (Sx.Sub.mk [(.i64, (1003, (IE.add (IE.lit 0) (IE.add (IE.var .i64 1001) (IE.lit 1))))), (.u64, (1002, (IE.bin BinOp.or .u64 (IE.var .u64 1000) (IE.bin BinOp.shl .u64 (IE.bin BinOp.and .u8 (IE.cel .u8 (LE.rom 0) (IE.var .i64 1001) 0) (IE.lit 127)) (IE.mul (IE.lit 7) (IE.var .i64 1001))))))] [] [] [] [] []))
def wljN1_16 : VW := (VW.done ((BE.not (BE.le (IE.bin BinOp.or .u64 (IE.var .u64 1000) (IE.bin BinOp.shl .u64 (IE.bin BinOp.and .u8 (IE.cel .u8 (LE.rom 0) (IE.var .i64 1001) 0) (IE.lit 127)) (IE.mul (IE.lit 7) (IE.var .i64 1001)))) (IE.var .i64 1))) :: pcljN1_15) (some [(G.i (IE.fn .i64 11 (AL.lst (LE.rom 0) (AL.int .i64 (IE.var .i64 1) AL.nil))) (IE.lit 0)), (G.i (IE.fn .i64 10 (AL.lst (LE.rom 0) (AL.int .i64 (IE.var .i64 1) AL.nil))) (IE.lit 3))]))
def vwljN1 : List VW := [wljN1_0, wljN1_1, wljN1_2, wljN1_3, wljN1_4, wljN1_5, wljN1_6, wljN1_7, wljN1_8, wljN1_9, wljN1_10, wljN1_11, wljN1_12, wljN1_13, wljN1_14, wljN1_15, wljN1_16]
def pcljN2_0 : List BE := [(BE.lit true), (BE.not (BE.fn 1 (AL.lst (LE.rom 0) (AL.int .i64 (IE.var .i64 1) AL.nil)))), (BE.le (IE.lit 1) (IE.len (LE.rom 0))), (BE.le (IE.lit 0) (IE.var .i64 1003)), (BE.le (IE.var .i64 1003) (IE.len (LE.rom 0)))]
def pcljN2_1 : List BE := ((BE.not (BE.le (IE.var .u64 1002) (IE.lit 0))) :: pcljN2_0)
def wljN2_0 : VW := (VW.done ((BE.le (IE.var .u64 1002) (IE.lit 0)) :: pcljN2_0) (some [(G.i (IE.fn .i64 11 (AL.lst (LE.rom 0) (AL.int .i64 (IE.var .i64 1) AL.nil))) (IE.var .i64 1003)), (G.i (IE.fn .i64 10 (AL.lst (LE.rom 0) (AL.int .i64 (IE.var .i64 1) AL.nil))) (IE.lit 0))]))
def wljN2_1 : VW := (VW.cut 4 ((BE.eq (IE.len (LE.rom 0)) (IE.var .i64 1003)) :: pcljN2_1) (Sx.Sub.mk [(.i64, (1003, (IE.var .i64 1003))), (.u64, (1002, (IE.var .u64 1002))), (.i64, (1007, (IE.lit 0))), (.i64, (1006, (IE.lit 0))), (.i64, (1004, (IE.lit 0))), (.u64, (1008, (IE.lit 0)))] [] [] [] [] []))
def wljN2_2 : VW := (VW.cut 4 ((BE.not (BE.eq (IE.len (LE.rom 0)) (IE.var .i64 1003))) :: pcljN2_1) (Sx.Sub.mk [(.i64, (1003, (IE.var .i64 1003))), (.u64, (1002, (IE.var .u64 1002))), (.i64, (1007, (IE.lit 0))), (.i64, (1006, (IE.sub (IE.len (LE.rom 0)) (IE.var .i64 1003)))), (.i64, (1004, (IE.var .i64 1003))), (.u64, (1008, (IE.lit 0)))] [] [] [] [] []))
def vwljN2 : List VW := [wljN2_0, wljN2_1, wljN2_2]
def pcljN3_0 : List BE := [(BE.lit true), (BE.not (BE.fn 1 (AL.lst (LE.rom 0) (AL.int .i64 (IE.var .i64 1) AL.nil)))), (BE.le (IE.lit 1) (IE.len (LE.rom 0))), (BE.le (IE.lit 0) (IE.var .i64 1010)), (BE.le (IE.lit 0) (IE.var .i64 1011)), (BE.le (IE.var .i64 1011) (IE.len (LE.rom 0))), (BE.and (BE.lit true) (BE.lit true)), (BE.le (IE.var .i64 1010) (IE.lit 10000))]
def pcljN3_1 : List BE := ((BE.not (BE.le (IE.var .u64 1009) (IE.lit 0))) :: pcljN3_0)
def wljN3_0 : VW := (VW.done ((BE.le (IE.var .u64 1009) (IE.lit 0)) :: pcljN3_0) (some [(G.b (BE.lit true) (BE.lit false))]))
def wljN3_1 : VW := (VW.cut 5 ((BE.eq (IE.len (LE.rom 0)) (IE.var .i64 1011)) :: pcljN3_1) (Sx.Sub.mk [(.i64, (1011, (IE.var .i64 1011))), (.i64, (1010, (IE.var .i64 1010))), (.u64, (1009, (IE.var .u64 1009))), (.i64, (1016, (IE.lit 0))), (.i64, (1015, (IE.lit 0))), (.i64, (1013, (IE.lit 0))), (.u64, (1017, (IE.lit 0)))] [] [(1012, (LE.var 1012))] [] [] []))
def wljN3_2 : VW := (VW.cut 5 ((BE.not (BE.eq (IE.len (LE.rom 0)) (IE.var .i64 1011))) :: pcljN3_1) (Sx.Sub.mk [(.i64, (1011, (IE.var .i64 1011))), (.i64, (1010, (IE.var .i64 1010))), (.u64, (1009, (IE.var .u64 1009))), (.i64, (1016, (IE.lit 0))), (.i64, (1015, (IE.sub (IE.len (LE.rom 0)) (IE.var .i64 1011)))), (.i64, (1013, (IE.var .i64 1011))), (.u64, (1017, (IE.lit 0)))] [] [(1012, (LE.var 1012))] [] [] []))
def vwljN3 : List VW := [wljN3_0, wljN3_1, wljN3_2]
def pcljN4_0 : List BE := [(BE.lit true), (BE.le (IE.var .i64 1004) (IE.var .i64 1003)), (BE.le (IE.lit 1) (IE.len (LE.rom 0))), (BE.not (BE.fn 1 (AL.lst (LE.rom 0) (AL.int .i64 (IE.var .i64 1) AL.nil)))), (BE.not (BE.le (IE.var .u64 1002) (IE.lit 0))), (BE.le (IE.lit 0) (IE.var .i64 1003)), (BE.le (IE.var .i64 1003) (IE.len (LE.rom 0))), (BE.le (IE.lit 0) (IE.var .i64 1004)), (BE.le (IE.lit 0) (IE.var .i64 1006)), (BE.le (IE.lit 0) (IE.var .i64 1007)), (BE.and (BE.lit true) (BE.lit true)), (BE.le (IE.var .i64 1007) (IE.lit 9))]
def pcljN4_1 : List BE := ((BE.not (BE.le (IE.sub (IE.len (LE.rom 0)) (IE.var .i64 1003)) (IE.var .i64 1007))) :: pcljN4_0)
def pcljN4_2 : List BE := ((BE.le (IE.var .i64 1007) (IE.lit 0)) :: pcljN4_1)
def pcljN4_3 : List BE := ((BE.not (BE.le (IE.var .i64 1007) (IE.lit 0))) :: pcljN4_1)
def pcljN4_4 : List BE := ((BE.not (BE.le (IE.lit 128) (IE.cel .u8 (LE.rom 0) (IE.add (IE.var .i64 1004) (IE.var .i64 1007)) 0))) :: pcljN4_2)
def pcljN4_5 : List BE := ((BE.not (BE.eq (IE.cel .u8 (LE.rom 0) (IE.add (IE.var .i64 1004) (IE.var .i64 1007)) 0) (IE.lit 0))) :: pcljN4_3)
def pcljN4_6 : List BE := ((BE.le (IE.bin BinOp.or .u64 (IE.var .u64 1008) (IE.bin BinOp.shl .u64 (IE.bin BinOp.and .u8 (IE.cel .u8 (LE.rom 0) (IE.add (IE.var .i64 1004) (IE.var .i64 1007)) 0) (IE.lit 127)) (IE.mul (IE.lit 7) (IE.var .i64 1007)))) (IE.sub (IE.len (LE.rom 0)) (IE.add (IE.var .i64 1003) (IE.add (IE.var .i64 1007) (IE.lit 1))))) :: pcljN4_4)
def pcljN4_7 : List BE := ((BE.eq (IE.var .i64 1007) (IE.lit 9)) :: pcljN4_5)
def pcljN4_8 : List BE := ((BE.not (BE.eq (IE.var .i64 1007) (IE.lit 9))) :: pcljN4_5)
def pcljN4_9 : List BE := ((BE.le (IE.cel .u8 (LE.rom 0) (IE.add (IE.var .i64 1004) (IE.var .i64 1007)) 0) (IE.lit 1)) :: pcljN4_7)
def pcljN4_10 : List BE := ((BE.not (BE.le (IE.lit 128) (IE.cel .u8 (LE.rom 0) (IE.add (IE.var .i64 1004) (IE.var .i64 1007)) 0))) :: pcljN4_8)
def pcljN4_11 : List BE := ((BE.le (IE.bin BinOp.or .u64 (IE.var .u64 1008) (IE.bin BinOp.shl .u64 (IE.bin BinOp.and .u8 (IE.cel .u8 (LE.rom 0) (IE.add (IE.var .i64 1004) (IE.var .i64 1007)) 0) (IE.lit 127)) (IE.mul (IE.lit 7) (IE.var .i64 1007)))) (IE.sub (IE.len (LE.rom 0)) (IE.add (IE.var .i64 1003) (IE.add (IE.var .i64 1007) (IE.lit 1))))) :: pcljN4_9)
def pcljN4_12 : List BE := ((BE.le (IE.bin BinOp.or .u64 (IE.var .u64 1008) (IE.bin BinOp.shl .u64 (IE.bin BinOp.and .u8 (IE.cel .u8 (LE.rom 0) (IE.add (IE.var .i64 1004) (IE.var .i64 1007)) 0) (IE.lit 127)) (IE.mul (IE.lit 7) (IE.var .i64 1007)))) (IE.sub (IE.len (LE.rom 0)) (IE.add (IE.var .i64 1003) (IE.add (IE.var .i64 1007) (IE.lit 1))))) :: pcljN4_10)
def wljN4_0 : VW := (VW.done ((BE.le (IE.sub (IE.len (LE.rom 0)) (IE.var .i64 1003)) (IE.var .i64 1007)) :: pcljN4_0) (some [(G.i (IE.fn .i64 11 (AL.lst (LE.rom 0) (AL.int .i64 (IE.var .i64 1) AL.nil))) (IE.lit 0)), (G.i (IE.fn .i64 10 (AL.lst (LE.rom 0) (AL.int .i64 (IE.var .i64 1) AL.nil))) (IE.lit 110))]))
def wljN4_1 : VW := (VW.cut 4 ((BE.le (IE.lit 128) (IE.cel .u8 (LE.rom 0) (IE.add (IE.var .i64 1004) (IE.var .i64 1007)) 0)) :: pcljN4_2) (Sx.Sub.mk [(.i64, (1003, (IE.var .i64 1003))), (.u64, (1002, (IE.var .u64 1002))), (.i64, (1007, (IE.add (IE.var .i64 1007) (IE.lit 1)))), (.i64, (1006, (IE.var .i64 1006))), (.i64, (1004, (IE.var .i64 1004))), (.u64, (1008, (IE.bin BinOp.or .u64 (IE.var .u64 1008) (IE.bin BinOp.shl .u64 (IE.bin BinOp.and .u8 (IE.cel .u8 (LE.rom 0) (IE.add (IE.var .i64 1004) (IE.var .i64 1007)) 0) (IE.lit 127)) (IE.mul (IE.lit 7) (IE.var .i64 1007))))))] [] [] [] [] []))
def wljN4_2 : VW := (VW.cut 3 ((BE.eq (IE.add (IE.add (IE.var .i64 1003) (IE.add (IE.var .i64 1007) (IE.lit 1))) (IE.bin BinOp.or .u64 (IE.var .u64 1008) (IE.bin BinOp.shl .u64 (IE.bin BinOp.and .u8 (IE.cel .u8 (LE.rom 0) (IE.add (IE.var .i64 1004) (IE.var .i64 1007)) 0) (IE.lit 127)) (IE.mul (IE.lit 7) (IE.var .i64 1007))))) (IE.add (IE.var .i64 1003) (IE.add (IE.var .i64 1007) (IE.lit 1)))) :: pcljN4_6) (Sx.Sub.mk [(.i64, (1011, (IE.add (IE.add (IE.var .i64 1003) (IE.add (IE.var .i64 1007) (IE.lit 1))) (IE.bin BinOp.or .u64 (IE.var .u64 1008) (IE.bin BinOp.shl .u64 (IE.bin BinOp.and .u8 (IE.cel .u8 (LE.rom 0) (IE.add (IE.var .i64 1004) (IE.var .i64 1007)) 0) (IE.lit 127)) (IE.mul (IE.lit 7) (IE.var .i64 1007))))))), (.i64, (1010, (IE.lit 1))), (.u64, (1009, (IE.sub (IE.var .u64 1002) (IE.lit 1))))] [] [(1012, (LE.one (AL.lst (LE.take (LE.rom 0) (IE.bin BinOp.or .u64 (IE.var .u64 1008) (IE.bin BinOp.shl .u64 (IE.bin BinOp.and .u8 (IE.cel .u8 (LE.rom 0) (IE.add (IE.var .i64 1004) (IE.var .i64 1007)) 0) (IE.lit 127)) (IE.mul (IE.lit 7) (IE.var .i64 1007))))) AL.nil)))] [] [] []))
def wljN4_3 : VW := (VW.cut 3 ((BE.not (BE.eq (IE.add (IE.add (IE.var .i64 1003) (IE.add (IE.var .i64 1007) (IE.lit 1))) (IE.bin BinOp.or .u64 (IE.var .u64 1008) (IE.bin BinOp.shl .u64 (IE.bin BinOp.and .u8 (IE.cel .u8 (LE.rom 0) (IE.add (IE.var .i64 1004) (IE.var .i64 1007)) 0) (IE.lit 127)) (IE.mul (IE.lit 7) (IE.var .i64 1007))))) (IE.add (IE.var .i64 1003) (IE.add (IE.var .i64 1007) (IE.lit 1))))) :: pcljN4_6) (Sx.Sub.mk [(.i64, (1011, (IE.add (IE.add (IE.var .i64 1003) (IE.add (IE.var .i64 1007) (IE.lit 1))) (IE.bin BinOp.or .u64 (IE.var .u64 1008) (IE.bin BinOp.shl .u64 (IE.bin BinOp.and .u8 (IE.cel .u8 (LE.rom 0) (IE.add (IE.var .i64 1004) (IE.var .i64 1007)) 0) (IE.lit 127)) (IE.mul (IE.lit 7) (IE.var .i64 1007))))))), (.i64, (1010, (IE.lit 1))), (.u64, (1009, (IE.sub (IE.var .u64 1002) (IE.lit 1))))] [] [(1012, (LE.one (AL.lst (LE.take (LE.drop (LE.rom 0) (IE.add (IE.var .i64 1003) (IE.add (IE.var .i64 1007) (IE.lit 1)))) (IE.bin BinOp.or .u64 (IE.var .u64 1008) (IE.bin BinOp.shl .u64 (IE.bin BinOp.and .u8 (IE.cel .u8 (LE.rom 0) (IE.add (IE.var .i64 1004) (IE.var .i64 1007)) 0) (IE.lit 127)) (IE.mul (IE.lit 7) (IE.var .i64 1007))))) AL.nil)))] [] [] []))
def wljN4_4 : VW := (VW.done ((BE.not (BE.le (IE.bin BinOp.or .u64 (IE.var .u64 1008) (IE.bin BinOp.shl .u64 (IE.bin BinOp.and .u8 (IE.cel .u8 (LE.rom 0) (IE.add (IE.var .i64 1004) (IE.var .i64 1007)) 0) (IE.lit 127)) (IE.mul (IE.lit 7) (IE.var .i64 1007)))) (IE.sub (IE.len (LE.rom 0)) (IE.add (IE.var .i64 1003) (IE.add (IE.var .i64 1007) (IE.lit 1)))))) :: pcljN4_4) (some [(G.i (IE.fn .i64 11 (AL.lst (LE.rom 0) (AL.int .i64 (IE.var .i64 1) AL.nil))) (IE.lit 0)), (G.i (IE.fn .i64 10 (AL.lst (LE.rom 0) (AL.int .i64 (IE.var .i64 1) AL.nil))) (IE.lit 110))]))
def wljN4_5 : VW := (VW.done ((BE.eq (IE.cel .u8 (LE.rom 0) (IE.add (IE.var .i64 1004) (IE.var .i64 1007)) 0) (IE.lit 0)) :: pcljN4_3) (some [(G.i (IE.fn .i64 11 (AL.lst (LE.rom 0) (AL.int .i64 (IE.var .i64 1) AL.nil))) (IE.lit 0)), (G.i (IE.fn .i64 10 (AL.lst (LE.rom 0) (AL.int .i64 (IE.var .i64 1) AL.nil))) (IE.lit 111))]))
def wljN4_6 : VW := (VW.cut 3 ((BE.eq (IE.add (IE.add (IE.var .i64 1003) (IE.add (IE.var .i64 1007) (IE.lit 1))) (IE.bin BinOp.or .u64 (IE.var .u64 1008) (IE.bin BinOp.shl .u64 (IE.bin BinOp.and .u8 (IE.cel .u8 (LE.rom 0) (IE.add (IE.var .i64 1004) (IE.var .i64 1007)) 0) (IE.lit 127)) (IE.mul (IE.lit 7) (IE.var .i64 1007))))) (IE.add (IE.var .i64 1003) (IE.add (IE.var .i64 1007) (IE.lit 1)))) :: pcljN4_11) (Sx.Sub.mk [(.i64, (1011, (IE.add (IE.add (IE.var .i64 1003) (IE.add (IE.var .i64 1007) (IE.lit 1))) (IE.bin BinOp.or .u64 (IE.var .u64 1008) (IE.bin BinOp.shl .u64 (IE.bin BinOp.and .u8 (IE.cel .u8 (LE.rom 0) (IE.add (IE.var .i64 1004) (IE.var .i64 1007)) 0) (IE.lit 127)) (IE.mul (IE.lit 7) (IE.var .i64 1007))))))), (.i64, (1010, (IE.lit 1))), (.u64, (1009, (IE.sub (IE.var .u64 1002) (IE.lit 1))))] [] [(1012, (LE.one (AL.lst (LE.take (LE.rom 0) (IE.bin BinOp.or .u64 (IE.var .u64 1008) (IE.bin BinOp.shl .u64 (IE.bin BinOp.and .u8 (IE.cel .u8 (LE.rom 0) (IE.add (IE.var .i64 1004) (IE.var .i64 1007)) 0) (IE.lit 127)) (IE.mul (IE.lit 7) (IE.var .i64 1007))))) AL.nil)))] [] [] []))
def wljN4_7 : VW := (VW.cut 3 ((BE.not (BE.eq (IE.add (IE.add (IE.var .i64 1003) (IE.add (IE.var .i64 1007) (IE.lit 1))) (IE.bin BinOp.or .u64 (IE.var .u64 1008) (IE.bin BinOp.shl .u64 (IE.bin BinOp.and .u8 (IE.cel .u8 (LE.rom 0) (IE.add (IE.var .i64 1004) (IE.var .i64 1007)) 0) (IE.lit 127)) (IE.mul (IE.lit 7) (IE.var .i64 1007))))) (IE.add (IE.var .i64 1003) (IE.add (IE.var .i64 1007) (IE.lit 1))))) :: pcljN4_11) (Sx.Sub.mk [(.i64, (1011, (IE.add (IE.add (IE.var .i64 1003) (IE.add (IE.var .i64 1007) (IE.lit 1))) (IE.bin BinOp.or .u64 (IE.var .u64 1008) (IE.bin BinOp.shl .u64 (IE.bin BinOp.and .u8 (IE.cel .u8 (LE.rom 0) (IE.add (IE.var .i64 1004) (IE.var .i64 1007)) 0) (IE.lit 127)) (IE.mul (IE.lit 7) (IE.var .i64 1007))))))), (.i64, (1010, (IE.lit 1))), (.u64, (1009, (IE.sub (IE.var .u64 1002) (IE.lit 1))))] [] [(1012, (LE.one (AL.lst (LE.take (LE.drop (LE.rom 0) (IE.add (IE.var .i64 1003) (IE.add (IE.var .i64 1007) (IE.lit 1)))) (IE.bin BinOp.or .u64 (IE.var .u64 1008) (IE.bin BinOp.shl .u64 (IE.bin BinOp.and .u8 (IE.cel .u8 (LE.rom 0) (IE.add (IE.var .i64 1004) (IE.var .i64 1007)) 0) (IE.lit 127)) (IE.mul (IE.lit 7) (IE.var .i64 1007))))) AL.nil)))] [] [] []))
def wljN4_8 : VW := (VW.done ((BE.not (BE.le (IE.bin BinOp.or .u64 (IE.var .u64 1008) (IE.bin BinOp.shl .u64 (IE.bin BinOp.and .u8 (IE.cel .u8 (LE.rom 0) (IE.add (IE.var .i64 1004) (IE.var .i64 1007)) 0) (IE.lit 127)) (IE.mul (IE.lit 7) (IE.var .i64 1007)))) (IE.sub (IE.len (LE.rom 0)) (IE.add (IE.var .i64 1003) (IE.add (IE.var .i64 1007) (IE.lit 1)))))) :: pcljN4_9) (some [(G.i (IE.fn .i64 11 (AL.lst (LE.rom 0) (AL.int .i64 (IE.var .i64 1) AL.nil))) (IE.lit 0)), (G.i (IE.fn .i64 10 (AL.lst (LE.rom 0) (AL.int .i64 (IE.var .i64 1) AL.nil))) (IE.lit 110))]))
def wljN4_9 : VW := (VW.done ((BE.not (BE.le (IE.cel .u8 (LE.rom 0) (IE.add (IE.var .i64 1004) (IE.var .i64 1007)) 0) (IE.lit 1))) :: pcljN4_7) (some [(G.i (IE.fn .i64 11 (AL.lst (LE.rom 0) (AL.int .i64 (IE.var .i64 1) AL.nil))) (IE.lit 0)), (G.i (IE.fn .i64 10 (AL.lst (LE.rom 0) (AL.int .i64 (IE.var .i64 1) AL.nil))) (IE.lit 111))]))
def wljN4_10 : VW := (VW.cut 4 ((BE.le (IE.lit 128) (IE.cel .u8 (LE.rom 0) (IE.add (IE.var .i64 1004) (IE.var .i64 1007)) 0)) :: pcljN4_8) (Sx.Sub.mk [(.i64, (1003, (IE.var .i64 1003))), (.u64, (1002, (IE.var .u64 1002))), (.i64, (1007, (IE.add (IE.var .i64 1007) (IE.lit 1)))), (.i64, (1006, (IE.var .i64 1006))), (.i64, (1004, (IE.var .i64 1004))), (.u64, (1008, (IE.bin BinOp.or .u64 (IE.var .u64 1008) (IE.bin BinOp.shl .u64 (IE.bin BinOp.and .u8 (IE.cel .u8 (LE.rom 0) (IE.add (IE.var .i64 1004) (IE.var .i64 1007)) 0) (IE.lit 127)) (IE.mul (IE.lit 7) (IE.var .i64 1007))))))] [] [] [] [] []))
def wljN4_11 : VW := (VW.cut 3 ((BE.eq (IE.add (IE.add (IE.var .i64 1003) (IE.add (IE.var .i64 1007) (IE.lit 1))) (IE.bin BinOp.or .u64 (IE.var .u64 1008) (IE.bin BinOp.shl .u64 (IE.bin BinOp.and .u8 (IE.cel .u8 (LE.rom 0) (IE.add (IE.var .i64 1004) (IE.var .i64 1007)) 0) (IE.lit 127)) (IE.mul (IE.lit 7) (IE.var .i64 1007))))) (IE.add (IE.var .i64 1003) (IE.add (IE.var .i64 1007) (IE.lit 1)))) :: pcljN4_12) (Sx.Sub.mk [(.i64, (1011, (IE.add (IE.add (IE.var .i64 1003) (IE.add (IE.var .i64 1007) (IE.lit 1))) (IE.bin BinOp.or .u64 (IE.var .u64 1008) (IE.bin BinOp.shl .u64 (IE.bin BinOp.and .u8 (IE.cel .u8 (LE.rom 0) (IE.add (IE.var .i64 1004) (IE.var .i64 1007)) 0) (IE.lit 127)) (IE.mul (IE.lit 7) (IE.var .i64 1007))))))), (.i64, (1010, (IE.lit 1))), (.u64, (1009, (IE.sub (IE.var .u64 1002) (IE.lit 1))))] [] [(1012, (LE.one (AL.lst (LE.take (LE.rom 0) (IE.bin BinOp.or .u64 (IE.var .u64 1008) (IE.bin BinOp.shl .u64 (IE.bin BinOp.and .u8 (IE.cel .u8 (LE.rom 0) (IE.add (IE.var .i64 1004) (IE.var .i64 1007)) 0) (IE.lit 127)) (IE.mul (IE.lit 7) (IE.var .i64 1007))))) AL.nil)))] [] [] []))
def wljN4_12 : VW := (VW.cut 3 ((BE.not (BE.eq (IE.add (IE.add (IE.var .i64 1003) (IE.add (IE.var .i64 1007) (IE.lit 1))) (IE.bin BinOp.or .u64 (IE.var .u64 1008) (IE.bin BinOp.shl .u64 (IE.bin BinOp.and .u8 (IE.cel .u8 (LE.rom 0) (IE.add (IE.var .i64 1004) (IE.var .i64 1007)) 0) (IE.lit 127)) (IE.mul (IE.lit 7) (IE.var .i64 1007))))) (IE.add (IE.var .i64 1003) (IE.add (IE.var .i64 1007) (IE.lit 1))))) :: pcljN4_12) (Sx.Sub.mk [(.i64, (1011, (IE.add (IE.add (IE.var .i64 1003) (IE.add (IE.var .i64 1007) (IE.lit 1))) (IE.bin BinOp.or .u64 (IE.var .u64 1008) (IE.bin BinOp.shl .u64 (IE.bin BinOp.and .u8 (IE.cel .u8 (LE.rom 0) (IE.add (IE.var .i64 1004) (IE.var .i64 1007)) 0) (IE.lit 127)) (IE.mul (IE.lit 7) (IE.var .i64 1007))))))), (.i64, (1010, (IE.lit 1))), (.u64, (1009, (IE.sub (IE.var .u64 1002) (IE.lit 1))))] [] [(1012, (LE.one (AL.lst (LE.take (LE.drop (LE.rom 0) (IE.add (IE.var .i64 1003) (IE.add (IE.var .i64 1007) (IE.lit 1)))) (IE.bin BinOp.or .u64 (IE.var .u64 1008) (IE.bin BinOp.shl .u64 (IE.bin BinOp.and .u8 (IE.cel .u8 (LE.rom 0) (IE.add (IE.var .i64 1004) (IE.var .i64 1007)) 0) (IE.lit 127)) (IE.mul (IE.lit 7) (IE.var .i64 1007))))) AL.nil)))] [] [] []))
def wljN4_13 : VW := (VW.done ((BE.not (BE.le (IE.bin BinOp.or .u64 (IE.var .u64 1008) (IE.bin BinOp.shl .u64 (IE.bin BinOp.and .u8 (IE.cel .u8 (LE.rom 0) (IE.add (IE.var .i64 1004) (IE.var .i64 1007)) 0) (IE.lit 127)) (IE.mul (IE.lit 7) (IE.var .i64 1007)))) (IE.sub (IE.len (LE.rom 0)) (IE.add (IE.var .i64 1003) (IE.add (IE.var .i64 1007) (IE.lit 1)))))) :: pcljN4_10) (some [(G.i (IE.fn .i64 11 (AL.lst (LE.rom 0) (AL.int .i64 (IE.var .i64 1) AL.nil))) (IE.lit 0)), (G.i (IE.fn .i64 10 (AL.lst (LE.rom 0) (AL.int .i64 (IE.var .i64 1) AL.nil))) (IE.lit 110))]))
def vwljN4 : List VW := [wljN4_0, wljN4_1, wljN4_2, wljN4_3, wljN4_4, wljN4_5, wljN4_6, wljN4_7, wljN4_8, wljN4_9, wljN4_10, wljN4_11, wljN4_12, wljN4_13]
def pcljN5_0 : List BE := [(BE.lit true), (BE.le (IE.var .i64 1013) (IE.var .i64 1011)), (BE.le (IE.lit 1) (IE.len (LE.rom 0))), (BE.not (BE.fn 1 (AL.lst (LE.rom 0) (AL.int .i64 (IE.var .i64 1) AL.nil)))), (BE.not (BE.le (IE.var .u64 1009) (IE.lit 0))), (BE.le (IE.lit 0) (IE.var .i64 1010)), (BE.le (IE.lit 0) (IE.var .i64 1011)), (BE.le (IE.var .i64 1011) (IE.len (LE.rom 0))), (BE.le (IE.var .i64 1010) (IE.lit 10000)), (BE.le (IE.lit 0) (IE.var .i64 1013)), (BE.le (IE.lit 0) (IE.var .i64 1015)), (BE.le (IE.lit 0) (IE.var .i64 1016)), (BE.and (BE.lit true) (BE.lit true)), (BE.le (IE.var .i64 1016) (IE.lit 9)), (BE.le (IE.var .i64 1010) (IE.lit 10000))]
def pcljN5_1 : List BE := ((BE.not (BE.le (IE.sub (IE.len (LE.rom 0)) (IE.var .i64 1011)) (IE.var .i64 1016))) :: pcljN5_0)
def pcljN5_2 : List BE := ((BE.le (IE.var .i64 1016) (IE.lit 0)) :: pcljN5_1)
def pcljN5_3 : List BE := ((BE.not (BE.le (IE.var .i64 1016) (IE.lit 0))) :: pcljN5_1)
def pcljN5_4 : List BE := ((BE.not (BE.le (IE.lit 128) (IE.cel .u8 (LE.rom 0) (IE.add (IE.var .i64 1013) (IE.var .i64 1016)) 0))) :: pcljN5_2)
def pcljN5_5 : List BE := ((BE.not (BE.eq (IE.cel .u8 (LE.rom 0) (IE.add (IE.var .i64 1013) (IE.var .i64 1016)) 0) (IE.lit 0))) :: pcljN5_3)
def pcljN5_6 : List BE := ((BE.le (IE.bin BinOp.or .u64 (IE.var .u64 1017) (IE.bin BinOp.shl .u64 (IE.bin BinOp.and .u8 (IE.cel .u8 (LE.rom 0) (IE.add (IE.var .i64 1013) (IE.var .i64 1016)) 0) (IE.lit 127)) (IE.mul (IE.lit 7) (IE.var .i64 1016)))) (IE.sub (IE.len (LE.rom 0)) (IE.add (IE.var .i64 1011) (IE.add (IE.var .i64 1016) (IE.lit 1))))) :: pcljN5_4)
def pcljN5_7 : List BE := ((BE.eq (IE.var .i64 1016) (IE.lit 9)) :: pcljN5_5)
def pcljN5_8 : List BE := ((BE.not (BE.eq (IE.var .i64 1016) (IE.lit 9))) :: pcljN5_5)
def pcljN5_9 : List BE := ((BE.le (IE.cel .u8 (LE.rom 0) (IE.add (IE.var .i64 1013) (IE.var .i64 1016)) 0) (IE.lit 1)) :: pcljN5_7)
def pcljN5_10 : List BE := ((BE.not (BE.le (IE.lit 128) (IE.cel .u8 (LE.rom 0) (IE.add (IE.var .i64 1013) (IE.var .i64 1016)) 0))) :: pcljN5_8)
def pcljN5_11 : List BE := ((BE.le (IE.bin BinOp.or .u64 (IE.var .u64 1017) (IE.bin BinOp.shl .u64 (IE.bin BinOp.and .u8 (IE.cel .u8 (LE.rom 0) (IE.add (IE.var .i64 1013) (IE.var .i64 1016)) 0) (IE.lit 127)) (IE.mul (IE.lit 7) (IE.var .i64 1016)))) (IE.sub (IE.len (LE.rom 0)) (IE.add (IE.var .i64 1011) (IE.add (IE.var .i64 1016) (IE.lit 1))))) :: pcljN5_9)
def pcljN5_12 : List BE := ((BE.le (IE.bin BinOp.or .u64 (IE.var .u64 1017) (IE.bin BinOp.shl .u64 (IE.bin BinOp.and .u8 (IE.cel .u8 (LE.rom 0) (IE.add (IE.var .i64 1013) (IE.var .i64 1016)) 0) (IE.lit 127)) (IE.mul (IE.lit 7) (IE.var .i64 1016)))) (IE.sub (IE.len (LE.rom 0)) (IE.add (IE.var .i64 1011) (IE.add (IE.var .i64 1016) (IE.lit 1))))) :: pcljN5_10)
def wljN5_0 : VW := (VW.done ((BE.le (IE.sub (IE.len (LE.rom 0)) (IE.var .i64 1011)) (IE.var .i64 1016)) :: pcljN5_0) (some [(G.i (IE.fn .i64 11 (AL.lst (LE.rom 0) (AL.int .i64 (IE.var .i64 1) AL.nil))) (IE.lit 0)), (G.i (IE.fn .i64 10 (AL.lst (LE.rom 0) (AL.int .i64 (IE.var .i64 1) AL.nil))) (IE.lit 110))]))
def wljN5_1 : VW := (VW.cut 5 ((BE.le (IE.lit 128) (IE.cel .u8 (LE.rom 0) (IE.add (IE.var .i64 1013) (IE.var .i64 1016)) 0)) :: pcljN5_2) (Sx.Sub.mk [(.i64, (1011, (IE.var .i64 1011))), (.i64, (1010, (IE.var .i64 1010))), (.u64, (1009, (IE.var .u64 1009))), (.i64, (1016, (IE.add (IE.var .i64 1016) (IE.lit 1)))), (.i64, (1015, (IE.var .i64 1015))), (.i64, (1013, (IE.var .i64 1013))), (.u64, (1017, (IE.bin BinOp.or .u64 (IE.var .u64 1017) (IE.bin BinOp.shl .u64 (IE.bin BinOp.and .u8 (IE.cel .u8 (LE.rom 0) (IE.add (IE.var .i64 1013) (IE.var .i64 1016)) 0) (IE.lit 127)) (IE.mul (IE.lit 7) (IE.var .i64 1016))))))] [] [(1012, (LE.var 1012))] [] [] []))
def wljN5_2 : VW := (VW.cut 3 ((BE.eq (IE.add (IE.add (IE.var .i64 1011) (IE.add (IE.var .i64 1016) (IE.lit 1))) (IE.bin BinOp.or .u64 (IE.var .u64 1017) (IE.bin BinOp.shl .u64 (IE.bin BinOp.and .u8 (IE.cel .u8 (LE.rom 0) (IE.add (IE.var .i64 1013) (IE.var .i64 1016)) 0) (IE.lit 127)) (IE.mul (IE.lit 7) (IE.var .i64 1016))))) (IE.add (IE.var .i64 1011) (IE.add (IE.var .i64 1016) (IE.lit 1)))) :: pcljN5_6) (Sx.Sub.mk [(.i64, (1011, (IE.add (IE.add (IE.var .i64 1011) (IE.add (IE.var .i64 1016) (IE.lit 1))) (IE.bin BinOp.or .u64 (IE.var .u64 1017) (IE.bin BinOp.shl .u64 (IE.bin BinOp.and .u8 (IE.cel .u8 (LE.rom 0) (IE.add (IE.var .i64 1013) (IE.var .i64 1016)) 0) (IE.lit 127)) (IE.mul (IE.lit 7) (IE.var .i64 1016))))))), (.i64, (1010, (IE.add (IE.var .i64 1010) (IE.lit 1)))), (.u64, (1009, (IE.sub (IE.var .u64 1009) (IE.lit 1))))] [] [(1012, (LE.cat (LE.var 1012) (LE.one (AL.lst (LE.take (LE.rom 0) (IE.bin BinOp.or .u64 (IE.var .u64 1017) (IE.bin BinOp.shl .u64 (IE.bin BinOp.and .u8 (IE.cel .u8 (LE.rom 0) (IE.add (IE.var .i64 1013) (IE.var .i64 1016)) 0) (IE.lit 127)) (IE.mul (IE.lit 7) (IE.var .i64 1016))))) AL.nil))))] [] [] []))
def wljN5_3 : VW := (VW.cut 3 ((BE.not (BE.eq (IE.add (IE.add (IE.var .i64 1011) (IE.add (IE.var .i64 1016) (IE.lit 1))) (IE.bin BinOp.or .u64 (IE.var .u64 1017) (IE.bin BinOp.shl .u64 (IE.bin BinOp.and .u8 (IE.cel .u8 (LE.rom 0) (IE.add (IE.var .i64 1013) (IE.var .i64 1016)) 0) (IE.lit 127)) (IE.mul (IE.lit 7) (IE.var .i64 1016))))) (IE.add (IE.var .i64 1011) (IE.add (IE.var .i64 1016) (IE.lit 1))))) :: pcljN5_6) (Sx.Sub.mk [(.i64, (1011, (IE.add (IE.add (IE.var .i64 1011) (IE.add (IE.var .i64 1016) (IE.lit 1))) (IE.bin BinOp.or .u64 (IE.var .u64 1017) (IE.bin BinOp.shl .u64 (IE.bin BinOp.and .u8 (IE.cel .u8 (LE.rom 0) (IE.add (IE.var .i64 1013) (IE.var .i64 1016)) 0) (IE.lit 127)) (IE.mul (IE.lit 7) (IE.var .i64 1016))))))), (.i64, (1010, (IE.add (IE.var .i64 1010) (IE.lit 1)))), (.u64, (1009, (IE.sub (IE.var .u64 1009) (IE.lit 1))))] [] [(1012, (LE.cat (LE.var 1012) (LE.one (AL.lst (LE.take (LE.drop (LE.rom 0) (IE.add (IE.var .i64 1011) (IE.add (IE.var .i64 1016) (IE.lit 1)))) (IE.bin BinOp.or .u64 (IE.var .u64 1017) (IE.bin BinOp.shl .u64 (IE.bin BinOp.and .u8 (IE.cel .u8 (LE.rom 0) (IE.add (IE.var .i64 1013) (IE.var .i64 1016)) 0) (IE.lit 127)) (IE.mul (IE.lit 7) (IE.var .i64 1016))))) AL.nil))))] [] [] []))
def wljN5_4 : VW := (VW.done ((BE.not (BE.le (IE.bin BinOp.or .u64 (IE.var .u64 1017) (IE.bin BinOp.shl .u64 (IE.bin BinOp.and .u8 (IE.cel .u8 (LE.rom 0) (IE.add (IE.var .i64 1013) (IE.var .i64 1016)) 0) (IE.lit 127)) (IE.mul (IE.lit 7) (IE.var .i64 1016)))) (IE.sub (IE.len (LE.rom 0)) (IE.add (IE.var .i64 1011) (IE.add (IE.var .i64 1016) (IE.lit 1)))))) :: pcljN5_4) (some [(G.i (IE.fn .i64 11 (AL.lst (LE.rom 0) (AL.int .i64 (IE.var .i64 1) AL.nil))) (IE.lit 0)), (G.i (IE.fn .i64 10 (AL.lst (LE.rom 0) (AL.int .i64 (IE.var .i64 1) AL.nil))) (IE.lit 110))]))
def wljN5_5 : VW := (VW.done ((BE.eq (IE.cel .u8 (LE.rom 0) (IE.add (IE.var .i64 1013) (IE.var .i64 1016)) 0) (IE.lit 0)) :: pcljN5_3) (some [(G.i (IE.fn .i64 11 (AL.lst (LE.rom 0) (AL.int .i64 (IE.var .i64 1) AL.nil))) (IE.lit 0)), (G.i (IE.fn .i64 10 (AL.lst (LE.rom 0) (AL.int .i64 (IE.var .i64 1) AL.nil))) (IE.lit 111))]))
def wljN5_6 : VW := (VW.cut 3 ((BE.eq (IE.add (IE.add (IE.var .i64 1011) (IE.add (IE.var .i64 1016) (IE.lit 1))) (IE.bin BinOp.or .u64 (IE.var .u64 1017) (IE.bin BinOp.shl .u64 (IE.bin BinOp.and .u8 (IE.cel .u8 (LE.rom 0) (IE.add (IE.var .i64 1013) (IE.var .i64 1016)) 0) (IE.lit 127)) (IE.mul (IE.lit 7) (IE.var .i64 1016))))) (IE.add (IE.var .i64 1011) (IE.add (IE.var .i64 1016) (IE.lit 1)))) :: pcljN5_11) (Sx.Sub.mk [(.i64, (1011, (IE.add (IE.add (IE.var .i64 1011) (IE.add (IE.var .i64 1016) (IE.lit 1))) (IE.bin BinOp.or .u64 (IE.var .u64 1017) (IE.bin BinOp.shl .u64 (IE.bin BinOp.and .u8 (IE.cel .u8 (LE.rom 0) (IE.add (IE.var .i64 1013) (IE.var .i64 1016)) 0) (IE.lit 127)) (IE.mul (IE.lit 7) (IE.var .i64 1016))))))), (.i64, (1010, (IE.add (IE.var .i64 1010) (IE.lit 1)))), (.u64, (1009, (IE.sub (IE.var .u64 1009) (IE.lit 1))))] [] [(1012, (LE.cat (LE.var 1012) (LE.one (AL.lst (LE.take (LE.rom 0) (IE.bin BinOp.or .u64 (IE.var .u64 1017) (IE.bin BinOp.shl .u64 (IE.bin BinOp.and .u8 (IE.cel .u8 (LE.rom 0) (IE.add (IE.var .i64 1013) (IE.var .i64 1016)) 0) (IE.lit 127)) (IE.mul (IE.lit 7) (IE.var .i64 1016))))) AL.nil))))] [] [] []))
def wljN5_7 : VW := (VW.cut 3 ((BE.not (BE.eq (IE.add (IE.add (IE.var .i64 1011) (IE.add (IE.var .i64 1016) (IE.lit 1))) (IE.bin BinOp.or .u64 (IE.var .u64 1017) (IE.bin BinOp.shl .u64 (IE.bin BinOp.and .u8 (IE.cel .u8 (LE.rom 0) (IE.add (IE.var .i64 1013) (IE.var .i64 1016)) 0) (IE.lit 127)) (IE.mul (IE.lit 7) (IE.var .i64 1016))))) (IE.add (IE.var .i64 1011) (IE.add (IE.var .i64 1016) (IE.lit 1))))) :: pcljN5_11) (Sx.Sub.mk [(.i64, (1011, (IE.add (IE.add (IE.var .i64 1011) (IE.add (IE.var .i64 1016) (IE.lit 1))) (IE.bin BinOp.or .u64 (IE.var .u64 1017) (IE.bin BinOp.shl .u64 (IE.bin BinOp.and .u8 (IE.cel .u8 (LE.rom 0) (IE.add (IE.var .i64 1013) (IE.var .i64 1016)) 0) (IE.lit 127)) (IE.mul (IE.lit 7) (IE.var .i64 1016))))))), (.i64, (1010, (IE.add (IE.var .i64 1010) (IE.lit 1)))), (.u64, (1009, (IE.sub (IE.var .u64 1009) (IE.lit 1))))] [] [(1012, (LE.cat (LE.var 1012) (LE.one (AL.lst (LE.take (LE.drop (LE.rom 0) (IE.add (IE.var .i64 1011) (IE.add (IE.var .i64 1016) (IE.lit 1)))) (IE.bin BinOp.or .u64 (IE.var .u64 1017) (IE.bin BinOp.shl .u64 (IE.bin BinOp.and .u8 (IE.cel .u8 (LE.rom 0) (IE.add (IE.var .i64 1013) (IE.var .i64 1016)) 0) (IE.lit 127)) (IE.mul (IE.lit 7) (IE.var .i64 1016))))) AL.nil))))] [] [] []))
def wljN5_8 : VW := (VW.done ((BE.not (BE.le (IE.bin BinOp.or .u64 (IE.var .u64 1017) (IE.bin BinOp.shl .u64 (IE.bin BinOp.and .u8 (IE.cel .u8 (LE.rom 0) (IE.add (IE.var .i64 1013) (IE.var .i64 1016)) 0) (IE.lit 127)) (IE.mul (IE.lit 7) (IE.var .i64 1016)))) (IE.sub (IE.len (LE.rom 0)) (IE.add (IE.var .i64 1011) (IE.add (IE.var .i64 1016) (IE.lit 1)))))) :: pcljN5_9) (some [(G.i (IE.fn .i64 11 (AL.lst (LE.rom 0) (AL.int .i64 (IE.var .i64 1) AL.nil))) (IE.lit 0)), (G.i (IE.fn .i64 10 (AL.lst (LE.rom 0) (AL.int .i64 (IE.var .i64 1) AL.nil))) (IE.lit 110))]))
def wljN5_9 : VW := (VW.done ((BE.not (BE.le (IE.cel .u8 (LE.rom 0) (IE.add (IE.var .i64 1013) (IE.var .i64 1016)) 0) (IE.lit 1))) :: pcljN5_7) (some [(G.i (IE.fn .i64 11 (AL.lst (LE.rom 0) (AL.int .i64 (IE.var .i64 1) AL.nil))) (IE.lit 0)), (G.i (IE.fn .i64 10 (AL.lst (LE.rom 0) (AL.int .i64 (IE.var .i64 1) AL.nil))) (IE.lit 111))]))
def wljN5_10 : VW := (VW.cut 5 ((BE.le (IE.lit 128) (IE.cel .u8 (LE.rom 0) (IE.add (IE.var .i64 1013) (IE.var .i64 1016)) 0)) :: pcljN5_8) (Sx.Sub.mk [(.i64, (1011, (IE.var .i64 1011))), (.i64, (1010, (IE.var .i64 1010))), (.u64, (1009, (IE.var .u64 1009))), (.i64, (1016, (IE.add (IE.var .i64 1016) (IE.lit 1)))), (.i64, (1015, (IE.var .i64 1015))), (.i64, (1013, (IE.var .i64 1013))), (.u64, (1017, (IE.bin BinOp.or .u64 (IE.var .u64 1017) (IE.bin BinOp.shl .u64 (IE.bin BinOp.and .u8 (IE.cel .u8 (LE.rom 0) (IE.add (IE.var .i64 1013) (IE.var .i64 1016)) 0) (IE.lit 127)) (IE.mul (IE.lit 7) (IE.var .i64 1016))))))] [] [(1012, (LE.var 1012))] [] [] []))
def wljN5_11 : VW := (VW.cut 3 ((BE.eq (IE.add (IE.add (IE.var .i64 1011) (IE.add (IE.var .i64 1016) (IE.lit 1))) (IE.bin BinOp.or .u64 (IE.var .u64 1017) (IE.bin BinOp.shl .u64 (IE.bin BinOp.and .u8 (IE.cel .u8 (LE.rom 0) (IE.add (IE.var .i64 1013) (IE.var .i64 1016)) 0) (IE.lit 127)) (IE.mul (IE.lit 7) (IE.var .i64 1016))))) (IE.add (IE.var .i64 1011) (IE.add (IE.var .i64 1016) (IE.lit 1)))) :: pcljN5_12) (Sx.Sub.mk [(.i64, (1011, (IE.add (IE.add (IE.var .i64 1011) (IE.add (IE.var .i64 1016) (IE.lit 1))) (IE.bin BinOp.or .u64 (IE.var .u64 1017) (IE.bin BinOp.shl .u64 (IE.bin BinOp.and .u8 (IE.cel .u8 (LE.rom 0) (IE.add (IE.var .i64 1013) (IE.var .i64 1016)) 0) (IE.lit 127)) (IE.mul (IE.lit 7) (IE.var .i64 1016))))))), (.i64, (1010, (IE.add (IE.var .i64 1010) (IE.lit 1)))), (.u64, (1009, (IE.sub (IE.var .u64 1009) (IE.lit 1))))] [] [(1012, (LE.cat (LE.var 1012) (LE.one (AL.lst (LE.take (LE.rom 0) (IE.bin BinOp.or .u64 (IE.var .u64 1017) (IE.bin BinOp.shl .u64 (IE.bin BinOp.and .u8 (IE.cel .u8 (LE.rom 0) (IE.add (IE.var .i64 1013) (IE.var .i64 1016)) 0) (IE.lit 127)) (IE.mul (IE.lit 7) (IE.var .i64 1016))))) AL.nil))))] [] [] []))
def wljN5_12 : VW := (VW.cut 3 ((BE.not (BE.eq (IE.add (IE.add (IE.var .i64 1011) (IE.add (IE.var .i64 1016) (IE.lit 1))) (IE.bin BinOp.or .u64 (IE.var .u64 1017) (IE.bin BinOp.shl .u64 (IE.bin BinOp.and .u8 (IE.cel .u8 (LE.rom 0) (IE.add (IE.var .i64 1013) (IE.var .i64 1016)) 0) (IE.lit 127)) (IE.mul (IE.lit 7) (IE.var .i64 1016))))) (IE.add (IE.var .i64 1011) (IE.add (IE.var .i64 1016) (IE.lit 1))))) :: pcljN5_12) (Sx.Sub.mk [(.i64, (1011, (IE.add (IE.add (IE.var .i64 1011) (IE.add (IE.var .i64 1016) (IE.lit 1))) (IE.bin BinOp.or .u64 (IE.var .u64 1017) (IE.bin BinOp.shl .u64 (IE.bin BinOp.and .u8 (IE.cel .u8 (LE.rom 0) (IE.add (IE.var .i64 1013) (IE.var .i64 1016)) 0) (IE.lit 127)) (IE.mul (IE.lit 7) (IE.var .i64 1016))))))), (.i64, (1010, (IE.add (IE.var .i64 1010) (IE.lit 1)))), (.u64, (1009, (IE.sub (IE.var .u64 1009) (IE.lit 1))))] [] [(1012, (LE.cat (LE.var 1012) (LE.one (AL.lst (LE.take (LE.drop (LE.rom 0) (IE.add (IE.var .i64 1011) (IE.add (IE.var .i64 1016) (IE.lit 1)))) (IE.bin BinOp.or .u64 (IE.var .u64 1017) (IE.bin BinOp.shl .u64 (IE.bin BinOp.and .u8 (IE.cel .u8 (LE.rom 0) (IE.add (IE.var .i64 1013) (IE.var .i64 1016)) 0) (IE.lit 127)) (IE.mul (IE.lit 7) (IE.var .i64 1016))))) AL.nil))))] [] [] []))
def wljN5_13 : VW := (VW.done ((BE.not (BE.le (IE.bin BinOp.or .u64 (IE.var .u64 1017) (IE.bin BinOp.shl .u64 (IE.bin BinOp.and .u8 (IE.cel .u8 (LE.rom 0) (IE.add (IE.var .i64 1013) (IE.var .i64 1016)) 0) (IE.lit 127)) (IE.mul (IE.lit 7) (IE.var .i64 1016)))) (IE.sub (IE.len (LE.rom 0)) (IE.add (IE.var .i64 1011) (IE.add (IE.var .i64 1016) (IE.lit 1)))))) :: pcljN5_10) (some [(G.i (IE.fn .i64 11 (AL.lst (LE.rom 0) (AL.int .i64 (IE.var .i64 1) AL.nil))) (IE.lit 0)), (G.i (IE.fn .i64 10 (AL.lst (LE.rom 0) (AL.int .i64 (IE.var .i64 1) AL.nil))) (IE.lit 110))]))
def vwljN5 : List VW := [wljN5_0, wljN5_1, wljN5_2, wljN5_3, wljN5_4, wljN5_5, wljN5_6, wljN5_7, wljN5_8, wljN5_9, wljN5_10, wljN5_11, wljN5_12, wljN5_13]
def vwljN : Nat → List VW
  | 0 => vwljN0
  | 1 => vwljN1
  | 2 => vwljN2
  | 3 => vwljN3
  | 4 => vwljN4
  | 5 => vwljN5
  | _ => []
end
def invljN : Nat → Lt → Prop
  | 1, l => Nu (l.z.rl 0) 0 0 (l.i .i64 1001) (l.i .u64 1000) ∧ (l.z.rl 0).length ≤ 10000
  | 2, l => Tx (l.z.rl 0) 0 (l.i .i64 1003) ∧ (l.i .u64 1002) = rdV (l.z.rl 0) ∧ (rdV (l.z.rl 0) ≤ (l.i .i64 1) ∨ rdV (l.z.rl 0) ≤ 0) ∧ (l.z.rl 0).length ≤ 10000
  | 3, l => 1 ≤ (l.i .i64 1010) ∧ Tx (l.z.rl 0) (l.i .i64 1010) (l.i .i64 1011) ∧ (l.l 1012) = txsT (l.z.rl 0) (l.i .i64 1010).toNat ∧ (l.i .u64 1009) + (l.i .i64 1010) = rdV (l.z.rl 0) ∧ (rdV (l.z.rl 0) ≤ (l.i .i64 1) ∨ rdV (l.z.rl 0) ≤ 0) ∧ (l.z.rl 0).length ≤ 10000
  | 4, l => Nu (l.z.rl 0) (l.i .i64 1003) (l.i .i64 1004) (l.i .i64 1007) (l.i .u64 1008) ∧ Tx (l.z.rl 0) 0 (l.i .i64 1003) ∧ (l.i .u64 1002) = rdV (l.z.rl 0) ∧ 1 ≤ (l.i .u64 1002) ∧ (rdV (l.z.rl 0) ≤ (l.i .i64 1) ∨ rdV (l.z.rl 0) ≤ 0) ∧ (l.z.rl 0).length ≤ 10000
  | 5, l => 1 ≤ (l.i .i64 1010) ∧ Nu (l.z.rl 0) (l.i .i64 1011) (l.i .i64 1013) (l.i .i64 1016) (l.i .u64 1017) ∧ Tx (l.z.rl 0) (l.i .i64 1010) (l.i .i64 1011) ∧ (l.l 1012) = txsT (l.z.rl 0) (l.i .i64 1010).toNat ∧ (l.i .u64 1009) + (l.i .i64 1010) = rdV (l.z.rl 0) ∧ 1 ≤ (l.i .u64 1009) ∧ (rdV (l.z.rl 0) ≤ (l.i .i64 1) ∨ rdV (l.z.rl 0) ≤ 0) ∧ (l.z.rl 0).length ≤ 10000
  | _, _ => True
def msljN : Nat → Lt → Nat
  | 0, l => 12 * (l.z.rl 0).length + 60
  | 1, l => 12 * (l.z.rl 0).length + 40 - (l.i .i64 1001).toNat
  | 2, l => 12 * ((l.z.rl 0).length + 1 - (l.i .i64 1003).toNat)
  | 3, l => 12 * ((l.z.rl 0).length + 1 - (l.i .i64 1011).toNat)
  | 4, l => 12 * ((l.z.rl 0).length + 1 - (l.i .i64 1003).toNat) - 1 - (l.i .i64 1007).toNat
  | 5, l => 12 * ((l.z.rl 0).length + 1 - (l.i .i64 1011).toNat) - 1 - (l.i .i64 1016).toNat
  | _, _ => 0
theorem vcljN0_0 : VC TTljN invljN msljN 0 (startF 33 cListN2.pat (.lit true :: cListN2.pre)) wljN0_0 := by
  intro ρ kn hi hp
  have hF : ρ.z.F = oct.Φ := kn.F
  simp only [h_nil, h_cons, d_le, d_eq, d_not, d_var, d_lit, d_cel, d_leq, d_fn, d_and, d_iff, IE.den, LE.den, AL.den, lenV, true_and, and_true, hF, pi2, pi3, pi4, pi5, pi6, pi7, pl1, pi8, pi9, pl3, pi10, pi11, pb1, pl2] at hp
  obtain ⟨p1, p2, p3⟩ := hp
  refine (show (Nu (ρ.z.rl 0) 0 0 (0 : Int) (0 : Int) ∧ (ρ.z.rl 0).length ≤ 10000) ∧ ((12 * (ρ.z.rl 0).length + 40 - (0 : Int).toNat : Nat) < 12 * (ρ.z.rl 0).length + 60) from ?_)
  exact ⟨⟨nu_start rfl, by omega⟩, by omega⟩
def ivljN1 (ρ : Rho) : Prop := Nu (ρ.z.rl 0) 0 0 (ρ.i .i64 1001) (ρ.i .u64 1000) ∧ (ρ.z.rl 0).length ≤ 10000
theorem vcgljN1_1 : VC TTljN invljN msljN 1 tljN1 wljN1_3 ∧ VC TTljN invljN msljN 1 tljN1 wljN1_5 ∧ VC TTljN invljN msljN 1 tljN1 wljN1_8 ∧ VC TTljN invljN msljN 1 tljN1 wljN1_10 ∧ VC TTljN invljN msljN 1 tljN1 wljN1_14 ∧ VC TTljN invljN msljN 1 tljN1 wljN1_16 := by
  refine ⟨?_, ?_, ?_, ?_, ?_, ?_⟩
  all_goals
    intro ρ kn hi hp
    have hi : ivljN1 ρ := hi
    unfold ivljN1 at hi
    have hF : ρ.z.F = oct.Φ := kn.F
    simp only [h_nil, h_cons, d_le, d_eq, d_not, d_var, d_lit, d_cel, d_leq, d_fn, d_and, d_iff, IE.den, LE.den, AL.den, lenV, true_and, and_true, pcljN1_6, pcljN1_4, pcljN1_2, pcljN1_1, pcljN1_0, pcljN1_7, pcljN1_12, pcljN1_10, pcljN1_8, pcljN1_5, pcljN1_3, pcljN1_13, pcljN1_14, pcljN1_11, pcljN1_9, pcljN1_15, hF, pi2, pi3, pi4, pi5, pi6, pi7, pl1, pi8, pi9, pl3, pi10, pi11, pb1, pl2] at hp
    have p1 := And.left hp
    replace hp := And.right hp
    repeat (have _ := And.left hp; replace hp := And.right hp)
    refine all_cons (show (clampK .i64 (ρ.z.F.i 11 [.lst (ρ.z.rl 0), .int .i64 (ρ.i .i64 1)])) = (0 : Int) from ?_) (all_cons (show (clampK .i64 (ρ.z.F.i 10 [.lst (ρ.z.rl 0), .int .i64 (ρ.i .i64 1)])) = (3 : Int) from ?_) (all_nil))
    all_goals try simp only [hF, pi2, pi3, pi4, pi5, pi6, pi7, pl1, pi8, pi9, pl3, pi10, pi11, pb1, pl2]
    all_goals
      have hl := kn.ok.rl 0
      try simp only [rdE_in, rdN_in, rdV_in, txtE_in, txtN_ind hl, lsE_in, lsN_in hl] at *
      obtain ⟨u, h2⟩ := hi
      first
        | (have k := nu_end u (by omega) (by omega); simp only [d0] at k; have q := ls_no (L := (ρ.z.rl 0)) (m := (ρ.i .i64 1)) (by omega); have q2 : lsN (ρ.z.rl 0) (ρ.i .i64 1) = 0 := lsN_no (by omega); omega)
        | (have k := nu_bad u (b := clampK .u8 (intV (celV (ρ.z.rl 0) (ρ.i .i64 1001) 0))) (by omega) (by omega) (by rw [Int.zero_add]) (by omega); simp only [d0] at k; have q := ls_no (L := (ρ.z.rl 0)) (m := (ρ.i .i64 1)) (by omega); have q2 : lsN (ρ.z.rl 0) (ρ.i .i64 1) = 0 := lsN_no (by omega); omega)
        | (have k := nu_read u (b := clampK .u8 (intV (celV (ρ.z.rl 0) (ρ.i .i64 1001) 0))) (by omega) (by omega) (by rw [Int.zero_add]) (by omega) (by omega) (by omega); simp only [d0] at k; have q := ls_long (L := (ρ.z.rl 0)) (m := (ρ.i .i64 1)) k.1 (by rw [k.2.2]; omega); have q2 : lsN (ρ.z.rl 0) (ρ.i .i64 1) = 0 := lsN_no (by omega); omega)
theorem vcljN1_0 : VC TTljN invljN msljN 1 tljN1 wljN1_0 := by
  intro ρ kn hi hp
  have hi : ivljN1 ρ := hi
  unfold ivljN1 at hi
  have hF : ρ.z.F = oct.Φ := kn.F
  simp only [h_nil, h_cons, d_le, d_eq, d_not, d_var, d_lit, d_cel, d_leq, d_fn, d_and, d_iff, IE.den, LE.den, AL.den, lenV, true_and, and_true, pcljN1_0, hF, pi2, pi3, pi4, pi5, pi6, pi7, pl1, pi8, pi9, pl3, pi10, pi11, pb1, pl2] at hp
  obtain ⟨p1, p2, p3, p4, p5, p6⟩ := hp
  refine all_cons (show (clampK .i64 (ρ.z.F.i 11 [.lst (ρ.z.rl 0), .int .i64 (ρ.i .i64 1)])) = (0 : Int) from ?_) (all_cons (show (clampK .i64 (ρ.z.F.i 10 [.lst (ρ.z.rl 0), .int .i64 (ρ.i .i64 1)])) = (110 : Int) from ?_) (all_nil))
  all_goals try simp only [hF, pi2, pi3, pi4, pi5, pi6, pi7, pl1, pi8, pi9, pl3, pi10, pi11, pb1, pl2]
  all_goals
    have hl := kn.ok.rl 0
    try simp only [rdE_in, rdN_in, rdV_in, txtE_in, txtN_ind hl, lsE_in, lsN_in hl] at *
    obtain ⟨u, h2⟩ := hi
    first
      | (have k := nu_end u (by omega) (by omega); simp only [d0] at k; have q := ls_no (L := (ρ.z.rl 0)) (m := (ρ.i .i64 1)) (by omega); have q2 : lsN (ρ.z.rl 0) (ρ.i .i64 1) = 0 := lsN_no (by omega); omega)
      | (have k := nu_bad u (b := clampK .u8 (intV (celV (ρ.z.rl 0) (ρ.i .i64 1001) 0))) (by omega) (by omega) (by rw [Int.zero_add]) (by omega); simp only [d0] at k; have q := ls_no (L := (ρ.z.rl 0)) (m := (ρ.i .i64 1)) (by omega); have q2 : lsN (ρ.z.rl 0) (ρ.i .i64 1) = 0 := lsN_no (by omega); omega)
      | (have k := nu_read u (b := clampK .u8 (intV (celV (ρ.z.rl 0) (ρ.i .i64 1001) 0))) (by omega) (by omega) (by rw [Int.zero_add]) (by omega) (by omega) (by omega); simp only [d0] at k; have q := ls_long (L := (ρ.z.rl 0)) (m := (ρ.i .i64 1)) k.1 (by rw [k.2.2]; omega); have q2 : lsN (ρ.z.rl 0) (ρ.i .i64 1) = 0 := lsN_no (by omega); omega)
theorem vcljN1_1 : VC TTljN invljN msljN 1 tljN1 wljN1_1 := by
  intro ρ kn hi hp
  have hi : ivljN1 ρ := hi
  unfold ivljN1 at hi
  have hF : ρ.z.F = oct.Φ := kn.F
  simp only [h_nil, h_cons, d_le, d_eq, d_not, d_var, d_lit, d_cel, d_leq, d_fn, d_and, d_iff, IE.den, LE.den, AL.den, lenV, true_and, and_true, pcljN1_2, pcljN1_1, pcljN1_0, hF, pi2, pi3, pi4, pi5, pi6, pi7, pl1, pi8, pi9, pl3, pi10, pi11, pb1, pl2] at hp
  obtain ⟨p1, p2, p3, p4, p5, p6, p7, p8⟩ := hp
  refine (show (Nu (ρ.z.rl 0) 0 0 ((ρ.i .i64 1001) + (1 : Int)) (binI BinOp.or .u64 (ρ.i .u64 1000) (binI BinOp.shl .u64 (binI BinOp.and .u8 (clampK .u8 (intV (celV (ρ.z.rl 0) (ρ.i .i64 1001) 0))) (127 : Int)) ((7 : Int) * (ρ.i .i64 1001)))) ∧ (ρ.z.rl 0).length ≤ 10000) ∧ ((12 * (ρ.z.rl 0).length + 40 - ((ρ.i .i64 1001) + (1 : Int)).toNat : Nat) < 12 * (ρ.z.rl 0).length + 40 - (ρ.i .i64 1001).toNat) from ?_)
  obtain ⟨u, h2⟩ := hi
  exact ⟨⟨nu_go u (b := clampK .u8 (intV (celV (ρ.z.rl 0) (ρ.i .i64 1001) 0))) (by omega) (by omega) (by rw [Int.zero_add]) (by omega) (by omega) (by omega), h2⟩, by omega⟩
theorem vcljN1_2 : VC TTljN invljN msljN 1 tljN1 wljN1_2 := by
  intro ρ kn hi hp
  have hi : ivljN1 ρ := hi
  unfold ivljN1 at hi
  have hF : ρ.z.F = oct.Φ := kn.F
  simp only [h_nil, h_cons, d_le, d_eq, d_not, d_var, d_lit, d_cel, d_leq, d_fn, d_and, d_iff, IE.den, LE.den, AL.den, lenV, true_and, and_true, pcljN1_6, pcljN1_4, pcljN1_2, pcljN1_1, pcljN1_0, hF, pi2, pi3, pi4, pi5, pi6, pi7, pl1, pi8, pi9, pl3, pi10, pi11, pb1, pl2] at hp
  obtain ⟨p1, p2, p3, p4, p5, p6, p7, p8, p9, p10⟩ := hp
  refine (show (Tx (ρ.z.rl 0) 0 ((0 : Int) + ((ρ.i .i64 1001) + (1 : Int))) ∧ (binI BinOp.or .u64 (ρ.i .u64 1000) (binI BinOp.shl .u64 (binI BinOp.and .u8 (clampK .u8 (intV (celV (ρ.z.rl 0) (ρ.i .i64 1001) 0))) (127 : Int)) ((7 : Int) * (ρ.i .i64 1001)))) = rdV (ρ.z.rl 0) ∧ (rdV (ρ.z.rl 0) ≤ (ρ.i .i64 1) ∨ rdV (ρ.z.rl 0) ≤ 0) ∧ (ρ.z.rl 0).length ≤ 10000) ∧ ((12 * ((ρ.z.rl 0).length + 1 - ((0 : Int) + ((ρ.i .i64 1001) + (1 : Int))).toNat) : Nat) < 12 * (ρ.z.rl 0).length + 40 - (ρ.i .i64 1001).toNat) from ?_)
  obtain ⟨u, h2⟩ := hi
  obtain ⟨k1, k2, k3⟩ := nu_read u (b := clampK .u8 (intV (celV (ρ.z.rl 0) (ρ.i .i64 1001) 0))) (by omega) (by omega) (by rw [Int.zero_add]) (by omega) (by omega) (by omega)
  simp only [d0] at k1 k2 k3
  exact ⟨⟨tx0 k1 (by omega), k3.symm, by omega, h2⟩, by omega⟩
theorem vcljN1_4 : VC TTljN invljN msljN 1 tljN1 wljN1_4 := by
  intro ρ kn hi hp
  have hi : ivljN1 ρ := hi
  unfold ivljN1 at hi
  have hF : ρ.z.F = oct.Φ := kn.F
  simp only [h_nil, h_cons, d_le, d_eq, d_not, d_var, d_lit, d_cel, d_leq, d_fn, d_and, d_iff, IE.den, LE.den, AL.den, lenV, true_and, and_true, pcljN1_7, pcljN1_4, pcljN1_2, pcljN1_1, pcljN1_0, hF, pi2, pi3, pi4, pi5, pi6, pi7, pl1, pi8, pi9, pl3, pi10, pi11, pb1, pl2] at hp
  obtain ⟨p1, p2, p3, p4, p5, p6, p7, p8, p9, p10⟩ := hp
  refine (show (Tx (ρ.z.rl 0) 0 ((0 : Int) + ((ρ.i .i64 1001) + (1 : Int))) ∧ (binI BinOp.or .u64 (ρ.i .u64 1000) (binI BinOp.shl .u64 (binI BinOp.and .u8 (clampK .u8 (intV (celV (ρ.z.rl 0) (ρ.i .i64 1001) 0))) (127 : Int)) ((7 : Int) * (ρ.i .i64 1001)))) = rdV (ρ.z.rl 0) ∧ (rdV (ρ.z.rl 0) ≤ (ρ.i .i64 1) ∨ rdV (ρ.z.rl 0) ≤ 0) ∧ (ρ.z.rl 0).length ≤ 10000) ∧ ((12 * ((ρ.z.rl 0).length + 1 - ((0 : Int) + ((ρ.i .i64 1001) + (1 : Int))).toNat) : Nat) < 12 * (ρ.z.rl 0).length + 40 - (ρ.i .i64 1001).toNat) from ?_)
  obtain ⟨u, h2⟩ := hi
  obtain ⟨k1, k2, k3⟩ := nu_read u (b := clampK .u8 (intV (celV (ρ.z.rl 0) (ρ.i .i64 1001) 0))) (by omega) (by omega) (by rw [Int.zero_add]) (by omega) (by omega) (by omega)
  simp only [d0] at k1 k2 k3
  exact ⟨⟨tx0 k1 (by omega), k3.symm, by omega, h2⟩, by omega⟩
theorem vcljN1_6 : VC TTljN invljN msljN 1 tljN1 wljN1_6 := by
  intro ρ kn hi hp
  have hi : ivljN1 ρ := hi
  unfold ivljN1 at hi
  have hF : ρ.z.F = oct.Φ := kn.F
  simp only [h_nil, h_cons, d_le, d_eq, d_not, d_var, d_lit, d_cel, d_leq, d_fn, d_and, d_iff, IE.den, LE.den, AL.den, lenV, true_and, and_true, pcljN1_3, pcljN1_1, pcljN1_0, hF, pi2, pi3, pi4, pi5, pi6, pi7, pl1, pi8, pi9, pl3, pi10, pi11, pb1, pl2] at hp
  obtain ⟨p1, p2, p3, p4, p5, p6, p7, p8⟩ := hp
  refine all_cons (show (clampK .i64 (ρ.z.F.i 11 [.lst (ρ.z.rl 0), .int .i64 (ρ.i .i64 1)])) = (0 : Int) from ?_) (all_cons (show (clampK .i64 (ρ.z.F.i 10 [.lst (ρ.z.rl 0), .int .i64 (ρ.i .i64 1)])) = (111 : Int) from ?_) (all_nil))
  all_goals try simp only [hF, pi2, pi3, pi4, pi5, pi6, pi7, pl1, pi8, pi9, pl3, pi10, pi11, pb1, pl2]
  all_goals
    have hl := kn.ok.rl 0
    try simp only [rdE_in, rdN_in, rdV_in, txtE_in, txtN_ind hl, lsE_in, lsN_in hl] at *
    obtain ⟨u, h2⟩ := hi
    first
      | (have k := nu_end u (by omega) (by omega); simp only [d0] at k; have q := ls_no (L := (ρ.z.rl 0)) (m := (ρ.i .i64 1)) (by omega); have q2 : lsN (ρ.z.rl 0) (ρ.i .i64 1) = 0 := lsN_no (by omega); omega)
      | (have k := nu_bad u (b := clampK .u8 (intV (celV (ρ.z.rl 0) (ρ.i .i64 1001) 0))) (by omega) (by omega) (by rw [Int.zero_add]) (by omega); simp only [d0] at k; have q := ls_no (L := (ρ.z.rl 0)) (m := (ρ.i .i64 1)) (by omega); have q2 : lsN (ρ.z.rl 0) (ρ.i .i64 1) = 0 := lsN_no (by omega); omega)
      | (have k := nu_read u (b := clampK .u8 (intV (celV (ρ.z.rl 0) (ρ.i .i64 1001) 0))) (by omega) (by omega) (by rw [Int.zero_add]) (by omega) (by omega) (by omega); simp only [d0] at k; have q := ls_long (L := (ρ.z.rl 0)) (m := (ρ.i .i64 1)) k.1 (by rw [k.2.2]; omega); have q2 : lsN (ρ.z.rl 0) (ρ.i .i64 1) = 0 := lsN_no (by omega); omega)
theorem vcljN1_7 : VC TTljN invljN msljN 1 tljN1 wljN1_7 := by
  intro ρ kn hi hp
  have hi : ivljN1 ρ := hi
  unfold ivljN1 at hi
  have hF : ρ.z.F = oct.Φ := kn.F
  simp only [h_nil, h_cons, d_le, d_eq, d_not, d_var, d_lit, d_cel, d_leq, d_fn, d_and, d_iff, IE.den, LE.den, AL.den, lenV, true_and, and_true, pcljN1_12, pcljN1_10, pcljN1_8, pcljN1_5, pcljN1_3, pcljN1_1, pcljN1_0, hF, pi2, pi3, pi4, pi5, pi6, pi7, pl1, pi8, pi9, pl3, pi10, pi11, pb1, pl2] at hp
  obtain ⟨p1, p2, p3, p4, p5, p6, p7, p8, p9, p10, p11, p12⟩ := hp
  refine (show (Tx (ρ.z.rl 0) 0 ((0 : Int) + ((ρ.i .i64 1001) + (1 : Int))) ∧ (binI BinOp.or .u64 (ρ.i .u64 1000) (binI BinOp.shl .u64 (binI BinOp.and .u8 (clampK .u8 (intV (celV (ρ.z.rl 0) (ρ.i .i64 1001) 0))) (127 : Int)) ((7 : Int) * (ρ.i .i64 1001)))) = rdV (ρ.z.rl 0) ∧ (rdV (ρ.z.rl 0) ≤ (ρ.i .i64 1) ∨ rdV (ρ.z.rl 0) ≤ 0) ∧ (ρ.z.rl 0).length ≤ 10000) ∧ ((12 * ((ρ.z.rl 0).length + 1 - ((0 : Int) + ((ρ.i .i64 1001) + (1 : Int))).toNat) : Nat) < 12 * (ρ.z.rl 0).length + 40 - (ρ.i .i64 1001).toNat) from ?_)
  obtain ⟨u, h2⟩ := hi
  obtain ⟨k1, k2, k3⟩ := nu_read u (b := clampK .u8 (intV (celV (ρ.z.rl 0) (ρ.i .i64 1001) 0))) (by omega) (by omega) (by rw [Int.zero_add]) (by omega) (by omega) (by omega)
  simp only [d0] at k1 k2 k3
  exact ⟨⟨tx0 k1 (by omega), k3.symm, by omega, h2⟩, by omega⟩
theorem vcljN1_9 : VC TTljN invljN msljN 1 tljN1 wljN1_9 := by
  intro ρ kn hi hp
  have hi : ivljN1 ρ := hi
  unfold ivljN1 at hi
  have hF : ρ.z.F = oct.Φ := kn.F
  simp only [h_nil, h_cons, d_le, d_eq, d_not, d_var, d_lit, d_cel, d_leq, d_fn, d_and, d_iff, IE.den, LE.den, AL.den, lenV, true_and, and_true, pcljN1_13, pcljN1_10, pcljN1_8, pcljN1_5, pcljN1_3, pcljN1_1, pcljN1_0, hF, pi2, pi3, pi4, pi5, pi6, pi7, pl1, pi8, pi9, pl3, pi10, pi11, pb1, pl2] at hp
  obtain ⟨p1, p2, p3, p4, p5, p6, p7, p8, p9, p10, p11, p12⟩ := hp
  refine (show (Tx (ρ.z.rl 0) 0 ((0 : Int) + ((ρ.i .i64 1001) + (1 : Int))) ∧ (binI BinOp.or .u64 (ρ.i .u64 1000) (binI BinOp.shl .u64 (binI BinOp.and .u8 (clampK .u8 (intV (celV (ρ.z.rl 0) (ρ.i .i64 1001) 0))) (127 : Int)) ((7 : Int) * (ρ.i .i64 1001)))) = rdV (ρ.z.rl 0) ∧ (rdV (ρ.z.rl 0) ≤ (ρ.i .i64 1) ∨ rdV (ρ.z.rl 0) ≤ 0) ∧ (ρ.z.rl 0).length ≤ 10000) ∧ ((12 * ((ρ.z.rl 0).length + 1 - ((0 : Int) + ((ρ.i .i64 1001) + (1 : Int))).toNat) : Nat) < 12 * (ρ.z.rl 0).length + 40 - (ρ.i .i64 1001).toNat) from ?_)
  obtain ⟨u, h2⟩ := hi
  obtain ⟨k1, k2, k3⟩ := nu_read u (b := clampK .u8 (intV (celV (ρ.z.rl 0) (ρ.i .i64 1001) 0))) (by omega) (by omega) (by rw [Int.zero_add]) (by omega) (by omega) (by omega)
  simp only [d0] at k1 k2 k3
  exact ⟨⟨tx0 k1 (by omega), k3.symm, by omega, h2⟩, by omega⟩
theorem vcljN1_11 : VC TTljN invljN msljN 1 tljN1 wljN1_11 := by
  intro ρ kn hi hp
  have hi : ivljN1 ρ := hi
  unfold ivljN1 at hi
  have hF : ρ.z.F = oct.Φ := kn.F
  simp only [h_nil, h_cons, d_le, d_eq, d_not, d_var, d_lit, d_cel, d_leq, d_fn, d_and, d_iff, IE.den, LE.den, AL.den, lenV, true_and, and_true, pcljN1_8, pcljN1_5, pcljN1_3, pcljN1_1, pcljN1_0, hF, pi2, pi3, pi4, pi5, pi6, pi7, pl1, pi8, pi9, pl3, pi10, pi11, pb1, pl2] at hp
  obtain ⟨p1, p2, p3, p4, p5, p6, p7, p8, p9, p10⟩ := hp
  refine all_cons (show (clampK .i64 (ρ.z.F.i 11 [.lst (ρ.z.rl 0), .int .i64 (ρ.i .i64 1)])) = (0 : Int) from ?_) (all_cons (show (clampK .i64 (ρ.z.F.i 10 [.lst (ρ.z.rl 0), .int .i64 (ρ.i .i64 1)])) = (111 : Int) from ?_) (all_nil))
  all_goals try simp only [hF, pi2, pi3, pi4, pi5, pi6, pi7, pl1, pi8, pi9, pl3, pi10, pi11, pb1, pl2]
  all_goals
    have hl := kn.ok.rl 0
    try simp only [rdE_in, rdN_in, rdV_in, txtE_in, txtN_ind hl, lsE_in, lsN_in hl] at *
    obtain ⟨u, h2⟩ := hi
    first
      | (have k := nu_end u (by omega) (by omega); simp only [d0] at k; have q := ls_no (L := (ρ.z.rl 0)) (m := (ρ.i .i64 1)) (by omega); have q2 : lsN (ρ.z.rl 0) (ρ.i .i64 1) = 0 := lsN_no (by omega); omega)
      | (have k := nu_bad u (b := clampK .u8 (intV (celV (ρ.z.rl 0) (ρ.i .i64 1001) 0))) (by omega) (by omega) (by rw [Int.zero_add]) (by omega); simp only [d0] at k; have q := ls_no (L := (ρ.z.rl 0)) (m := (ρ.i .i64 1)) (by omega); have q2 : lsN (ρ.z.rl 0) (ρ.i .i64 1) = 0 := lsN_no (by omega); omega)
      | (have k := nu_read u (b := clampK .u8 (intV (celV (ρ.z.rl 0) (ρ.i .i64 1001) 0))) (by omega) (by omega) (by rw [Int.zero_add]) (by omega) (by omega) (by omega); simp only [d0] at k; have q := ls_long (L := (ρ.z.rl 0)) (m := (ρ.i .i64 1)) k.1 (by rw [k.2.2]; omega); have q2 : lsN (ρ.z.rl 0) (ρ.i .i64 1) = 0 := lsN_no (by omega); omega)
theorem vcljN1_12 : VC TTljN invljN msljN 1 tljN1 wljN1_12 := by
  intro ρ kn hi hp
  have hi : ivljN1 ρ := hi
  unfold ivljN1 at hi
  have hF : ρ.z.F = oct.Φ := kn.F
  simp only [h_nil, h_cons, d_le, d_eq, d_not, d_var, d_lit, d_cel, d_leq, d_fn, d_and, d_iff, IE.den, LE.den, AL.den, lenV, true_and, and_true, pcljN1_9, pcljN1_5, pcljN1_3, pcljN1_1, pcljN1_0, hF, pi2, pi3, pi4, pi5, pi6, pi7, pl1, pi8, pi9, pl3, pi10, pi11, pb1, pl2] at hp
  obtain ⟨p1, p2, p3, p4, p5, p6, p7, p8, p9, p10⟩ := hp
  refine (show (Nu (ρ.z.rl 0) 0 0 ((ρ.i .i64 1001) + (1 : Int)) (binI BinOp.or .u64 (ρ.i .u64 1000) (binI BinOp.shl .u64 (binI BinOp.and .u8 (clampK .u8 (intV (celV (ρ.z.rl 0) (ρ.i .i64 1001) 0))) (127 : Int)) ((7 : Int) * (ρ.i .i64 1001)))) ∧ (ρ.z.rl 0).length ≤ 10000) ∧ ((12 * (ρ.z.rl 0).length + 40 - ((ρ.i .i64 1001) + (1 : Int)).toNat : Nat) < 12 * (ρ.z.rl 0).length + 40 - (ρ.i .i64 1001).toNat) from ?_)
  obtain ⟨u, h2⟩ := hi
  exact ⟨⟨nu_go u (b := clampK .u8 (intV (celV (ρ.z.rl 0) (ρ.i .i64 1001) 0))) (by omega) (by omega) (by rw [Int.zero_add]) (by omega) (by omega) (by omega), h2⟩, by omega⟩
theorem vcljN1_13 : VC TTljN invljN msljN 1 tljN1 wljN1_13 := by
  intro ρ kn hi hp
  have hi : ivljN1 ρ := hi
  unfold ivljN1 at hi
  have hF : ρ.z.F = oct.Φ := kn.F
  simp only [h_nil, h_cons, d_le, d_eq, d_not, d_var, d_lit, d_cel, d_leq, d_fn, d_and, d_iff, IE.den, LE.den, AL.den, lenV, true_and, and_true, pcljN1_14, pcljN1_11, pcljN1_9, pcljN1_5, pcljN1_3, pcljN1_1, pcljN1_0, hF, pi2, pi3, pi4, pi5, pi6, pi7, pl1, pi8, pi9, pl3, pi10, pi11, pb1, pl2] at hp
  obtain ⟨p1, p2, p3, p4, p5, p6, p7, p8, p9, p10, p11, p12⟩ := hp
  refine (show (Tx (ρ.z.rl 0) 0 ((0 : Int) + ((ρ.i .i64 1001) + (1 : Int))) ∧ (binI BinOp.or .u64 (ρ.i .u64 1000) (binI BinOp.shl .u64 (binI BinOp.and .u8 (clampK .u8 (intV (celV (ρ.z.rl 0) (ρ.i .i64 1001) 0))) (127 : Int)) ((7 : Int) * (ρ.i .i64 1001)))) = rdV (ρ.z.rl 0) ∧ (rdV (ρ.z.rl 0) ≤ (ρ.i .i64 1) ∨ rdV (ρ.z.rl 0) ≤ 0) ∧ (ρ.z.rl 0).length ≤ 10000) ∧ ((12 * ((ρ.z.rl 0).length + 1 - ((0 : Int) + ((ρ.i .i64 1001) + (1 : Int))).toNat) : Nat) < 12 * (ρ.z.rl 0).length + 40 - (ρ.i .i64 1001).toNat) from ?_)
  obtain ⟨u, h2⟩ := hi
  obtain ⟨k1, k2, k3⟩ := nu_read u (b := clampK .u8 (intV (celV (ρ.z.rl 0) (ρ.i .i64 1001) 0))) (by omega) (by omega) (by rw [Int.zero_add]) (by omega) (by omega) (by omega)
  simp only [d0] at k1 k2 k3
  exact ⟨⟨tx0 k1 (by omega), k3.symm, by omega, h2⟩, by omega⟩
theorem vcljN1_15 : VC TTljN invljN msljN 1 tljN1 wljN1_15 := by
  intro ρ kn hi hp
  have hi : ivljN1 ρ := hi
  unfold ivljN1 at hi
  have hF : ρ.z.F = oct.Φ := kn.F
  simp only [h_nil, h_cons, d_le, d_eq, d_not, d_var, d_lit, d_cel, d_leq, d_fn, d_and, d_iff, IE.den, LE.den, AL.den, lenV, true_and, and_true, pcljN1_15, pcljN1_11, pcljN1_9, pcljN1_5, pcljN1_3, pcljN1_1, pcljN1_0, hF, pi2, pi3, pi4, pi5, pi6, pi7, pl1, pi8, pi9, pl3, pi10, pi11, pb1, pl2] at hp
  obtain ⟨p1, p2, p3, p4, p5, p6, p7, p8, p9, p10, p11, p12⟩ := hp
  refine (show (Tx (ρ.z.rl 0) 0 ((0 : Int) + ((ρ.i .i64 1001) + (1 : Int))) ∧ (binI BinOp.or .u64 (ρ.i .u64 1000) (binI BinOp.shl .u64 (binI BinOp.and .u8 (clampK .u8 (intV (celV (ρ.z.rl 0) (ρ.i .i64 1001) 0))) (127 : Int)) ((7 : Int) * (ρ.i .i64 1001)))) = rdV (ρ.z.rl 0) ∧ (rdV (ρ.z.rl 0) ≤ (ρ.i .i64 1) ∨ rdV (ρ.z.rl 0) ≤ 0) ∧ (ρ.z.rl 0).length ≤ 10000) ∧ ((12 * ((ρ.z.rl 0).length + 1 - ((0 : Int) + ((ρ.i .i64 1001) + (1 : Int))).toNat) : Nat) < 12 * (ρ.z.rl 0).length + 40 - (ρ.i .i64 1001).toNat) from ?_)
  obtain ⟨u, h2⟩ := hi
  obtain ⟨k1, k2, k3⟩ := nu_read u (b := clampK .u8 (intV (celV (ρ.z.rl 0) (ρ.i .i64 1001) 0))) (by omega) (by omega) (by rw [Int.zero_add]) (by omega) (by omega) (by omega)
  simp only [d0] at k1 k2 k3
  exact ⟨⟨tx0 k1 (by omega), k3.symm, by omega, h2⟩, by omega⟩
def ivljN2 (ρ : Rho) : Prop := Tx (ρ.z.rl 0) 0 (ρ.i .i64 1003) ∧ (ρ.i .u64 1002) = rdV (ρ.z.rl 0) ∧ (rdV (ρ.z.rl 0) ≤ (ρ.i .i64 1) ∨ rdV (ρ.z.rl 0) ≤ 0) ∧ (ρ.z.rl 0).length ≤ 10000
theorem vcljN2_0 : VC TTljN invljN msljN 2 tljN2 wljN2_0 := by
  intro ρ kn hi hp
  have hi : ivljN2 ρ := hi
  unfold ivljN2 at hi
  have hF : ρ.z.F = oct.Φ := kn.F
  simp only [h_nil, h_cons, d_le, d_eq, d_not, d_var, d_lit, d_cel, d_leq, d_fn, d_and, d_iff, IE.den, LE.den, AL.den, lenV, true_and, and_true, pcljN2_0, hF, pi2, pi3, pi4, pi5, pi6, pi7, pl1, pi8, pi9, pl3, pi10, pi11, pb1, pl2] at hp
  obtain ⟨p1, p2, p3, p4, p5⟩ := hp
  refine all_cons (show (clampK .i64 (ρ.z.F.i 11 [.lst (ρ.z.rl 0), .int .i64 (ρ.i .i64 1)])) = (ρ.i .i64 1003) from ?_) (all_cons (show (clampK .i64 (ρ.z.F.i 10 [.lst (ρ.z.rl 0), .int .i64 (ρ.i .i64 1)])) = (0 : Int) from ?_) (all_nil))
  all_goals try simp only [hF, pi2, pi3, pi4, pi5, pi6, pi7, pl1, pi8, pi9, pl3, pi10, pi11, pb1, pl2]
  all_goals
    have hl := kn.ok.rl 0
    try simp only [rdE_in, rdN_in, rdV_in, txtE_in, txtN_ind hl, lsE_in, lsN_in hl] at *
    obtain ⟨t, hn, h1, h2⟩ := hi
    have kr := tx_rng t
    have hu := u64_rng kn.ok 1002
    have q := tx_end (m := (ρ.i .i64 1)) t (by omega) h1
    omega
theorem vcljN2_1 : VC TTljN invljN msljN 2 tljN2 wljN2_1 := by
  intro ρ kn hi hp
  have hi : ivljN2 ρ := hi
  unfold ivljN2 at hi
  have hF : ρ.z.F = oct.Φ := kn.F
  simp only [h_nil, h_cons, d_le, d_eq, d_not, d_var, d_lit, d_cel, d_leq, d_fn, d_and, d_iff, IE.den, LE.den, AL.den, lenV, true_and, and_true, pcljN2_1, pcljN2_0, hF, pi2, pi3, pi4, pi5, pi6, pi7, pl1, pi8, pi9, pl3, pi10, pi11, pb1, pl2] at hp
  obtain ⟨p1, p2, p3, p4, p5, p6⟩ := hp
  refine (show (Nu (ρ.z.rl 0) (ρ.i .i64 1003) (0 : Int) (0 : Int) (0 : Int) ∧ Tx (ρ.z.rl 0) 0 (ρ.i .i64 1003) ∧ (ρ.i .u64 1002) = rdV (ρ.z.rl 0) ∧ 1 ≤ (ρ.i .u64 1002) ∧ (rdV (ρ.z.rl 0) ≤ (ρ.i .i64 1) ∨ rdV (ρ.z.rl 0) ≤ 0) ∧ (ρ.z.rl 0).length ≤ 10000) ∧ ((12 * ((ρ.z.rl 0).length + 1 - (ρ.i .i64 1003).toNat) - 1 - (0 : Int).toNat : Nat) < 12 * ((ρ.z.rl 0).length + 1 - (ρ.i .i64 1003).toNat)) from ?_)
  obtain ⟨t, hn, h1, h2⟩ := hi
  have kr := tx_rng t
  exact ⟨⟨nu0 kr (by omega), t, hn, by omega, h1, h2⟩, by omega⟩
theorem vcljN2_2 : VC TTljN invljN msljN 2 tljN2 wljN2_2 := by
  intro ρ kn hi hp
  have hi : ivljN2 ρ := hi
  unfold ivljN2 at hi
  have hF : ρ.z.F = oct.Φ := kn.F
  simp only [h_nil, h_cons, d_le, d_eq, d_not, d_var, d_lit, d_cel, d_leq, d_fn, d_and, d_iff, IE.den, LE.den, AL.den, lenV, true_and, and_true, pcljN2_1, pcljN2_0, hF, pi2, pi3, pi4, pi5, pi6, pi7, pl1, pi8, pi9, pl3, pi10, pi11, pb1, pl2] at hp
  obtain ⟨p1, p2, p3, p4, p5, p6⟩ := hp
  refine (show (Nu (ρ.z.rl 0) (ρ.i .i64 1003) (ρ.i .i64 1003) (0 : Int) (0 : Int) ∧ Tx (ρ.z.rl 0) 0 (ρ.i .i64 1003) ∧ (ρ.i .u64 1002) = rdV (ρ.z.rl 0) ∧ 1 ≤ (ρ.i .u64 1002) ∧ (rdV (ρ.z.rl 0) ≤ (ρ.i .i64 1) ∨ rdV (ρ.z.rl 0) ≤ 0) ∧ (ρ.z.rl 0).length ≤ 10000) ∧ ((12 * ((ρ.z.rl 0).length + 1 - (ρ.i .i64 1003).toNat) - 1 - (0 : Int).toNat : Nat) < 12 * ((ρ.z.rl 0).length + 1 - (ρ.i .i64 1003).toNat)) from ?_)
  obtain ⟨t, hn, h1, h2⟩ := hi
  have kr := tx_rng t
  exact ⟨⟨nu0 kr (by omega), t, hn, by omega, h1, h2⟩, by omega⟩
def ivljN3 (ρ : Rho) : Prop := 1 ≤ (ρ.i .i64 1010) ∧ Tx (ρ.z.rl 0) (ρ.i .i64 1010) (ρ.i .i64 1011) ∧ (ρ.l 1012) = txsT (ρ.z.rl 0) (ρ.i .i64 1010).toNat ∧ (ρ.i .u64 1009) + (ρ.i .i64 1010) = rdV (ρ.z.rl 0) ∧ (rdV (ρ.z.rl 0) ≤ (ρ.i .i64 1) ∨ rdV (ρ.z.rl 0) ≤ 0) ∧ (ρ.z.rl 0).length ≤ 10000
theorem vcljN3_0 : VC TTljN invljN msljN 3 tljN3 wljN3_0 := by
  intro ρ kn hi hp
  have hi : ivljN3 ρ := hi
  unfold ivljN3 at hi
  have hF : ρ.z.F = oct.Φ := kn.F
  simp only [h_nil, h_cons, d_le, d_eq, d_not, d_var, d_lit, d_cel, d_leq, d_fn, d_and, d_iff, IE.den, LE.den, AL.den, lenV, true_and, and_true, pcljN3_0, hF, pi2, pi3, pi4, pi5, pi6, pi7, pl1, pi8, pi9, pl3, pi10, pi11, pb1, pl2] at hp
  obtain ⟨p1, p2, p3, p4, p5, p6, p7⟩ := hp
  exfalso
  have hB' : ¬ lsB (ρ.z.rl 0) (ρ.i .i64 1) = true := by assumption
  obtain ⟨hj, t, hw, hn, h1, h2⟩ := hi
  have kr := tx_rng t
  have hu := u64_rng kn.ok 1009
  have q := tx_end (m := (ρ.i .i64 1)) t (by omega) h1
  exact hB' (lsB_t.2 ⟨q.1, by omega⟩)
theorem vcljN3_1 : VC TTljN invljN msljN 3 tljN3 wljN3_1 := by
  intro ρ kn hi hp
  have hi : ivljN3 ρ := hi
  unfold ivljN3 at hi
  have hF : ρ.z.F = oct.Φ := kn.F
  simp only [h_nil, h_cons, d_le, d_eq, d_not, d_var, d_lit, d_cel, d_leq, d_fn, d_and, d_iff, IE.den, LE.den, AL.den, lenV, true_and, and_true, pcljN3_1, pcljN3_0, hF, pi2, pi3, pi4, pi5, pi6, pi7, pl1, pi8, pi9, pl3, pi10, pi11, pb1, pl2] at hp
  obtain ⟨p1, p2, p3, p4, p5, p6, p7, p8⟩ := hp
  refine (show (1 ≤ (ρ.i .i64 1010) ∧ Nu (ρ.z.rl 0) (ρ.i .i64 1011) (0 : Int) (0 : Int) (0 : Int) ∧ Tx (ρ.z.rl 0) (ρ.i .i64 1010) (ρ.i .i64 1011) ∧ (ρ.l 1012) = txsT (ρ.z.rl 0) (ρ.i .i64 1010).toNat ∧ (ρ.i .u64 1009) + (ρ.i .i64 1010) = rdV (ρ.z.rl 0) ∧ 1 ≤ (ρ.i .u64 1009) ∧ (rdV (ρ.z.rl 0) ≤ (ρ.i .i64 1) ∨ rdV (ρ.z.rl 0) ≤ 0) ∧ (ρ.z.rl 0).length ≤ 10000) ∧ ((12 * ((ρ.z.rl 0).length + 1 - (ρ.i .i64 1011).toNat) - 1 - (0 : Int).toNat : Nat) < 12 * ((ρ.z.rl 0).length + 1 - (ρ.i .i64 1011).toNat)) from ?_)
  obtain ⟨hj, t, hw, hn, h1, h2⟩ := hi
  have kr := tx_rng t
  exact ⟨⟨hj, nu0 kr (by omega), t, hw, hn, by omega, h1, h2⟩, by omega⟩
theorem vcljN3_2 : VC TTljN invljN msljN 3 tljN3 wljN3_2 := by
  intro ρ kn hi hp
  have hi : ivljN3 ρ := hi
  unfold ivljN3 at hi
  have hF : ρ.z.F = oct.Φ := kn.F
  simp only [h_nil, h_cons, d_le, d_eq, d_not, d_var, d_lit, d_cel, d_leq, d_fn, d_and, d_iff, IE.den, LE.den, AL.den, lenV, true_and, and_true, pcljN3_1, pcljN3_0, hF, pi2, pi3, pi4, pi5, pi6, pi7, pl1, pi8, pi9, pl3, pi10, pi11, pb1, pl2] at hp
  obtain ⟨p1, p2, p3, p4, p5, p6, p7, p8⟩ := hp
  refine (show (1 ≤ (ρ.i .i64 1010) ∧ Nu (ρ.z.rl 0) (ρ.i .i64 1011) (ρ.i .i64 1011) (0 : Int) (0 : Int) ∧ Tx (ρ.z.rl 0) (ρ.i .i64 1010) (ρ.i .i64 1011) ∧ (ρ.l 1012) = txsT (ρ.z.rl 0) (ρ.i .i64 1010).toNat ∧ (ρ.i .u64 1009) + (ρ.i .i64 1010) = rdV (ρ.z.rl 0) ∧ 1 ≤ (ρ.i .u64 1009) ∧ (rdV (ρ.z.rl 0) ≤ (ρ.i .i64 1) ∨ rdV (ρ.z.rl 0) ≤ 0) ∧ (ρ.z.rl 0).length ≤ 10000) ∧ ((12 * ((ρ.z.rl 0).length + 1 - (ρ.i .i64 1011).toNat) - 1 - (0 : Int).toNat : Nat) < 12 * ((ρ.z.rl 0).length + 1 - (ρ.i .i64 1011).toNat)) from ?_)
  obtain ⟨hj, t, hw, hn, h1, h2⟩ := hi
  have kr := tx_rng t
  exact ⟨⟨hj, nu0 kr (by omega), t, hw, hn, by omega, h1, h2⟩, by omega⟩
def ivljN4 (ρ : Rho) : Prop := Nu (ρ.z.rl 0) (ρ.i .i64 1003) (ρ.i .i64 1004) (ρ.i .i64 1007) (ρ.i .u64 1008) ∧ Tx (ρ.z.rl 0) 0 (ρ.i .i64 1003) ∧ (ρ.i .u64 1002) = rdV (ρ.z.rl 0) ∧ 1 ≤ (ρ.i .u64 1002) ∧ (rdV (ρ.z.rl 0) ≤ (ρ.i .i64 1) ∨ rdV (ρ.z.rl 0) ≤ 0) ∧ (ρ.z.rl 0).length ≤ 10000
theorem vcgljN4_0 : VC TTljN invljN msljN 4 tljN4 wljN4_0 ∧ VC TTljN invljN msljN 4 tljN4 wljN4_4 ∧ VC TTljN invljN msljN 4 tljN4 wljN4_8 ∧ VC TTljN invljN msljN 4 tljN4 wljN4_13 := by
  refine ⟨?_, ?_, ?_, ?_⟩
  all_goals
    intro ρ kn hi hp
    have hi : ivljN4 ρ := hi
    unfold ivljN4 at hi
    have hF : ρ.z.F = oct.Φ := kn.F
    simp only [h_nil, h_cons, d_le, d_eq, d_not, d_var, d_lit, d_cel, d_leq, d_fn, d_and, d_iff, IE.den, LE.den, AL.den, lenV, true_and, and_true, pcljN4_0, pcljN4_4, pcljN4_2, pcljN4_1, pcljN4_9, pcljN4_7, pcljN4_5, pcljN4_3, pcljN4_10, pcljN4_8, hF, pi2, pi3, pi4, pi5, pi6, pi7, pl1, pi8, pi9, pl3, pi10, pi11, pb1, pl2] at hp
    have p1 := And.left hp
    replace hp := And.right hp
    repeat (have _ := And.left hp; replace hp := And.right hp)
    refine all_cons (show (clampK .i64 (ρ.z.F.i 11 [.lst (ρ.z.rl 0), .int .i64 (ρ.i .i64 1)])) = (0 : Int) from ?_) (all_cons (show (clampK .i64 (ρ.z.F.i 10 [.lst (ρ.z.rl 0), .int .i64 (ρ.i .i64 1)])) = (110 : Int) from ?_) (all_nil))
    all_goals try simp only [hF, pi2, pi3, pi4, pi5, pi6, pi7, pl1, pi8, pi9, pl3, pi10, pi11, pb1, pl2]
    all_goals
      have hl := kn.ok.rl 0
      try simp only [rdE_in, rdN_in, rdV_in, txtE_in, txtN_ind hl, lsE_in, lsN_in hl] at *
      obtain ⟨u, t, hn, h0, h1, h2⟩ := hi
      have kr := tx_rng t
      first
        | (have k := nu_end u (by omega) (by omega); have k4 := text_no (R := (ρ.z.rl 0)) (a := (ρ.i .i64 1003)) (by omega); have q := tx_err (m := (ρ.i .i64 1)) t (by omega) h1 (e := txtE (List.drop ((ρ.i .i64 1003)).toNat (ρ.z.rl 0))) rfl (by omega); have q2 : lsN (ρ.z.rl 0) (ρ.i .i64 1) = 0 := lsN_no (by omega); omega)
        | (have k := nu_bad u (b := clampK .u8 (intV (celV (ρ.z.rl 0) ((ρ.i .i64 1004) + (ρ.i .i64 1007)) 0))) (by omega) (by omega) rfl (by omega); have k4 := text_no (R := (ρ.z.rl 0)) (a := (ρ.i .i64 1003)) (by omega); have q := tx_err (m := (ρ.i .i64 1)) t (by omega) h1 (e := txtE (List.drop ((ρ.i .i64 1003)).toNat (ρ.z.rl 0))) rfl (by omega); have q2 : lsN (ρ.z.rl 0) (ρ.i .i64 1) = 0 := lsN_no (by omega); omega)
        | (have k := nu_read u (b := clampK .u8 (intV (celV (ρ.z.rl 0) ((ρ.i .i64 1004) + (ρ.i .i64 1007)) 0))) (by omega) (by omega) rfl (by omega) (by omega) (by omega); have k4 := text_long kr k.1 k.2.1 k.2.2 (by omega); have q := tx_err (m := (ρ.i .i64 1)) t (by omega) h1 (e := txtE (List.drop ((ρ.i .i64 1003)).toNat (ρ.z.rl 0))) rfl (by omega); have q2 : lsN (ρ.z.rl 0) (ρ.i .i64 1) = 0 := lsN_no (by omega); omega)
theorem vcljN4_1 : VC TTljN invljN msljN 4 tljN4 wljN4_1 := by
  intro ρ kn hi hp
  have hi : ivljN4 ρ := hi
  unfold ivljN4 at hi
  have hF : ρ.z.F = oct.Φ := kn.F
  simp only [h_nil, h_cons, d_le, d_eq, d_not, d_var, d_lit, d_cel, d_leq, d_fn, d_and, d_iff, IE.den, LE.den, AL.den, lenV, true_and, and_true, pcljN4_2, pcljN4_1, pcljN4_0, hF, pi2, pi3, pi4, pi5, pi6, pi7, pl1, pi8, pi9, pl3, pi10, pi11, pb1, pl2] at hp
  obtain ⟨p1, p2, p3, p4, p5, p6, p7, p8, p9, p10, p11, p12, p13⟩ := hp
  refine (show (Nu (ρ.z.rl 0) (ρ.i .i64 1003) (ρ.i .i64 1004) ((ρ.i .i64 1007) + (1 : Int)) (binI BinOp.or .u64 (ρ.i .u64 1008) (binI BinOp.shl .u64 (binI BinOp.and .u8 (clampK .u8 (intV (celV (ρ.z.rl 0) ((ρ.i .i64 1004) + (ρ.i .i64 1007)) 0))) (127 : Int)) ((7 : Int) * (ρ.i .i64 1007)))) ∧ Tx (ρ.z.rl 0) 0 (ρ.i .i64 1003) ∧ (ρ.i .u64 1002) = rdV (ρ.z.rl 0) ∧ 1 ≤ (ρ.i .u64 1002) ∧ (rdV (ρ.z.rl 0) ≤ (ρ.i .i64 1) ∨ rdV (ρ.z.rl 0) ≤ 0) ∧ (ρ.z.rl 0).length ≤ 10000) ∧ ((12 * ((ρ.z.rl 0).length + 1 - (ρ.i .i64 1003).toNat) - 1 - ((ρ.i .i64 1007) + (1 : Int)).toNat : Nat) < 12 * ((ρ.z.rl 0).length + 1 - (ρ.i .i64 1003).toNat) - 1 - (ρ.i .i64 1007).toNat) from ?_)
  obtain ⟨u, t, hn, h0, h1, h2⟩ := hi
  have kr := tx_rng t
  exact ⟨⟨nu_go u (b := clampK .u8 (intV (celV (ρ.z.rl 0) ((ρ.i .i64 1004) + (ρ.i .i64 1007)) 0))) (by omega) (by omega) rfl (by omega) (by omega) (by omega), t, hn, h0, h1, h2⟩, by omega⟩
theorem vcljN4_2 : VC TTljN invljN msljN 4 tljN4 wljN4_2 := by
  intro ρ kn hi hp
  have hi : ivljN4 ρ := hi
  unfold ivljN4 at hi
  have hF : ρ.z.F = oct.Φ := kn.F
  simp only [h_nil, h_cons, d_le, d_eq, d_not, d_var, d_lit, d_cel, d_leq, d_fn, d_and, d_iff, IE.den, LE.den, AL.den, lenV, true_and, and_true, pcljN4_6, pcljN4_4, pcljN4_2, pcljN4_1, pcljN4_0, hF, pi2, pi3, pi4, pi5, pi6, pi7, pl1, pi8, pi9, pl3, pi10, pi11, pb1, pl2] at hp
  obtain ⟨p1, p2, p3, p4, p5, p6, p7, p8, p9, p10, p11, p12, p13, p14, p15⟩ := hp
  refine (show (1 ≤ (1 : Int) ∧ Tx (ρ.z.rl 0) (1 : Int) (((ρ.i .i64 1003) + ((ρ.i .i64 1007) + (1 : Int))) + (binI BinOp.or .u64 (ρ.i .u64 1008) (binI BinOp.shl .u64 (binI BinOp.and .u8 (clampK .u8 (intV (celV (ρ.z.rl 0) ((ρ.i .i64 1004) + (ρ.i .i64 1007)) 0))) (127 : Int)) ((7 : Int) * (ρ.i .i64 1007))))) ∧ ([[Go.Value.string (byteL ((ρ.z.rl 0).take (binI BinOp.or .u64 (ρ.i .u64 1008) (binI BinOp.shl .u64 (binI BinOp.and .u8 (clampK .u8 (intV (celV (ρ.z.rl 0) ((ρ.i .i64 1004) + (ρ.i .i64 1007)) 0))) (127 : Int)) ((7 : Int) * (ρ.i .i64 1007)))).toNat))]] : LV) = txsT (ρ.z.rl 0) (1 : Int).toNat ∧ ((ρ.i .u64 1002) - (1 : Int)) + (1 : Int) = rdV (ρ.z.rl 0) ∧ (rdV (ρ.z.rl 0) ≤ (ρ.i .i64 1) ∨ rdV (ρ.z.rl 0) ≤ 0) ∧ (ρ.z.rl 0).length ≤ 10000) ∧ ((12 * ((ρ.z.rl 0).length + 1 - (((ρ.i .i64 1003) + ((ρ.i .i64 1007) + (1 : Int))) + (binI BinOp.or .u64 (ρ.i .u64 1008) (binI BinOp.shl .u64 (binI BinOp.and .u8 (clampK .u8 (intV (celV (ρ.z.rl 0) ((ρ.i .i64 1004) + (ρ.i .i64 1007)) 0))) (127 : Int)) ((7 : Int) * (ρ.i .i64 1007))))).toNat) : Nat) < 12 * ((ρ.z.rl 0).length + 1 - (ρ.i .i64 1003).toNat) - 1 - (ρ.i .i64 1007).toNat) from ?_)
  obtain ⟨u, t, hn, h0, h1, h2⟩ := hi
  have kr := tx_rng t
  obtain ⟨k1, k2, k3⟩ := nu_read u (b := clampK .u8 (intV (celV (ρ.z.rl 0) ((ρ.i .i64 1004) + (ρ.i .i64 1007)) 0))) (by omega) (by omega) rfl (by omega) (by omega) (by omega)
  have kv := rdV_rng (List.drop ((ρ.i .i64 1003)).toNat (ρ.z.rl 0))
  rw [k3] at kv
  have hT := kn.rom 0 _ _ rfl
  obtain ⟨e1, e2, e3⟩ := text_ok hT kr k1 k2 k3 (by omega) (by omega)
  have t2 := txs t e1
  have w2 := txs_s t (W := []) rfl
  rw [e2, ← Int.add_assoc] at t2
  rw [e3] at w2
  refine ⟨⟨by omega, t2, ?_, by omega, h1, h2⟩, by omega⟩
  first
    | exact w2
    | (rw [show ∀ x : Int, x = 0 → x.toNat = 0 from fun x h => by omega] at w2 ⊢
       · simp only [List.take_zero] at w2 ⊢
         exact w2
       all_goals omega)
theorem vcljN4_3 : VC TTljN invljN msljN 4 tljN4 wljN4_3 := by
  intro ρ kn hi hp
  have hi : ivljN4 ρ := hi
  unfold ivljN4 at hi
  have hF : ρ.z.F = oct.Φ := kn.F
  simp only [h_nil, h_cons, d_le, d_eq, d_not, d_var, d_lit, d_cel, d_leq, d_fn, d_and, d_iff, IE.den, LE.den, AL.den, lenV, true_and, and_true, pcljN4_6, pcljN4_4, pcljN4_2, pcljN4_1, pcljN4_0, hF, pi2, pi3, pi4, pi5, pi6, pi7, pl1, pi8, pi9, pl3, pi10, pi11, pb1, pl2] at hp
  obtain ⟨p1, p2, p3, p4, p5, p6, p7, p8, p9, p10, p11, p12, p13, p14, p15⟩ := hp
  refine (show (1 ≤ (1 : Int) ∧ Tx (ρ.z.rl 0) (1 : Int) (((ρ.i .i64 1003) + ((ρ.i .i64 1007) + (1 : Int))) + (binI BinOp.or .u64 (ρ.i .u64 1008) (binI BinOp.shl .u64 (binI BinOp.and .u8 (clampK .u8 (intV (celV (ρ.z.rl 0) ((ρ.i .i64 1004) + (ρ.i .i64 1007)) 0))) (127 : Int)) ((7 : Int) * (ρ.i .i64 1007))))) ∧ ([[Go.Value.string (byteL (((ρ.z.rl 0).drop ((ρ.i .i64 1003) + ((ρ.i .i64 1007) + (1 : Int))).toNat).take (binI BinOp.or .u64 (ρ.i .u64 1008) (binI BinOp.shl .u64 (binI BinOp.and .u8 (clampK .u8 (intV (celV (ρ.z.rl 0) ((ρ.i .i64 1004) + (ρ.i .i64 1007)) 0))) (127 : Int)) ((7 : Int) * (ρ.i .i64 1007)))).toNat))]] : LV) = txsT (ρ.z.rl 0) (1 : Int).toNat ∧ ((ρ.i .u64 1002) - (1 : Int)) + (1 : Int) = rdV (ρ.z.rl 0) ∧ (rdV (ρ.z.rl 0) ≤ (ρ.i .i64 1) ∨ rdV (ρ.z.rl 0) ≤ 0) ∧ (ρ.z.rl 0).length ≤ 10000) ∧ ((12 * ((ρ.z.rl 0).length + 1 - (((ρ.i .i64 1003) + ((ρ.i .i64 1007) + (1 : Int))) + (binI BinOp.or .u64 (ρ.i .u64 1008) (binI BinOp.shl .u64 (binI BinOp.and .u8 (clampK .u8 (intV (celV (ρ.z.rl 0) ((ρ.i .i64 1004) + (ρ.i .i64 1007)) 0))) (127 : Int)) ((7 : Int) * (ρ.i .i64 1007))))).toNat) : Nat) < 12 * ((ρ.z.rl 0).length + 1 - (ρ.i .i64 1003).toNat) - 1 - (ρ.i .i64 1007).toNat) from ?_)
  obtain ⟨u, t, hn, h0, h1, h2⟩ := hi
  have kr := tx_rng t
  obtain ⟨k1, k2, k3⟩ := nu_read u (b := clampK .u8 (intV (celV (ρ.z.rl 0) ((ρ.i .i64 1004) + (ρ.i .i64 1007)) 0))) (by omega) (by omega) rfl (by omega) (by omega) (by omega)
  have kv := rdV_rng (List.drop ((ρ.i .i64 1003)).toNat (ρ.z.rl 0))
  rw [k3] at kv
  have hT := kn.rom 0 _ _ rfl
  obtain ⟨e1, e2, e3⟩ := text_ok hT kr k1 k2 k3 (by omega) (by omega)
  have t2 := txs t e1
  have w2 := txs_s t (W := []) rfl
  rw [e2, ← Int.add_assoc] at t2
  rw [e3] at w2
  refine ⟨⟨by omega, t2, ?_, by omega, h1, h2⟩, by omega⟩
  first
    | exact w2
    | (rw [show ∀ x : Int, x = 0 → x.toNat = 0 from fun x h => by omega] at w2 ⊢
       · simp only [List.take_zero] at w2 ⊢
         exact w2
       all_goals omega)
theorem vcljN4_5 : VC TTljN invljN msljN 4 tljN4 wljN4_5 := by
  intro ρ kn hi hp
  have hi : ivljN4 ρ := hi
  unfold ivljN4 at hi
  have hF : ρ.z.F = oct.Φ := kn.F
  simp only [h_nil, h_cons, d_le, d_eq, d_not, d_var, d_lit, d_cel, d_leq, d_fn, d_and, d_iff, IE.den, LE.den, AL.den, lenV, true_and, and_true, pcljN4_3, pcljN4_1, pcljN4_0, hF, pi2, pi3, pi4, pi5, pi6, pi7, pl1, pi8, pi9, pl3, pi10, pi11, pb1, pl2] at hp
  obtain ⟨p1, p2, p3, p4, p5, p6, p7, p8, p9, p10, p11, p12, p13⟩ := hp
  refine all_cons (show (clampK .i64 (ρ.z.F.i 11 [.lst (ρ.z.rl 0), .int .i64 (ρ.i .i64 1)])) = (0 : Int) from ?_) (all_cons (show (clampK .i64 (ρ.z.F.i 10 [.lst (ρ.z.rl 0), .int .i64 (ρ.i .i64 1)])) = (111 : Int) from ?_) (all_nil))
  all_goals try simp only [hF, pi2, pi3, pi4, pi5, pi6, pi7, pl1, pi8, pi9, pl3, pi10, pi11, pb1, pl2]
  all_goals
    have hl := kn.ok.rl 0
    try simp only [rdE_in, rdN_in, rdV_in, txtE_in, txtN_ind hl, lsE_in, lsN_in hl] at *
    obtain ⟨u, t, hn, h0, h1, h2⟩ := hi
    have kr := tx_rng t
    first
      | (have k := nu_end u (by omega) (by omega); have k4 := text_no (R := (ρ.z.rl 0)) (a := (ρ.i .i64 1003)) (by omega); have q := tx_err (m := (ρ.i .i64 1)) t (by omega) h1 (e := txtE (List.drop ((ρ.i .i64 1003)).toNat (ρ.z.rl 0))) rfl (by omega); have q2 : lsN (ρ.z.rl 0) (ρ.i .i64 1) = 0 := lsN_no (by omega); omega)
      | (have k := nu_bad u (b := clampK .u8 (intV (celV (ρ.z.rl 0) ((ρ.i .i64 1004) + (ρ.i .i64 1007)) 0))) (by omega) (by omega) rfl (by omega); have k4 := text_no (R := (ρ.z.rl 0)) (a := (ρ.i .i64 1003)) (by omega); have q := tx_err (m := (ρ.i .i64 1)) t (by omega) h1 (e := txtE (List.drop ((ρ.i .i64 1003)).toNat (ρ.z.rl 0))) rfl (by omega); have q2 : lsN (ρ.z.rl 0) (ρ.i .i64 1) = 0 := lsN_no (by omega); omega)
      | (have k := nu_read u (b := clampK .u8 (intV (celV (ρ.z.rl 0) ((ρ.i .i64 1004) + (ρ.i .i64 1007)) 0))) (by omega) (by omega) rfl (by omega) (by omega) (by omega); have k4 := text_long kr k.1 k.2.1 k.2.2 (by omega); have q := tx_err (m := (ρ.i .i64 1)) t (by omega) h1 (e := txtE (List.drop ((ρ.i .i64 1003)).toNat (ρ.z.rl 0))) rfl (by omega); have q2 : lsN (ρ.z.rl 0) (ρ.i .i64 1) = 0 := lsN_no (by omega); omega)
theorem vcljN4_6 : VC TTljN invljN msljN 4 tljN4 wljN4_6 := by
  intro ρ kn hi hp
  have hi : ivljN4 ρ := hi
  unfold ivljN4 at hi
  have hF : ρ.z.F = oct.Φ := kn.F
  simp only [h_nil, h_cons, d_le, d_eq, d_not, d_var, d_lit, d_cel, d_leq, d_fn, d_and, d_iff, IE.den, LE.den, AL.den, lenV, true_and, and_true, pcljN4_11, pcljN4_9, pcljN4_7, pcljN4_5, pcljN4_3, pcljN4_1, pcljN4_0, hF, pi2, pi3, pi4, pi5, pi6, pi7, pl1, pi8, pi9, pl3, pi10, pi11, pb1, pl2] at hp
  obtain ⟨p1, p2, p3, p4, p5, p6, p7, p8, p9, p10, p11, p12, p13, p14, p15, p16, p17⟩ := hp
  refine (show (1 ≤ (1 : Int) ∧ Tx (ρ.z.rl 0) (1 : Int) (((ρ.i .i64 1003) + ((ρ.i .i64 1007) + (1 : Int))) + (binI BinOp.or .u64 (ρ.i .u64 1008) (binI BinOp.shl .u64 (binI BinOp.and .u8 (clampK .u8 (intV (celV (ρ.z.rl 0) ((ρ.i .i64 1004) + (ρ.i .i64 1007)) 0))) (127 : Int)) ((7 : Int) * (ρ.i .i64 1007))))) ∧ ([[Go.Value.string (byteL ((ρ.z.rl 0).take (binI BinOp.or .u64 (ρ.i .u64 1008) (binI BinOp.shl .u64 (binI BinOp.and .u8 (clampK .u8 (intV (celV (ρ.z.rl 0) ((ρ.i .i64 1004) + (ρ.i .i64 1007)) 0))) (127 : Int)) ((7 : Int) * (ρ.i .i64 1007)))).toNat))]] : LV) = txsT (ρ.z.rl 0) (1 : Int).toNat ∧ ((ρ.i .u64 1002) - (1 : Int)) + (1 : Int) = rdV (ρ.z.rl 0) ∧ (rdV (ρ.z.rl 0) ≤ (ρ.i .i64 1) ∨ rdV (ρ.z.rl 0) ≤ 0) ∧ (ρ.z.rl 0).length ≤ 10000) ∧ ((12 * ((ρ.z.rl 0).length + 1 - (((ρ.i .i64 1003) + ((ρ.i .i64 1007) + (1 : Int))) + (binI BinOp.or .u64 (ρ.i .u64 1008) (binI BinOp.shl .u64 (binI BinOp.and .u8 (clampK .u8 (intV (celV (ρ.z.rl 0) ((ρ.i .i64 1004) + (ρ.i .i64 1007)) 0))) (127 : Int)) ((7 : Int) * (ρ.i .i64 1007))))).toNat) : Nat) < 12 * ((ρ.z.rl 0).length + 1 - (ρ.i .i64 1003).toNat) - 1 - (ρ.i .i64 1007).toNat) from ?_)
  obtain ⟨u, t, hn, h0, h1, h2⟩ := hi
  have kr := tx_rng t
  obtain ⟨k1, k2, k3⟩ := nu_read u (b := clampK .u8 (intV (celV (ρ.z.rl 0) ((ρ.i .i64 1004) + (ρ.i .i64 1007)) 0))) (by omega) (by omega) rfl (by omega) (by omega) (by omega)
  have kv := rdV_rng (List.drop ((ρ.i .i64 1003)).toNat (ρ.z.rl 0))
  rw [k3] at kv
  have hT := kn.rom 0 _ _ rfl
  obtain ⟨e1, e2, e3⟩ := text_ok hT kr k1 k2 k3 (by omega) (by omega)
  have t2 := txs t e1
  have w2 := txs_s t (W := []) rfl
  rw [e2, ← Int.add_assoc] at t2
  rw [e3] at w2
  refine ⟨⟨by omega, t2, ?_, by omega, h1, h2⟩, by omega⟩
  first
    | exact w2
    | (rw [show ∀ x : Int, x = 0 → x.toNat = 0 from fun x h => by omega] at w2 ⊢
       · simp only [List.take_zero] at w2 ⊢
         exact w2
       all_goals omega)
theorem vcljN4_7 : VC TTljN invljN msljN 4 tljN4 wljN4_7 := by
  intro ρ kn hi hp
  have hi : ivljN4 ρ := hi
  unfold ivljN4 at hi
  have hF : ρ.z.F = oct.Φ := kn.F
  simp only [h_nil, h_cons, d_le, d_eq, d_not, d_var, d_lit, d_cel, d_leq, d_fn, d_and, d_iff, IE.den, LE.den, AL.den, lenV, true_and, and_true, pcljN4_11, pcljN4_9, pcljN4_7, pcljN4_5, pcljN4_3, pcljN4_1, pcljN4_0, hF, pi2, pi3, pi4, pi5, pi6, pi7, pl1, pi8, pi9, pl3, pi10, pi11, pb1, pl2] at hp
  obtain ⟨p1, p2, p3, p4, p5, p6, p7, p8, p9, p10, p11, p12, p13, p14, p15, p16, p17⟩ := hp
  refine (show (1 ≤ (1 : Int) ∧ Tx (ρ.z.rl 0) (1 : Int) (((ρ.i .i64 1003) + ((ρ.i .i64 1007) + (1 : Int))) + (binI BinOp.or .u64 (ρ.i .u64 1008) (binI BinOp.shl .u64 (binI BinOp.and .u8 (clampK .u8 (intV (celV (ρ.z.rl 0) ((ρ.i .i64 1004) + (ρ.i .i64 1007)) 0))) (127 : Int)) ((7 : Int) * (ρ.i .i64 1007))))) ∧ ([[Go.Value.string (byteL (((ρ.z.rl 0).drop ((ρ.i .i64 1003) + ((ρ.i .i64 1007) + (1 : Int))).toNat).take (binI BinOp.or .u64 (ρ.i .u64 1008) (binI BinOp.shl .u64 (binI BinOp.and .u8 (clampK .u8 (intV (celV (ρ.z.rl 0) ((ρ.i .i64 1004) + (ρ.i .i64 1007)) 0))) (127 : Int)) ((7 : Int) * (ρ.i .i64 1007)))).toNat))]] : LV) = txsT (ρ.z.rl 0) (1 : Int).toNat ∧ ((ρ.i .u64 1002) - (1 : Int)) + (1 : Int) = rdV (ρ.z.rl 0) ∧ (rdV (ρ.z.rl 0) ≤ (ρ.i .i64 1) ∨ rdV (ρ.z.rl 0) ≤ 0) ∧ (ρ.z.rl 0).length ≤ 10000) ∧ ((12 * ((ρ.z.rl 0).length + 1 - (((ρ.i .i64 1003) + ((ρ.i .i64 1007) + (1 : Int))) + (binI BinOp.or .u64 (ρ.i .u64 1008) (binI BinOp.shl .u64 (binI BinOp.and .u8 (clampK .u8 (intV (celV (ρ.z.rl 0) ((ρ.i .i64 1004) + (ρ.i .i64 1007)) 0))) (127 : Int)) ((7 : Int) * (ρ.i .i64 1007))))).toNat) : Nat) < 12 * ((ρ.z.rl 0).length + 1 - (ρ.i .i64 1003).toNat) - 1 - (ρ.i .i64 1007).toNat) from ?_)
  obtain ⟨u, t, hn, h0, h1, h2⟩ := hi
  have kr := tx_rng t
  obtain ⟨k1, k2, k3⟩ := nu_read u (b := clampK .u8 (intV (celV (ρ.z.rl 0) ((ρ.i .i64 1004) + (ρ.i .i64 1007)) 0))) (by omega) (by omega) rfl (by omega) (by omega) (by omega)
  have kv := rdV_rng (List.drop ((ρ.i .i64 1003)).toNat (ρ.z.rl 0))
  rw [k3] at kv
  have hT := kn.rom 0 _ _ rfl
  obtain ⟨e1, e2, e3⟩ := text_ok hT kr k1 k2 k3 (by omega) (by omega)
  have t2 := txs t e1
  have w2 := txs_s t (W := []) rfl
  rw [e2, ← Int.add_assoc] at t2
  rw [e3] at w2
  refine ⟨⟨by omega, t2, ?_, by omega, h1, h2⟩, by omega⟩
  first
    | exact w2
    | (rw [show ∀ x : Int, x = 0 → x.toNat = 0 from fun x h => by omega] at w2 ⊢
       · simp only [List.take_zero] at w2 ⊢
         exact w2
       all_goals omega)
theorem vcljN4_9 : VC TTljN invljN msljN 4 tljN4 wljN4_9 := by
  intro ρ kn hi hp
  have hi : ivljN4 ρ := hi
  unfold ivljN4 at hi
  have hF : ρ.z.F = oct.Φ := kn.F
  simp only [h_nil, h_cons, d_le, d_eq, d_not, d_var, d_lit, d_cel, d_leq, d_fn, d_and, d_iff, IE.den, LE.den, AL.den, lenV, true_and, and_true, pcljN4_7, pcljN4_5, pcljN4_3, pcljN4_1, pcljN4_0, hF, pi2, pi3, pi4, pi5, pi6, pi7, pl1, pi8, pi9, pl3, pi10, pi11, pb1, pl2] at hp
  obtain ⟨p1, p2, p3, p4, p5, p6, p7, p8, p9, p10, p11, p12, p13, p14, p15⟩ := hp
  refine all_cons (show (clampK .i64 (ρ.z.F.i 11 [.lst (ρ.z.rl 0), .int .i64 (ρ.i .i64 1)])) = (0 : Int) from ?_) (all_cons (show (clampK .i64 (ρ.z.F.i 10 [.lst (ρ.z.rl 0), .int .i64 (ρ.i .i64 1)])) = (111 : Int) from ?_) (all_nil))
  all_goals try simp only [hF, pi2, pi3, pi4, pi5, pi6, pi7, pl1, pi8, pi9, pl3, pi10, pi11, pb1, pl2]
  all_goals
    have hl := kn.ok.rl 0
    try simp only [rdE_in, rdN_in, rdV_in, txtE_in, txtN_ind hl, lsE_in, lsN_in hl] at *
    obtain ⟨u, t, hn, h0, h1, h2⟩ := hi
    have kr := tx_rng t
    first
      | (have k := nu_end u (by omega) (by omega); have k4 := text_no (R := (ρ.z.rl 0)) (a := (ρ.i .i64 1003)) (by omega); have q := tx_err (m := (ρ.i .i64 1)) t (by omega) h1 (e := txtE (List.drop ((ρ.i .i64 1003)).toNat (ρ.z.rl 0))) rfl (by omega); have q2 : lsN (ρ.z.rl 0) (ρ.i .i64 1) = 0 := lsN_no (by omega); omega)
      | (have k := nu_bad u (b := clampK .u8 (intV (celV (ρ.z.rl 0) ((ρ.i .i64 1004) + (ρ.i .i64 1007)) 0))) (by omega) (by omega) rfl (by omega); have k4 := text_no (R := (ρ.z.rl 0)) (a := (ρ.i .i64 1003)) (by omega); have q := tx_err (m := (ρ.i .i64 1)) t (by omega) h1 (e := txtE (List.drop ((ρ.i .i64 1003)).toNat (ρ.z.rl 0))) rfl (by omega); have q2 : lsN (ρ.z.rl 0) (ρ.i .i64 1) = 0 := lsN_no (by omega); omega)
      | (have k := nu_read u (b := clampK .u8 (intV (celV (ρ.z.rl 0) ((ρ.i .i64 1004) + (ρ.i .i64 1007)) 0))) (by omega) (by omega) rfl (by omega) (by omega) (by omega); have k4 := text_long kr k.1 k.2.1 k.2.2 (by omega); have q := tx_err (m := (ρ.i .i64 1)) t (by omega) h1 (e := txtE (List.drop ((ρ.i .i64 1003)).toNat (ρ.z.rl 0))) rfl (by omega); have q2 : lsN (ρ.z.rl 0) (ρ.i .i64 1) = 0 := lsN_no (by omega); omega)
theorem vcljN4_10 : VC TTljN invljN msljN 4 tljN4 wljN4_10 := by
  intro ρ kn hi hp
  have hi : ivljN4 ρ := hi
  unfold ivljN4 at hi
  have hF : ρ.z.F = oct.Φ := kn.F
  simp only [h_nil, h_cons, d_le, d_eq, d_not, d_var, d_lit, d_cel, d_leq, d_fn, d_and, d_iff, IE.den, LE.den, AL.den, lenV, true_and, and_true, pcljN4_8, pcljN4_5, pcljN4_3, pcljN4_1, pcljN4_0, hF, pi2, pi3, pi4, pi5, pi6, pi7, pl1, pi8, pi9, pl3, pi10, pi11, pb1, pl2] at hp
  obtain ⟨p1, p2, p3, p4, p5, p6, p7, p8, p9, p10, p11, p12, p13, p14, p15⟩ := hp
  refine (show (Nu (ρ.z.rl 0) (ρ.i .i64 1003) (ρ.i .i64 1004) ((ρ.i .i64 1007) + (1 : Int)) (binI BinOp.or .u64 (ρ.i .u64 1008) (binI BinOp.shl .u64 (binI BinOp.and .u8 (clampK .u8 (intV (celV (ρ.z.rl 0) ((ρ.i .i64 1004) + (ρ.i .i64 1007)) 0))) (127 : Int)) ((7 : Int) * (ρ.i .i64 1007)))) ∧ Tx (ρ.z.rl 0) 0 (ρ.i .i64 1003) ∧ (ρ.i .u64 1002) = rdV (ρ.z.rl 0) ∧ 1 ≤ (ρ.i .u64 1002) ∧ (rdV (ρ.z.rl 0) ≤ (ρ.i .i64 1) ∨ rdV (ρ.z.rl 0) ≤ 0) ∧ (ρ.z.rl 0).length ≤ 10000) ∧ ((12 * ((ρ.z.rl 0).length + 1 - (ρ.i .i64 1003).toNat) - 1 - ((ρ.i .i64 1007) + (1 : Int)).toNat : Nat) < 12 * ((ρ.z.rl 0).length + 1 - (ρ.i .i64 1003).toNat) - 1 - (ρ.i .i64 1007).toNat) from ?_)
  obtain ⟨u, t, hn, h0, h1, h2⟩ := hi
  have kr := tx_rng t
  exact ⟨⟨nu_go u (b := clampK .u8 (intV (celV (ρ.z.rl 0) ((ρ.i .i64 1004) + (ρ.i .i64 1007)) 0))) (by omega) (by omega) rfl (by omega) (by omega) (by omega), t, hn, h0, h1, h2⟩, by omega⟩
theorem vcljN4_11 : VC TTljN invljN msljN 4 tljN4 wljN4_11 := by
  intro ρ kn hi hp
  have hi : ivljN4 ρ := hi
  unfold ivljN4 at hi
  have hF : ρ.z.F = oct.Φ := kn.F
  simp only [h_nil, h_cons, d_le, d_eq, d_not, d_var, d_lit, d_cel, d_leq, d_fn, d_and, d_iff, IE.den, LE.den, AL.den, lenV, true_and, and_true, pcljN4_12, pcljN4_10, pcljN4_8, pcljN4_5, pcljN4_3, pcljN4_1, pcljN4_0, hF, pi2, pi3, pi4, pi5, pi6, pi7, pl1, pi8, pi9, pl3, pi10, pi11, pb1, pl2] at hp
  obtain ⟨p1, p2, p3, p4, p5, p6, p7, p8, p9, p10, p11, p12, p13, p14, p15, p16, p17⟩ := hp
  refine (show (1 ≤ (1 : Int) ∧ Tx (ρ.z.rl 0) (1 : Int) (((ρ.i .i64 1003) + ((ρ.i .i64 1007) + (1 : Int))) + (binI BinOp.or .u64 (ρ.i .u64 1008) (binI BinOp.shl .u64 (binI BinOp.and .u8 (clampK .u8 (intV (celV (ρ.z.rl 0) ((ρ.i .i64 1004) + (ρ.i .i64 1007)) 0))) (127 : Int)) ((7 : Int) * (ρ.i .i64 1007))))) ∧ ([[Go.Value.string (byteL ((ρ.z.rl 0).take (binI BinOp.or .u64 (ρ.i .u64 1008) (binI BinOp.shl .u64 (binI BinOp.and .u8 (clampK .u8 (intV (celV (ρ.z.rl 0) ((ρ.i .i64 1004) + (ρ.i .i64 1007)) 0))) (127 : Int)) ((7 : Int) * (ρ.i .i64 1007)))).toNat))]] : LV) = txsT (ρ.z.rl 0) (1 : Int).toNat ∧ ((ρ.i .u64 1002) - (1 : Int)) + (1 : Int) = rdV (ρ.z.rl 0) ∧ (rdV (ρ.z.rl 0) ≤ (ρ.i .i64 1) ∨ rdV (ρ.z.rl 0) ≤ 0) ∧ (ρ.z.rl 0).length ≤ 10000) ∧ ((12 * ((ρ.z.rl 0).length + 1 - (((ρ.i .i64 1003) + ((ρ.i .i64 1007) + (1 : Int))) + (binI BinOp.or .u64 (ρ.i .u64 1008) (binI BinOp.shl .u64 (binI BinOp.and .u8 (clampK .u8 (intV (celV (ρ.z.rl 0) ((ρ.i .i64 1004) + (ρ.i .i64 1007)) 0))) (127 : Int)) ((7 : Int) * (ρ.i .i64 1007))))).toNat) : Nat) < 12 * ((ρ.z.rl 0).length + 1 - (ρ.i .i64 1003).toNat) - 1 - (ρ.i .i64 1007).toNat) from ?_)
  obtain ⟨u, t, hn, h0, h1, h2⟩ := hi
  have kr := tx_rng t
  obtain ⟨k1, k2, k3⟩ := nu_read u (b := clampK .u8 (intV (celV (ρ.z.rl 0) ((ρ.i .i64 1004) + (ρ.i .i64 1007)) 0))) (by omega) (by omega) rfl (by omega) (by omega) (by omega)
  have kv := rdV_rng (List.drop ((ρ.i .i64 1003)).toNat (ρ.z.rl 0))
  rw [k3] at kv
  have hT := kn.rom 0 _ _ rfl
  obtain ⟨e1, e2, e3⟩ := text_ok hT kr k1 k2 k3 (by omega) (by omega)
  have t2 := txs t e1
  have w2 := txs_s t (W := []) rfl
  rw [e2, ← Int.add_assoc] at t2
  rw [e3] at w2
  refine ⟨⟨by omega, t2, ?_, by omega, h1, h2⟩, by omega⟩
  first
    | exact w2
    | (rw [show ∀ x : Int, x = 0 → x.toNat = 0 from fun x h => by omega] at w2 ⊢
       · simp only [List.take_zero] at w2 ⊢
         exact w2
       all_goals omega)
theorem vcljN4_12 : VC TTljN invljN msljN 4 tljN4 wljN4_12 := by
  intro ρ kn hi hp
  have hi : ivljN4 ρ := hi
  unfold ivljN4 at hi
  have hF : ρ.z.F = oct.Φ := kn.F
  simp only [h_nil, h_cons, d_le, d_eq, d_not, d_var, d_lit, d_cel, d_leq, d_fn, d_and, d_iff, IE.den, LE.den, AL.den, lenV, true_and, and_true, pcljN4_12, pcljN4_10, pcljN4_8, pcljN4_5, pcljN4_3, pcljN4_1, pcljN4_0, hF, pi2, pi3, pi4, pi5, pi6, pi7, pl1, pi8, pi9, pl3, pi10, pi11, pb1, pl2] at hp
  obtain ⟨p1, p2, p3, p4, p5, p6, p7, p8, p9, p10, p11, p12, p13, p14, p15, p16, p17⟩ := hp
  refine (show (1 ≤ (1 : Int) ∧ Tx (ρ.z.rl 0) (1 : Int) (((ρ.i .i64 1003) + ((ρ.i .i64 1007) + (1 : Int))) + (binI BinOp.or .u64 (ρ.i .u64 1008) (binI BinOp.shl .u64 (binI BinOp.and .u8 (clampK .u8 (intV (celV (ρ.z.rl 0) ((ρ.i .i64 1004) + (ρ.i .i64 1007)) 0))) (127 : Int)) ((7 : Int) * (ρ.i .i64 1007))))) ∧ ([[Go.Value.string (byteL (((ρ.z.rl 0).drop ((ρ.i .i64 1003) + ((ρ.i .i64 1007) + (1 : Int))).toNat).take (binI BinOp.or .u64 (ρ.i .u64 1008) (binI BinOp.shl .u64 (binI BinOp.and .u8 (clampK .u8 (intV (celV (ρ.z.rl 0) ((ρ.i .i64 1004) + (ρ.i .i64 1007)) 0))) (127 : Int)) ((7 : Int) * (ρ.i .i64 1007)))).toNat))]] : LV) = txsT (ρ.z.rl 0) (1 : Int).toNat ∧ ((ρ.i .u64 1002) - (1 : Int)) + (1 : Int) = rdV (ρ.z.rl 0) ∧ (rdV (ρ.z.rl 0) ≤ (ρ.i .i64 1) ∨ rdV (ρ.z.rl 0) ≤ 0) ∧ (ρ.z.rl 0).length ≤ 10000) ∧ ((12 * ((ρ.z.rl 0).length + 1 - (((ρ.i .i64 1003) + ((ρ.i .i64 1007) + (1 : Int))) + (binI BinOp.or .u64 (ρ.i .u64 1008) (binI BinOp.shl .u64 (binI BinOp.and .u8 (clampK .u8 (intV (celV (ρ.z.rl 0) ((ρ.i .i64 1004) + (ρ.i .i64 1007)) 0))) (127 : Int)) ((7 : Int) * (ρ.i .i64 1007))))).toNat) : Nat) < 12 * ((ρ.z.rl 0).length + 1 - (ρ.i .i64 1003).toNat) - 1 - (ρ.i .i64 1007).toNat) from ?_)
  obtain ⟨u, t, hn, h0, h1, h2⟩ := hi
  have kr := tx_rng t
  obtain ⟨k1, k2, k3⟩ := nu_read u (b := clampK .u8 (intV (celV (ρ.z.rl 0) ((ρ.i .i64 1004) + (ρ.i .i64 1007)) 0))) (by omega) (by omega) rfl (by omega) (by omega) (by omega)
  have kv := rdV_rng (List.drop ((ρ.i .i64 1003)).toNat (ρ.z.rl 0))
  rw [k3] at kv
  have hT := kn.rom 0 _ _ rfl
  obtain ⟨e1, e2, e3⟩ := text_ok hT kr k1 k2 k3 (by omega) (by omega)
  have t2 := txs t e1
  have w2 := txs_s t (W := []) rfl
  rw [e2, ← Int.add_assoc] at t2
  rw [e3] at w2
  refine ⟨⟨by omega, t2, ?_, by omega, h1, h2⟩, by omega⟩
  first
    | exact w2
    | (rw [show ∀ x : Int, x = 0 → x.toNat = 0 from fun x h => by omega] at w2 ⊢
       · simp only [List.take_zero] at w2 ⊢
         exact w2
       all_goals omega)
def ivljN5 (ρ : Rho) : Prop := 1 ≤ (ρ.i .i64 1010) ∧ Nu (ρ.z.rl 0) (ρ.i .i64 1011) (ρ.i .i64 1013) (ρ.i .i64 1016) (ρ.i .u64 1017) ∧ Tx (ρ.z.rl 0) (ρ.i .i64 1010) (ρ.i .i64 1011) ∧ (ρ.l 1012) = txsT (ρ.z.rl 0) (ρ.i .i64 1010).toNat ∧ (ρ.i .u64 1009) + (ρ.i .i64 1010) = rdV (ρ.z.rl 0) ∧ 1 ≤ (ρ.i .u64 1009) ∧ (rdV (ρ.z.rl 0) ≤ (ρ.i .i64 1) ∨ rdV (ρ.z.rl 0) ≤ 0) ∧ (ρ.z.rl 0).length ≤ 10000
theorem vcgljN5_0 : VC TTljN invljN msljN 5 tljN5 wljN5_0 ∧ VC TTljN invljN msljN 5 tljN5 wljN5_4 ∧ VC TTljN invljN msljN 5 tljN5 wljN5_8 ∧ VC TTljN invljN msljN 5 tljN5 wljN5_13 := by
  refine ⟨?_, ?_, ?_, ?_⟩
  all_goals
    intro ρ kn hi hp
    have hi : ivljN5 ρ := hi
    unfold ivljN5 at hi
    have hF : ρ.z.F = oct.Φ := kn.F
    simp only [h_nil, h_cons, d_le, d_eq, d_not, d_var, d_lit, d_cel, d_leq, d_fn, d_and, d_iff, IE.den, LE.den, AL.den, lenV, true_and, and_true, pcljN5_0, pcljN5_4, pcljN5_2, pcljN5_1, pcljN5_9, pcljN5_7, pcljN5_5, pcljN5_3, pcljN5_10, pcljN5_8, hF, pi2, pi3, pi4, pi5, pi6, pi7, pl1, pi8, pi9, pl3, pi10, pi11, pb1, pl2] at hp
    have p1 := And.left hp
    replace hp := And.right hp
    repeat (have _ := And.left hp; replace hp := And.right hp)
    refine all_cons (show (clampK .i64 (ρ.z.F.i 11 [.lst (ρ.z.rl 0), .int .i64 (ρ.i .i64 1)])) = (0 : Int) from ?_) (all_cons (show (clampK .i64 (ρ.z.F.i 10 [.lst (ρ.z.rl 0), .int .i64 (ρ.i .i64 1)])) = (110 : Int) from ?_) (all_nil))
    all_goals try simp only [hF, pi2, pi3, pi4, pi5, pi6, pi7, pl1, pi8, pi9, pl3, pi10, pi11, pb1, pl2]
    all_goals
      have hl := kn.ok.rl 0
      try simp only [rdE_in, rdN_in, rdV_in, txtE_in, txtN_ind hl, lsE_in, lsN_in hl] at *
      obtain ⟨hj, u, t, hw, hn, h0, h1, h2⟩ := hi
      have kr := tx_rng t
      first
        | (have k := nu_end u (by omega) (by omega); have k4 := text_no (R := (ρ.z.rl 0)) (a := (ρ.i .i64 1011)) (by omega); have q := tx_err (m := (ρ.i .i64 1)) t (by omega) h1 (e := txtE (List.drop ((ρ.i .i64 1011)).toNat (ρ.z.rl 0))) rfl (by omega); have q2 : lsN (ρ.z.rl 0) (ρ.i .i64 1) = 0 := lsN_no (by omega); omega)
        | (have k := nu_bad u (b := clampK .u8 (intV (celV (ρ.z.rl 0) ((ρ.i .i64 1013) + (ρ.i .i64 1016)) 0))) (by omega) (by omega) rfl (by omega); have k4 := text_no (R := (ρ.z.rl 0)) (a := (ρ.i .i64 1011)) (by omega); have q := tx_err (m := (ρ.i .i64 1)) t (by omega) h1 (e := txtE (List.drop ((ρ.i .i64 1011)).toNat (ρ.z.rl 0))) rfl (by omega); have q2 : lsN (ρ.z.rl 0) (ρ.i .i64 1) = 0 := lsN_no (by omega); omega)
        | (have k := nu_read u (b := clampK .u8 (intV (celV (ρ.z.rl 0) ((ρ.i .i64 1013) + (ρ.i .i64 1016)) 0))) (by omega) (by omega) rfl (by omega) (by omega) (by omega); have k4 := text_long kr k.1 k.2.1 k.2.2 (by omega); have q := tx_err (m := (ρ.i .i64 1)) t (by omega) h1 (e := txtE (List.drop ((ρ.i .i64 1011)).toNat (ρ.z.rl 0))) rfl (by omega); have q2 : lsN (ρ.z.rl 0) (ρ.i .i64 1) = 0 := lsN_no (by omega); omega)
theorem vcljN5_1 : VC TTljN invljN msljN 5 tljN5 wljN5_1 := by
  intro ρ kn hi hp
  have hi : ivljN5 ρ := hi
  unfold ivljN5 at hi
  have hF : ρ.z.F = oct.Φ := kn.F
  simp only [h_nil, h_cons, d_le, d_eq, d_not, d_var, d_lit, d_cel, d_leq, d_fn, d_and, d_iff, IE.den, LE.den, AL.den, lenV, true_and, and_true, pcljN5_2, pcljN5_1, pcljN5_0, hF, pi2, pi3, pi4, pi5, pi6, pi7, pl1, pi8, pi9, pl3, pi10, pi11, pb1, pl2] at hp
  obtain ⟨p1, p2, p3, p4, p5, p6, p7, p8, p9, p10, p11, p12, p13, p14, p15, p16⟩ := hp
  refine (show (1 ≤ (ρ.i .i64 1010) ∧ Nu (ρ.z.rl 0) (ρ.i .i64 1011) (ρ.i .i64 1013) ((ρ.i .i64 1016) + (1 : Int)) (binI BinOp.or .u64 (ρ.i .u64 1017) (binI BinOp.shl .u64 (binI BinOp.and .u8 (clampK .u8 (intV (celV (ρ.z.rl 0) ((ρ.i .i64 1013) + (ρ.i .i64 1016)) 0))) (127 : Int)) ((7 : Int) * (ρ.i .i64 1016)))) ∧ Tx (ρ.z.rl 0) (ρ.i .i64 1010) (ρ.i .i64 1011) ∧ (ρ.l 1012) = txsT (ρ.z.rl 0) (ρ.i .i64 1010).toNat ∧ (ρ.i .u64 1009) + (ρ.i .i64 1010) = rdV (ρ.z.rl 0) ∧ 1 ≤ (ρ.i .u64 1009) ∧ (rdV (ρ.z.rl 0) ≤ (ρ.i .i64 1) ∨ rdV (ρ.z.rl 0) ≤ 0) ∧ (ρ.z.rl 0).length ≤ 10000) ∧ ((12 * ((ρ.z.rl 0).length + 1 - (ρ.i .i64 1011).toNat) - 1 - ((ρ.i .i64 1016) + (1 : Int)).toNat : Nat) < 12 * ((ρ.z.rl 0).length + 1 - (ρ.i .i64 1011).toNat) - 1 - (ρ.i .i64 1016).toNat) from ?_)
  obtain ⟨hj, u, t, hw, hn, h0, h1, h2⟩ := hi
  have kr := tx_rng t
  exact ⟨⟨hj, nu_go u (b := clampK .u8 (intV (celV (ρ.z.rl 0) ((ρ.i .i64 1013) + (ρ.i .i64 1016)) 0))) (by omega) (by omega) rfl (by omega) (by omega) (by omega), t, hw, hn, h0, h1, h2⟩, by omega⟩
theorem vcljN5_2 : VC TTljN invljN msljN 5 tljN5 wljN5_2 := by
  intro ρ kn hi hp
  have hi : ivljN5 ρ := hi
  unfold ivljN5 at hi
  have hF : ρ.z.F = oct.Φ := kn.F
  simp only [h_nil, h_cons, d_le, d_eq, d_not, d_var, d_lit, d_cel, d_leq, d_fn, d_and, d_iff, IE.den, LE.den, AL.den, lenV, true_and, and_true, pcljN5_6, pcljN5_4, pcljN5_2, pcljN5_1, pcljN5_0, hF, pi2, pi3, pi4, pi5, pi6, pi7, pl1, pi8, pi9, pl3, pi10, pi11, pb1, pl2] at hp
  obtain ⟨p1, p2, p3, p4, p5, p6, p7, p8, p9, p10, p11, p12, p13, p14, p15, p16, p17, p18⟩ := hp
  refine (show (1 ≤ ((ρ.i .i64 1010) + (1 : Int)) ∧ Tx (ρ.z.rl 0) ((ρ.i .i64 1010) + (1 : Int)) (((ρ.i .i64 1011) + ((ρ.i .i64 1016) + (1 : Int))) + (binI BinOp.or .u64 (ρ.i .u64 1017) (binI BinOp.shl .u64 (binI BinOp.and .u8 (clampK .u8 (intV (celV (ρ.z.rl 0) ((ρ.i .i64 1013) + (ρ.i .i64 1016)) 0))) (127 : Int)) ((7 : Int) * (ρ.i .i64 1016))))) ∧ ((ρ.l 1012) ++ ([[Go.Value.string (byteL ((ρ.z.rl 0).take (binI BinOp.or .u64 (ρ.i .u64 1017) (binI BinOp.shl .u64 (binI BinOp.and .u8 (clampK .u8 (intV (celV (ρ.z.rl 0) ((ρ.i .i64 1013) + (ρ.i .i64 1016)) 0))) (127 : Int)) ((7 : Int) * (ρ.i .i64 1016)))).toNat))]] : LV)) = txsT (ρ.z.rl 0) ((ρ.i .i64 1010) + (1 : Int)).toNat ∧ ((ρ.i .u64 1009) - (1 : Int)) + ((ρ.i .i64 1010) + (1 : Int)) = rdV (ρ.z.rl 0) ∧ (rdV (ρ.z.rl 0) ≤ (ρ.i .i64 1) ∨ rdV (ρ.z.rl 0) ≤ 0) ∧ (ρ.z.rl 0).length ≤ 10000) ∧ ((12 * ((ρ.z.rl 0).length + 1 - (((ρ.i .i64 1011) + ((ρ.i .i64 1016) + (1 : Int))) + (binI BinOp.or .u64 (ρ.i .u64 1017) (binI BinOp.shl .u64 (binI BinOp.and .u8 (clampK .u8 (intV (celV (ρ.z.rl 0) ((ρ.i .i64 1013) + (ρ.i .i64 1016)) 0))) (127 : Int)) ((7 : Int) * (ρ.i .i64 1016))))).toNat) : Nat) < 12 * ((ρ.z.rl 0).length + 1 - (ρ.i .i64 1011).toNat) - 1 - (ρ.i .i64 1016).toNat) from ?_)
  obtain ⟨hj, u, t, hw, hn, h0, h1, h2⟩ := hi
  have kr := tx_rng t
  obtain ⟨k1, k2, k3⟩ := nu_read u (b := clampK .u8 (intV (celV (ρ.z.rl 0) ((ρ.i .i64 1013) + (ρ.i .i64 1016)) 0))) (by omega) (by omega) rfl (by omega) (by omega) (by omega)
  have kv := rdV_rng (List.drop ((ρ.i .i64 1011)).toNat (ρ.z.rl 0))
  rw [k3] at kv
  have hT := kn.rom 0 _ _ rfl
  obtain ⟨e1, e2, e3⟩ := text_ok hT kr k1 k2 k3 (by omega) (by omega)
  have t2 := txs t e1
  have w2 := txs_s t (W := ρ.l 1012) hw
  rw [e2, ← Int.add_assoc] at t2
  rw [e3] at w2
  refine ⟨⟨by omega, t2, ?_, by omega, h1, h2⟩, by omega⟩
  first
    | exact w2
    | (rw [show ∀ x : Int, x = 0 → x.toNat = 0 from fun x h => by omega] at w2 ⊢
       · simp only [List.take_zero] at w2 ⊢
         exact w2
       all_goals omega)
theorem vcljN5_3 : VC TTljN invljN msljN 5 tljN5 wljN5_3 := by
  intro ρ kn hi hp
  have hi : ivljN5 ρ := hi
  unfold ivljN5 at hi
  have hF : ρ.z.F = oct.Φ := kn.F
  simp only [h_nil, h_cons, d_le, d_eq, d_not, d_var, d_lit, d_cel, d_leq, d_fn, d_and, d_iff, IE.den, LE.den, AL.den, lenV, true_and, and_true, pcljN5_6, pcljN5_4, pcljN5_2, pcljN5_1, pcljN5_0, hF, pi2, pi3, pi4, pi5, pi6, pi7, pl1, pi8, pi9, pl3, pi10, pi11, pb1, pl2] at hp
  obtain ⟨p1, p2, p3, p4, p5, p6, p7, p8, p9, p10, p11, p12, p13, p14, p15, p16, p17, p18⟩ := hp
  refine (show (1 ≤ ((ρ.i .i64 1010) + (1 : Int)) ∧ Tx (ρ.z.rl 0) ((ρ.i .i64 1010) + (1 : Int)) (((ρ.i .i64 1011) + ((ρ.i .i64 1016) + (1 : Int))) + (binI BinOp.or .u64 (ρ.i .u64 1017) (binI BinOp.shl .u64 (binI BinOp.and .u8 (clampK .u8 (intV (celV (ρ.z.rl 0) ((ρ.i .i64 1013) + (ρ.i .i64 1016)) 0))) (127 : Int)) ((7 : Int) * (ρ.i .i64 1016))))) ∧ ((ρ.l 1012) ++ ([[Go.Value.string (byteL (((ρ.z.rl 0).drop ((ρ.i .i64 1011) + ((ρ.i .i64 1016) + (1 : Int))).toNat).take (binI BinOp.or .u64 (ρ.i .u64 1017) (binI BinOp.shl .u64 (binI BinOp.and .u8 (clampK .u8 (intV (celV (ρ.z.rl 0) ((ρ.i .i64 1013) + (ρ.i .i64 1016)) 0))) (127 : Int)) ((7 : Int) * (ρ.i .i64 1016)))).toNat))]] : LV)) = txsT (ρ.z.rl 0) ((ρ.i .i64 1010) + (1 : Int)).toNat ∧ ((ρ.i .u64 1009) - (1 : Int)) + ((ρ.i .i64 1010) + (1 : Int)) = rdV (ρ.z.rl 0) ∧ (rdV (ρ.z.rl 0) ≤ (ρ.i .i64 1) ∨ rdV (ρ.z.rl 0) ≤ 0) ∧ (ρ.z.rl 0).length ≤ 10000) ∧ ((12 * ((ρ.z.rl 0).length + 1 - (((ρ.i .i64 1011) + ((ρ.i .i64 1016) + (1 : Int))) + (binI BinOp.or .u64 (ρ.i .u64 1017) (binI BinOp.shl .u64 (binI BinOp.and .u8 (clampK .u8 (intV (celV (ρ.z.rl 0) ((ρ.i .i64 1013) + (ρ.i .i64 1016)) 0))) (127 : Int)) ((7 : Int) * (ρ.i .i64 1016))))).toNat) : Nat) < 12 * ((ρ.z.rl 0).length + 1 - (ρ.i .i64 1011).toNat) - 1 - (ρ.i .i64 1016).toNat) from ?_)
  obtain ⟨hj, u, t, hw, hn, h0, h1, h2⟩ := hi
  have kr := tx_rng t
  obtain ⟨k1, k2, k3⟩ := nu_read u (b := clampK .u8 (intV (celV (ρ.z.rl 0) ((ρ.i .i64 1013) + (ρ.i .i64 1016)) 0))) (by omega) (by omega) rfl (by omega) (by omega) (by omega)
  have kv := rdV_rng (List.drop ((ρ.i .i64 1011)).toNat (ρ.z.rl 0))
  rw [k3] at kv
  have hT := kn.rom 0 _ _ rfl
  obtain ⟨e1, e2, e3⟩ := text_ok hT kr k1 k2 k3 (by omega) (by omega)
  have t2 := txs t e1
  have w2 := txs_s t (W := ρ.l 1012) hw
  rw [e2, ← Int.add_assoc] at t2
  rw [e3] at w2
  refine ⟨⟨by omega, t2, ?_, by omega, h1, h2⟩, by omega⟩
  first
    | exact w2
    | (rw [show ∀ x : Int, x = 0 → x.toNat = 0 from fun x h => by omega] at w2 ⊢
       · simp only [List.take_zero] at w2 ⊢
         exact w2
       all_goals omega)
theorem vcljN5_5 : VC TTljN invljN msljN 5 tljN5 wljN5_5 := by
  intro ρ kn hi hp
  have hi : ivljN5 ρ := hi
  unfold ivljN5 at hi
  have hF : ρ.z.F = oct.Φ := kn.F
  simp only [h_nil, h_cons, d_le, d_eq, d_not, d_var, d_lit, d_cel, d_leq, d_fn, d_and, d_iff, IE.den, LE.den, AL.den, lenV, true_and, and_true, pcljN5_3, pcljN5_1, pcljN5_0, hF, pi2, pi3, pi4, pi5, pi6, pi7, pl1, pi8, pi9, pl3, pi10, pi11, pb1, pl2] at hp
  obtain ⟨p1, p2, p3, p4, p5, p6, p7, p8, p9, p10, p11, p12, p13, p14, p15, p16⟩ := hp
  refine all_cons (show (clampK .i64 (ρ.z.F.i 11 [.lst (ρ.z.rl 0), .int .i64 (ρ.i .i64 1)])) = (0 : Int) from ?_) (all_cons (show (clampK .i64 (ρ.z.F.i 10 [.lst (ρ.z.rl 0), .int .i64 (ρ.i .i64 1)])) = (111 : Int) from ?_) (all_nil))
  all_goals try simp only [hF, pi2, pi3, pi4, pi5, pi6, pi7, pl1, pi8, pi9, pl3, pi10, pi11, pb1, pl2]
  all_goals
    have hl := kn.ok.rl 0
    try simp only [rdE_in, rdN_in, rdV_in, txtE_in, txtN_ind hl, lsE_in, lsN_in hl] at *
    obtain ⟨hj, u, t, hw, hn, h0, h1, h2⟩ := hi
    have kr := tx_rng t
    first
      | (have k := nu_end u (by omega) (by omega); have k4 := text_no (R := (ρ.z.rl 0)) (a := (ρ.i .i64 1011)) (by omega); have q := tx_err (m := (ρ.i .i64 1)) t (by omega) h1 (e := txtE (List.drop ((ρ.i .i64 1011)).toNat (ρ.z.rl 0))) rfl (by omega); have q2 : lsN (ρ.z.rl 0) (ρ.i .i64 1) = 0 := lsN_no (by omega); omega)
      | (have k := nu_bad u (b := clampK .u8 (intV (celV (ρ.z.rl 0) ((ρ.i .i64 1013) + (ρ.i .i64 1016)) 0))) (by omega) (by omega) rfl (by omega); have k4 := text_no (R := (ρ.z.rl 0)) (a := (ρ.i .i64 1011)) (by omega); have q := tx_err (m := (ρ.i .i64 1)) t (by omega) h1 (e := txtE (List.drop ((ρ.i .i64 1011)).toNat (ρ.z.rl 0))) rfl (by omega); have q2 : lsN (ρ.z.rl 0) (ρ.i .i64 1) = 0 := lsN_no (by omega); omega)
      | (have k := nu_read u (b := clampK .u8 (intV (celV (ρ.z.rl 0) ((ρ.i .i64 1013) + (ρ.i .i64 1016)) 0))) (by omega) (by omega) rfl (by omega) (by omega) (by omega); have k4 := text_long kr k.1 k.2.1 k.2.2 (by omega); have q := tx_err (m := (ρ.i .i64 1)) t (by omega) h1 (e := txtE (List.drop ((ρ.i .i64 1011)).toNat (ρ.z.rl 0))) rfl (by omega); have q2 : lsN (ρ.z.rl 0) (ρ.i .i64 1) = 0 := lsN_no (by omega); omega)
theorem vcljN5_6 : VC TTljN invljN msljN 5 tljN5 wljN5_6 := by
  intro ρ kn hi hp
  have hi : ivljN5 ρ := hi
  unfold ivljN5 at hi
  have hF : ρ.z.F = oct.Φ := kn.F
  simp only [h_nil, h_cons, d_le, d_eq, d_not, d_var, d_lit, d_cel, d_leq, d_fn, d_and, d_iff, IE.den, LE.den, AL.den, lenV, true_and, and_true, pcljN5_11, pcljN5_9, pcljN5_7, pcljN5_5, pcljN5_3, pcljN5_1, pcljN5_0, hF, pi2, pi3, pi4, pi5, pi6, pi7, pl1, pi8, pi9, pl3, pi10, pi11, pb1, pl2] at hp
  obtain ⟨p1, p2, p3, p4, p5, p6, p7, p8, p9, p10, p11, p12, p13, p14, p15, p16, p17, p18, p19, p20⟩ := hp
  refine (show (1 ≤ ((ρ.i .i64 1010) + (1 : Int)) ∧ Tx (ρ.z.rl 0) ((ρ.i .i64 1010) + (1 : Int)) (((ρ.i .i64 1011) + ((ρ.i .i64 1016) + (1 : Int))) + (binI BinOp.or .u64 (ρ.i .u64 1017) (binI BinOp.shl .u64 (binI BinOp.and .u8 (clampK .u8 (intV (celV (ρ.z.rl 0) ((ρ.i .i64 1013) + (ρ.i .i64 1016)) 0))) (127 : Int)) ((7 : Int) * (ρ.i .i64 1016))))) ∧ ((ρ.l 1012) ++ ([[Go.Value.string (byteL ((ρ.z.rl 0).take (binI BinOp.or .u64 (ρ.i .u64 1017) (binI BinOp.shl .u64 (binI BinOp.and .u8 (clampK .u8 (intV (celV (ρ.z.rl 0) ((ρ.i .i64 1013) + (ρ.i .i64 1016)) 0))) (127 : Int)) ((7 : Int) * (ρ.i .i64 1016)))).toNat))]] : LV)) = txsT (ρ.z.rl 0) ((ρ.i .i64 1010) + (1 : Int)).toNat ∧ ((ρ.i .u64 1009) - (1 : Int)) + ((ρ.i .i64 1010) + (1 : Int)) = rdV (ρ.z.rl 0) ∧ (rdV (ρ.z.rl 0) ≤ (ρ.i .i64 1) ∨ rdV (ρ.z.rl 0) ≤ 0) ∧ (ρ.z.rl 0).length ≤ 10000) ∧ ((12 * ((ρ.z.rl 0).length + 1 - (((ρ.i .i64 1011) + ((ρ.i .i64 1016) + (1 : Int))) + (binI BinOp.or .u64 (ρ.i .u64 1017) (binI BinOp.shl .u64 (binI BinOp.and .u8 (clampK .u8 (intV (celV (ρ.z.rl 0) ((ρ.i .i64 1013) + (ρ.i .i64 1016)) 0))) (127 : Int)) ((7 : Int) * (ρ.i .i64 1016))))).toNat) : Nat) < 12 * ((ρ.z.rl 0).length + 1 - (ρ.i .i64 1011).toNat) - 1 - (ρ.i .i64 1016).toNat) from ?_)
  obtain ⟨hj, u, t, hw, hn, h0, h1, h2⟩ := hi
  have kr := tx_rng t
  obtain ⟨k1, k2, k3⟩ := nu_read u (b := clampK .u8 (intV (celV (ρ.z.rl 0) ((ρ.i .i64 1013) + (ρ.i .i64 1016)) 0))) (by omega) (by omega) rfl (by omega) (by omega) (by omega)
  have kv := rdV_rng (List.drop ((ρ.i .i64 1011)).toNat (ρ.z.rl 0))
  rw [k3] at kv
  have hT := kn.rom 0 _ _ rfl
  obtain ⟨e1, e2, e3⟩ := text_ok hT kr k1 k2 k3 (by omega) (by omega)
  have t2 := txs t e1
  have w2 := txs_s t (W := ρ.l 1012) hw
  rw [e2, ← Int.add_assoc] at t2
  rw [e3] at w2
  refine ⟨⟨by omega, t2, ?_, by omega, h1, h2⟩, by omega⟩
  first
    | exact w2
    | (rw [show ∀ x : Int, x = 0 → x.toNat = 0 from fun x h => by omega] at w2 ⊢
       · simp only [List.take_zero] at w2 ⊢
         exact w2
       all_goals omega)
theorem vcljN5_7 : VC TTljN invljN msljN 5 tljN5 wljN5_7 := by
  intro ρ kn hi hp
  have hi : ivljN5 ρ := hi
  unfold ivljN5 at hi
  have hF : ρ.z.F = oct.Φ := kn.F
  simp only [h_nil, h_cons, d_le, d_eq, d_not, d_var, d_lit, d_cel, d_leq, d_fn, d_and, d_iff, IE.den, LE.den, AL.den, lenV, true_and, and_true, pcljN5_11, pcljN5_9, pcljN5_7, pcljN5_5, pcljN5_3, pcljN5_1, pcljN5_0, hF, pi2, pi3, pi4, pi5, pi6, pi7, pl1, pi8, pi9, pl3, pi10, pi11, pb1, pl2] at hp
  obtain ⟨p1, p2, p3, p4, p5, p6, p7, p8, p9, p10, p11, p12, p13, p14, p15, p16, p17, p18, p19, p20⟩ := hp
  refine (show (1 ≤ ((ρ.i .i64 1010) + (1 : Int)) ∧ Tx (ρ.z.rl 0) ((ρ.i .i64 1010) + (1 : Int)) (((ρ.i .i64 1011) + ((ρ.i .i64 1016) + (1 : Int))) + (binI BinOp.or .u64 (ρ.i .u64 1017) (binI BinOp.shl .u64 (binI BinOp.and .u8 (clampK .u8 (intV (celV (ρ.z.rl 0) ((ρ.i .i64 1013) + (ρ.i .i64 1016)) 0))) (127 : Int)) ((7 : Int) * (ρ.i .i64 1016))))) ∧ ((ρ.l 1012) ++ ([[Go.Value.string (byteL (((ρ.z.rl 0).drop ((ρ.i .i64 1011) + ((ρ.i .i64 1016) + (1 : Int))).toNat).take (binI BinOp.or .u64 (ρ.i .u64 1017) (binI BinOp.shl .u64 (binI BinOp.and .u8 (clampK .u8 (intV (celV (ρ.z.rl 0) ((ρ.i .i64 1013) + (ρ.i .i64 1016)) 0))) (127 : Int)) ((7 : Int) * (ρ.i .i64 1016)))).toNat))]] : LV)) = txsT (ρ.z.rl 0) ((ρ.i .i64 1010) + (1 : Int)).toNat ∧ ((ρ.i .u64 1009) - (1 : Int)) + ((ρ.i .i64 1010) + (1 : Int)) = rdV (ρ.z.rl 0) ∧ (rdV (ρ.z.rl 0) ≤ (ρ.i .i64 1) ∨ rdV (ρ.z.rl 0) ≤ 0) ∧ (ρ.z.rl 0).length ≤ 10000) ∧ ((12 * ((ρ.z.rl 0).length + 1 - (((ρ.i .i64 1011) + ((ρ.i .i64 1016) + (1 : Int))) + (binI BinOp.or .u64 (ρ.i .u64 1017) (binI BinOp.shl .u64 (binI BinOp.and .u8 (clampK .u8 (intV (celV (ρ.z.rl 0) ((ρ.i .i64 1013) + (ρ.i .i64 1016)) 0))) (127 : Int)) ((7 : Int) * (ρ.i .i64 1016))))).toNat) : Nat) < 12 * ((ρ.z.rl 0).length + 1 - (ρ.i .i64 1011).toNat) - 1 - (ρ.i .i64 1016).toNat) from ?_)
  obtain ⟨hj, u, t, hw, hn, h0, h1, h2⟩ := hi
  have kr := tx_rng t
  obtain ⟨k1, k2, k3⟩ := nu_read u (b := clampK .u8 (intV (celV (ρ.z.rl 0) ((ρ.i .i64 1013) + (ρ.i .i64 1016)) 0))) (by omega) (by omega) rfl (by omega) (by omega) (by omega)
  have kv := rdV_rng (List.drop ((ρ.i .i64 1011)).toNat (ρ.z.rl 0))
  rw [k3] at kv
  have hT := kn.rom 0 _ _ rfl
  obtain ⟨e1, e2, e3⟩ := text_ok hT kr k1 k2 k3 (by omega) (by omega)
  have t2 := txs t e1
  have w2 := txs_s t (W := ρ.l 1012) hw
  rw [e2, ← Int.add_assoc] at t2
  rw [e3] at w2
  refine ⟨⟨by omega, t2, ?_, by omega, h1, h2⟩, by omega⟩
  first
    | exact w2
    | (rw [show ∀ x : Int, x = 0 → x.toNat = 0 from fun x h => by omega] at w2 ⊢
       · simp only [List.take_zero] at w2 ⊢
         exact w2
       all_goals omega)
theorem vcljN5_9 : VC TTljN invljN msljN 5 tljN5 wljN5_9 := by
  intro ρ kn hi hp
  have hi : ivljN5 ρ := hi
  unfold ivljN5 at hi
  have hF : ρ.z.F = oct.Φ := kn.F
  simp only [h_nil, h_cons, d_le, d_eq, d_not, d_var, d_lit, d_cel, d_leq, d_fn, d_and, d_iff, IE.den, LE.den, AL.den, lenV, true_and, and_true, pcljN5_7, pcljN5_5, pcljN5_3, pcljN5_1, pcljN5_0, hF, pi2, pi3, pi4, pi5, pi6, pi7, pl1, pi8, pi9, pl3, pi10, pi11, pb1, pl2] at hp
  obtain ⟨p1, p2, p3, p4, p5, p6, p7, p8, p9, p10, p11, p12, p13, p14, p15, p16, p17, p18⟩ := hp
  refine all_cons (show (clampK .i64 (ρ.z.F.i 11 [.lst (ρ.z.rl 0), .int .i64 (ρ.i .i64 1)])) = (0 : Int) from ?_) (all_cons (show (clampK .i64 (ρ.z.F.i 10 [.lst (ρ.z.rl 0), .int .i64 (ρ.i .i64 1)])) = (111 : Int) from ?_) (all_nil))
  all_goals try simp only [hF, pi2, pi3, pi4, pi5, pi6, pi7, pl1, pi8, pi9, pl3, pi10, pi11, pb1, pl2]
  all_goals
    have hl := kn.ok.rl 0
    try simp only [rdE_in, rdN_in, rdV_in, txtE_in, txtN_ind hl, lsE_in, lsN_in hl] at *
    obtain ⟨hj, u, t, hw, hn, h0, h1, h2⟩ := hi
    have kr := tx_rng t
    first
      | (have k := nu_end u (by omega) (by omega); have k4 := text_no (R := (ρ.z.rl 0)) (a := (ρ.i .i64 1011)) (by omega); have q := tx_err (m := (ρ.i .i64 1)) t (by omega) h1 (e := txtE (List.drop ((ρ.i .i64 1011)).toNat (ρ.z.rl 0))) rfl (by omega); have q2 : lsN (ρ.z.rl 0) (ρ.i .i64 1) = 0 := lsN_no (by omega); omega)
      | (have k := nu_bad u (b := clampK .u8 (intV (celV (ρ.z.rl 0) ((ρ.i .i64 1013) + (ρ.i .i64 1016)) 0))) (by omega) (by omega) rfl (by omega); have k4 := text_no (R := (ρ.z.rl 0)) (a := (ρ.i .i64 1011)) (by omega); have q := tx_err (m := (ρ.i .i64 1)) t (by omega) h1 (e := txtE (List.drop ((ρ.i .i64 1011)).toNat (ρ.z.rl 0))) rfl (by omega); have q2 : lsN (ρ.z.rl 0) (ρ.i .i64 1) = 0 := lsN_no (by omega); omega)
      | (have k := nu_read u (b := clampK .u8 (intV (celV (ρ.z.rl 0) ((ρ.i .i64 1013) + (ρ.i .i64 1016)) 0))) (by omega) (by omega) rfl (by omega) (by omega) (by omega); have k4 := text_long kr k.1 k.2.1 k.2.2 (by omega); have q := tx_err (m := (ρ.i .i64 1)) t (by omega) h1 (e := txtE (List.drop ((ρ.i .i64 1011)).toNat (ρ.z.rl 0))) rfl (by omega); have q2 : lsN (ρ.z.rl 0) (ρ.i .i64 1) = 0 := lsN_no (by omega); omega)
theorem vcljN5_10 : VC TTljN invljN msljN 5 tljN5 wljN5_10 := by
  intro ρ kn hi hp
  have hi : ivljN5 ρ := hi
  unfold ivljN5 at hi
  have hF : ρ.z.F = oct.Φ := kn.F
  simp only [h_nil, h_cons, d_le, d_eq, d_not, d_var, d_lit, d_cel, d_leq, d_fn, d_and, d_iff, IE.den, LE.den, AL.den, lenV, true_and, and_true, pcljN5_8, pcljN5_5, pcljN5_3, pcljN5_1, pcljN5_0, hF, pi2, pi3, pi4, pi5, pi6, pi7, pl1, pi8, pi9, pl3, pi10, pi11, pb1, pl2] at hp
  obtain ⟨p1, p2, p3, p4, p5, p6, p7, p8, p9, p10, p11, p12, p13, p14, p15, p16, p17, p18⟩ := hp
  refine (show (1 ≤ (ρ.i .i64 1010) ∧ Nu (ρ.z.rl 0) (ρ.i .i64 1011) (ρ.i .i64 1013) ((ρ.i .i64 1016) + (1 : Int)) (binI BinOp.or .u64 (ρ.i .u64 1017) (binI BinOp.shl .u64 (binI BinOp.and .u8 (clampK .u8 (intV (celV (ρ.z.rl 0) ((ρ.i .i64 1013) + (ρ.i .i64 1016)) 0))) (127 : Int)) ((7 : Int) * (ρ.i .i64 1016)))) ∧ Tx (ρ.z.rl 0) (ρ.i .i64 1010) (ρ.i .i64 1011) ∧ (ρ.l 1012) = txsT (ρ.z.rl 0) (ρ.i .i64 1010).toNat ∧ (ρ.i .u64 1009) + (ρ.i .i64 1010) = rdV (ρ.z.rl 0) ∧ 1 ≤ (ρ.i .u64 1009) ∧ (rdV (ρ.z.rl 0) ≤ (ρ.i .i64 1) ∨ rdV (ρ.z.rl 0) ≤ 0) ∧ (ρ.z.rl 0).length ≤ 10000) ∧ ((12 * ((ρ.z.rl 0).length + 1 - (ρ.i .i64 1011).toNat) - 1 - ((ρ.i .i64 1016) + (1 : Int)).toNat : Nat) < 12 * ((ρ.z.rl 0).length + 1 - (ρ.i .i64 1011).toNat) - 1 - (ρ.i .i64 1016).toNat) from ?_)
  obtain ⟨hj, u, t, hw, hn, h0, h1, h2⟩ := hi
  have kr := tx_rng t
  exact ⟨⟨hj, nu_go u (b := clampK .u8 (intV (celV (ρ.z.rl 0) ((ρ.i .i64 1013) + (ρ.i .i64 1016)) 0))) (by omega) (by omega) rfl (by omega) (by omega) (by omega), t, hw, hn, h0, h1, h2⟩, by omega⟩
theorem vcljN5_11 : VC TTljN invljN msljN 5 tljN5 wljN5_11 := by
  intro ρ kn hi hp
  have hi : ivljN5 ρ := hi
  unfold ivljN5 at hi
  have hF : ρ.z.F = oct.Φ := kn.F
  simp only [h_nil, h_cons, d_le, d_eq, d_not, d_var, d_lit, d_cel, d_leq, d_fn, d_and, d_iff, IE.den, LE.den, AL.den, lenV, true_and, and_true, pcljN5_12, pcljN5_10, pcljN5_8, pcljN5_5, pcljN5_3, pcljN5_1, pcljN5_0, hF, pi2, pi3, pi4, pi5, pi6, pi7, pl1, pi8, pi9, pl3, pi10, pi11, pb1, pl2] at hp
  obtain ⟨p1, p2, p3, p4, p5, p6, p7, p8, p9, p10, p11, p12, p13, p14, p15, p16, p17, p18, p19, p20⟩ := hp
  refine (show (1 ≤ ((ρ.i .i64 1010) + (1 : Int)) ∧ Tx (ρ.z.rl 0) ((ρ.i .i64 1010) + (1 : Int)) (((ρ.i .i64 1011) + ((ρ.i .i64 1016) + (1 : Int))) + (binI BinOp.or .u64 (ρ.i .u64 1017) (binI BinOp.shl .u64 (binI BinOp.and .u8 (clampK .u8 (intV (celV (ρ.z.rl 0) ((ρ.i .i64 1013) + (ρ.i .i64 1016)) 0))) (127 : Int)) ((7 : Int) * (ρ.i .i64 1016))))) ∧ ((ρ.l 1012) ++ ([[Go.Value.string (byteL ((ρ.z.rl 0).take (binI BinOp.or .u64 (ρ.i .u64 1017) (binI BinOp.shl .u64 (binI BinOp.and .u8 (clampK .u8 (intV (celV (ρ.z.rl 0) ((ρ.i .i64 1013) + (ρ.i .i64 1016)) 0))) (127 : Int)) ((7 : Int) * (ρ.i .i64 1016)))).toNat))]] : LV)) = txsT (ρ.z.rl 0) ((ρ.i .i64 1010) + (1 : Int)).toNat ∧ ((ρ.i .u64 1009) - (1 : Int)) + ((ρ.i .i64 1010) + (1 : Int)) = rdV (ρ.z.rl 0) ∧ (rdV (ρ.z.rl 0) ≤ (ρ.i .i64 1) ∨ rdV (ρ.z.rl 0) ≤ 0) ∧ (ρ.z.rl 0).length ≤ 10000) ∧ ((12 * ((ρ.z.rl 0).length + 1 - (((ρ.i .i64 1011) + ((ρ.i .i64 1016) + (1 : Int))) + (binI BinOp.or .u64 (ρ.i .u64 1017) (binI BinOp.shl .u64 (binI BinOp.and .u8 (clampK .u8 (intV (celV (ρ.z.rl 0) ((ρ.i .i64 1013) + (ρ.i .i64 1016)) 0))) (127 : Int)) ((7 : Int) * (ρ.i .i64 1016))))).toNat) : Nat) < 12 * ((ρ.z.rl 0).length + 1 - (ρ.i .i64 1011).toNat) - 1 - (ρ.i .i64 1016).toNat) from ?_)
  obtain ⟨hj, u, t, hw, hn, h0, h1, h2⟩ := hi
  have kr := tx_rng t
  obtain ⟨k1, k2, k3⟩ := nu_read u (b := clampK .u8 (intV (celV (ρ.z.rl 0) ((ρ.i .i64 1013) + (ρ.i .i64 1016)) 0))) (by omega) (by omega) rfl (by omega) (by omega) (by omega)
  have kv := rdV_rng (List.drop ((ρ.i .i64 1011)).toNat (ρ.z.rl 0))
  rw [k3] at kv
  have hT := kn.rom 0 _ _ rfl
  obtain ⟨e1, e2, e3⟩ := text_ok hT kr k1 k2 k3 (by omega) (by omega)
  have t2 := txs t e1
  have w2 := txs_s t (W := ρ.l 1012) hw
  rw [e2, ← Int.add_assoc] at t2
  rw [e3] at w2
  refine ⟨⟨by omega, t2, ?_, by omega, h1, h2⟩, by omega⟩
  first
    | exact w2
    | (rw [show ∀ x : Int, x = 0 → x.toNat = 0 from fun x h => by omega] at w2 ⊢
       · simp only [List.take_zero] at w2 ⊢
         exact w2
       all_goals omega)
theorem vcljN5_12 : VC TTljN invljN msljN 5 tljN5 wljN5_12 := by
  intro ρ kn hi hp
  have hi : ivljN5 ρ := hi
  unfold ivljN5 at hi
  have hF : ρ.z.F = oct.Φ := kn.F
  simp only [h_nil, h_cons, d_le, d_eq, d_not, d_var, d_lit, d_cel, d_leq, d_fn, d_and, d_iff, IE.den, LE.den, AL.den, lenV, true_and, and_true, pcljN5_12, pcljN5_10, pcljN5_8, pcljN5_5, pcljN5_3, pcljN5_1, pcljN5_0, hF, pi2, pi3, pi4, pi5, pi6, pi7, pl1, pi8, pi9, pl3, pi10, pi11, pb1, pl2] at hp
  obtain ⟨p1, p2, p3, p4, p5, p6, p7, p8, p9, p10, p11, p12, p13, p14, p15, p16, p17, p18, p19, p20⟩ := hp
  refine (show (1 ≤ ((ρ.i .i64 1010) + (1 : Int)) ∧ Tx (ρ.z.rl 0) ((ρ.i .i64 1010) + (1 : Int)) (((ρ.i .i64 1011) + ((ρ.i .i64 1016) + (1 : Int))) + (binI BinOp.or .u64 (ρ.i .u64 1017) (binI BinOp.shl .u64 (binI BinOp.and .u8 (clampK .u8 (intV (celV (ρ.z.rl 0) ((ρ.i .i64 1013) + (ρ.i .i64 1016)) 0))) (127 : Int)) ((7 : Int) * (ρ.i .i64 1016))))) ∧ ((ρ.l 1012) ++ ([[Go.Value.string (byteL (((ρ.z.rl 0).drop ((ρ.i .i64 1011) + ((ρ.i .i64 1016) + (1 : Int))).toNat).take (binI BinOp.or .u64 (ρ.i .u64 1017) (binI BinOp.shl .u64 (binI BinOp.and .u8 (clampK .u8 (intV (celV (ρ.z.rl 0) ((ρ.i .i64 1013) + (ρ.i .i64 1016)) 0))) (127 : Int)) ((7 : Int) * (ρ.i .i64 1016)))).toNat))]] : LV)) = txsT (ρ.z.rl 0) ((ρ.i .i64 1010) + (1 : Int)).toNat ∧ ((ρ.i .u64 1009) - (1 : Int)) + ((ρ.i .i64 1010) + (1 : Int)) = rdV (ρ.z.rl 0) ∧ (rdV (ρ.z.rl 0) ≤ (ρ.i .i64 1) ∨ rdV (ρ.z.rl 0) ≤ 0) ∧ (ρ.z.rl 0).length ≤ 10000) ∧ ((12 * ((ρ.z.rl 0).length + 1 - (((ρ.i .i64 1011) + ((ρ.i .i64 1016) + (1 : Int))) + (binI BinOp.or .u64 (ρ.i .u64 1017) (binI BinOp.shl .u64 (binI BinOp.and .u8 (clampK .u8 (intV (celV (ρ.z.rl 0) ((ρ.i .i64 1013) + (ρ.i .i64 1016)) 0))) (127 : Int)) ((7 : Int) * (ρ.i .i64 1016))))).toNat) : Nat) < 12 * ((ρ.z.rl 0).length + 1 - (ρ.i .i64 1011).toNat) - 1 - (ρ.i .i64 1016).toNat) from ?_)
  obtain ⟨hj, u, t, hw, hn, h0, h1, h2⟩ := hi
  have kr := tx_rng t
  obtain ⟨k1, k2, k3⟩ := nu_read u (b := clampK .u8 (intV (celV (ρ.z.rl 0) ((ρ.i .i64 1013) + (ρ.i .i64 1016)) 0))) (by omega) (by omega) rfl (by omega) (by omega) (by omega)
  have kv := rdV_rng (List.drop ((ρ.i .i64 1011)).toNat (ρ.z.rl 0))
  rw [k3] at kv
  have hT := kn.rom 0 _ _ rfl
  obtain ⟨e1, e2, e3⟩ := text_ok hT kr k1 k2 k3 (by omega) (by omega)
  have t2 := txs t e1
  have w2 := txs_s t (W := ρ.l 1012) hw
  rw [e2, ← Int.add_assoc] at t2
  rw [e3] at w2
  refine ⟨⟨by omega, t2, ?_, by omega, h1, h2⟩, by omega⟩
  first
    | exact w2
    | (rw [show ∀ x : Int, x = 0 → x.toNat = 0 from fun x h => by omega] at w2 ⊢
       · simp only [List.take_zero] at w2 ⊢
         exact w2
       all_goals omega)
theorem vcsljN0 : ∀ v ∈ vwljN 0, VC TTljN invljN msljN 0 (startF 33 cListN2.pat (.lit true :: cListN2.pre)) v := all_cons vcljN0_0 (all_nil)
theorem okljN0 : cfgOk (startF 33 cListN2.pat (.lit true :: cListN2.pre)) = true := by kernel_rfl
theorem sgljN0 : segL cListN2.roms cListN2 (seg TTljN selljN 400 tmljN (startF 33 cListN2.pat (.lit true :: cListN2.pre))) = (true, codesR tmljN (views (seg TTljN selljN 400 tmljN (startF 33 cListN2.pat (.lit true :: cListN2.pre)))), vwljN 0) := by kernel_rfl
theorem vcsljN1 : ∀ v ∈ vwljN 1, VC TTljN invljN msljN 1 tljN1 v := all_cons vcljN1_0 (all_cons vcljN1_1 (all_cons vcljN1_2 (all_cons vcgljN1_1.1 (all_cons vcljN1_4 (all_cons vcgljN1_1.2.1 (all_cons vcljN1_6 (all_cons vcljN1_7 (all_cons vcgljN1_1.2.2.1 (all_cons vcljN1_9 (all_cons vcgljN1_1.2.2.2.1 (all_cons vcljN1_11 (all_cons vcljN1_12 (all_cons vcljN1_13 (all_cons vcgljN1_1.2.2.2.2.1 (all_cons vcljN1_15 (all_cons vcgljN1_1.2.2.2.2.2 (all_nil)))))))))))))))))
theorem okljN1 : cfgOk tljN1 = true := by kernel_rfl
theorem sgljN1 : segL cListN2.roms cListN2 (seg TTljN selljN 400 tmljN tljN1) = (true, codesR tmljN (views (seg TTljN selljN 400 tmljN tljN1)), vwljN 1) := by kernel_rfl
theorem vcsljN2 : ∀ v ∈ vwljN 2, VC TTljN invljN msljN 2 tljN2 v := all_cons vcljN2_0 (all_cons vcljN2_1 (all_cons vcljN2_2 (all_nil)))
theorem okljN2 : cfgOk tljN2 = true := by kernel_rfl
theorem sgljN2 : segL cListN2.roms cListN2 (seg TTljN selljN 400 tmljN tljN2) = (true, codesR tmljN (views (seg TTljN selljN 400 tmljN tljN2)), vwljN 2) := by kernel_rfl
theorem vcsljN3 : ∀ v ∈ vwljN 3, VC TTljN invljN msljN 3 tljN3 v := all_cons vcljN3_0 (all_cons vcljN3_1 (all_cons vcljN3_2 (all_nil)))
theorem okljN3 : cfgOk tljN3 = true := by kernel_rfl
theorem sgljN3 : segL cListN2.roms cListN2 (seg TTljN selljN 400 tmljN tljN3) = (true, codesR tmljN (views (seg TTljN selljN 400 tmljN tljN3)), vwljN 3) := by kernel_rfl
theorem vcsljN4 : ∀ v ∈ vwljN 4, VC TTljN invljN msljN 4 tljN4 v := all_cons vcgljN4_0.1 (all_cons vcljN4_1 (all_cons vcljN4_2 (all_cons vcljN4_3 (all_cons vcgljN4_0.2.1 (all_cons vcljN4_5 (all_cons vcljN4_6 (all_cons vcljN4_7 (all_cons vcgljN4_0.2.2.1 (all_cons vcljN4_9 (all_cons vcljN4_10 (all_cons vcljN4_11 (all_cons vcljN4_12 (all_cons vcgljN4_0.2.2.2 (all_nil))))))))))))))
theorem okljN4 : cfgOk tljN4 = true := by kernel_rfl
theorem sgljN4 : segL cListN2.roms cListN2 (seg TTljN selljN 400 tmljN tljN4) = (true, codesR tmljN (views (seg TTljN selljN 400 tmljN tljN4)), vwljN 4) := by kernel_rfl
theorem vcsljN5 : ∀ v ∈ vwljN 5, VC TTljN invljN msljN 5 tljN5 v := all_cons vcgljN5_0.1 (all_cons vcljN5_1 (all_cons vcljN5_2 (all_cons vcljN5_3 (all_cons vcgljN5_0.2.1 (all_cons vcljN5_5 (all_cons vcljN5_6 (all_cons vcljN5_7 (all_cons vcgljN5_0.2.2.1 (all_cons vcljN5_9 (all_cons vcljN5_10 (all_cons vcljN5_11 (all_cons vcljN5_12 (all_cons vcgljN5_0.2.2.2 (all_nil))))))))))))))
theorem okljN5 : cfgOk tljN5 = true := by kernel_rfl
theorem sgljN5 : segL cListN2.roms cListN2 (seg TTljN selljN 400 tmljN tljN5) = (true, codesR tmljN (views (seg TTljN selljN 400 tmljN tljN5)), vwljN 5) := by kernel_rfl
theorem lnljN0 : ∀ ρ, Known TTljN (startF 33 cListN2.pat (.lit true :: cListN2.pre)) ρ → invljN 0 ρ.lt → Holds ρ (leanOf (Cfg.pc (startF 33 cListN2.pat (.lit true :: cListN2.pre)))) := by
  intro ρ _ _
  exact (show Holds ρ [] from fun p hp => by cases hp)
theorem lnljN1 : ∀ ρ, Known TTljN tljN1 ρ → invljN 1 ρ.lt → Holds ρ (leanOf (Cfg.pc tljN1)) := by
  intro ρ kn hi
  refine (show Holds ρ [.le (.var .i64 1001) (.lit 9)] from ?_)
  have hi : Nu (ρ.z.rl 0) 0 0 (ρ.i .i64 1001) (ρ.i .u64 1000) ∧ (ρ.z.rl 0).length ≤ 10000 := hi
  have hF : ρ.z.F = oct.Φ := kn.F
  simp only [h_nil, h_cons, d_le, d_eq, d_not, d_var, d_lit, d_cel, d_leq, d_fn, d_and, d_iff, IE.den, LE.den, AL.den, lenV, true_and, and_true, hF, pi2, pi3, pi4, pi5, pi6, pi7, pl1, pi8, pi9, pl3, pi10, pi11, pb1, pl2]
  have h9 := nu9 hi.1
  omega
theorem lnljN2 : ∀ ρ, Known TTljN tljN2 ρ → invljN 2 ρ.lt → Holds ρ (leanOf (Cfg.pc tljN2)) := by
  intro ρ _ _
  exact (show Holds ρ [] from fun p hp => by cases hp)
theorem lnljN3 : ∀ ρ, Known TTljN tljN3 ρ → invljN 3 ρ.lt → Holds ρ (leanOf (Cfg.pc tljN3)) := by
  intro ρ kn hi
  refine (show Holds ρ [.le (.var .i64 1010) (.lit 10000)] from ?_)
  have hi : 1 ≤ (ρ.i .i64 1010) ∧ Tx (ρ.z.rl 0) (ρ.i .i64 1010) (ρ.i .i64 1011) ∧ (ρ.l 1012) = txsT (ρ.z.rl 0) (ρ.i .i64 1010).toNat ∧ (ρ.i .u64 1009) + (ρ.i .i64 1010) = rdV (ρ.z.rl 0) ∧ (rdV (ρ.z.rl 0) ≤ (ρ.i .i64 1) ∨ rdV (ρ.z.rl 0) ≤ 0) ∧ (ρ.z.rl 0).length ≤ 10000 := hi
  have hF : ρ.z.F = oct.Φ := kn.F
  simp only [h_nil, h_cons, d_le, d_eq, d_not, d_var, d_lit, d_cel, d_leq, d_fn, d_and, d_iff, IE.den, LE.den, AL.den, lenV, true_and, and_true, hF, pi2, pi3, pi4, pi5, pi6, pi7, pl1, pi8, pi9, pl3, pi10, pi11, pb1, pl2]
  obtain ⟨hj, t, hw, hn, h1, h2⟩ := hi
  have k1 := tx_le t
  have k2 := tx_rng t
  omega
theorem lnljN4 : ∀ ρ, Known TTljN tljN4 ρ → invljN 4 ρ.lt → Holds ρ (leanOf (Cfg.pc tljN4)) := by
  intro ρ kn hi
  refine (show Holds ρ [.le (.var .i64 1007) (.lit 9)] from ?_)
  have hi : Nu (ρ.z.rl 0) (ρ.i .i64 1003) (ρ.i .i64 1004) (ρ.i .i64 1007) (ρ.i .u64 1008) ∧ Tx (ρ.z.rl 0) 0 (ρ.i .i64 1003) ∧ (ρ.i .u64 1002) = rdV (ρ.z.rl 0) ∧ 1 ≤ (ρ.i .u64 1002) ∧ (rdV (ρ.z.rl 0) ≤ (ρ.i .i64 1) ∨ rdV (ρ.z.rl 0) ≤ 0) ∧ (ρ.z.rl 0).length ≤ 10000 := hi
  have hF : ρ.z.F = oct.Φ := kn.F
  simp only [h_nil, h_cons, d_le, d_eq, d_not, d_var, d_lit, d_cel, d_leq, d_fn, d_and, d_iff, IE.den, LE.den, AL.den, lenV, true_and, and_true, hF, pi2, pi3, pi4, pi5, pi6, pi7, pl1, pi8, pi9, pl3, pi10, pi11, pb1, pl2]
  have h9 := nu9 hi.1
  omega
theorem lnljN5 : ∀ ρ, Known TTljN tljN5 ρ → invljN 5 ρ.lt → Holds ρ (leanOf (Cfg.pc tljN5)) := by
  intro ρ kn hi
  refine (show Holds ρ [.le (.var .i64 1016) (.lit 9), .le (.var .i64 1010) (.lit 10000)] from ?_)
  have hi : 1 ≤ (ρ.i .i64 1010) ∧ Nu (ρ.z.rl 0) (ρ.i .i64 1011) (ρ.i .i64 1013) (ρ.i .i64 1016) (ρ.i .u64 1017) ∧ Tx (ρ.z.rl 0) (ρ.i .i64 1010) (ρ.i .i64 1011) ∧ (ρ.l 1012) = txsT (ρ.z.rl 0) (ρ.i .i64 1010).toNat ∧ (ρ.i .u64 1009) + (ρ.i .i64 1010) = rdV (ρ.z.rl 0) ∧ 1 ≤ (ρ.i .u64 1009) ∧ (rdV (ρ.z.rl 0) ≤ (ρ.i .i64 1) ∨ rdV (ρ.z.rl 0) ≤ 0) ∧ (ρ.z.rl 0).length ≤ 10000 := hi
  have hF : ρ.z.F = oct.Φ := kn.F
  simp only [h_nil, h_cons, d_le, d_eq, d_not, d_var, d_lit, d_cel, d_leq, d_fn, d_and, d_iff, IE.den, LE.den, AL.den, lenV, true_and, and_true, hF, pi2, pi3, pi4, pi5, pi6, pi7, pl1, pi8, pi9, pl3, pi10, pi11, pb1, pl2]
  obtain ⟨hj, u, t, hw, hn, h0, h1, h2⟩ := hi
  have h9 := nu9 u
  have k1 := tx_le t
  have k2 := tx_rng t
  omega
theorem told_ljN : Sx.Told oct.Φ cListN2 := by
  refine told_of (cs := []) (all_nil) (sel := selljN) 400 tmljN invljN msljN vwljN 0 (pc0 := (.lit true :: cListN2.pre)) (by kernel_rfl) (by kernel_rfl) (by kernel_rfl) (post_nil rfl) ?_ ?_ ?_ rfl (fun ρ _ h => h.cons (p := .lit true) (by simp only [BE.den])) (fun _ _ _ _ => trivial) ?_
  · intro k C h
    have := lk_mem h
    simp only [tmljN, List.mem_cons, Prod.mk.injEq, List.not_mem_nil, or_false] at this
    rcases this with ⟨rfl, rfl⟩ | ⟨rfl, rfl⟩ | ⟨rfl, rfl⟩ | ⟨rfl, rfl⟩ | ⟨rfl, rfl⟩ | ⟨rfl, rfl⟩
    · exact okljN0
    · exact okljN1
    · exact okljN2
    · exact okljN3
    · exact okljN4
    · exact okljN5
  · intro k C h
    have := lk_mem h
    simp only [tmljN, List.mem_cons, Prod.mk.injEq, List.not_mem_nil, or_false] at this
    rcases this with ⟨rfl, rfl⟩ | ⟨rfl, rfl⟩ | ⟨rfl, rfl⟩ | ⟨rfl, rfl⟩ | ⟨rfl, rfl⟩ | ⟨rfl, rfl⟩
    · exact sgljN0
    · exact sgljN1
    · exact sgljN2
    · exact sgljN3
    · exact sgljN4
    · exact sgljN5
  · intro k C h
    have := lk_mem h
    simp only [tmljN, List.mem_cons, Prod.mk.injEq, List.not_mem_nil, or_false] at this
    rcases this with ⟨rfl, rfl⟩ | ⟨rfl, rfl⟩ | ⟨rfl, rfl⟩ | ⟨rfl, rfl⟩ | ⟨rfl, rfl⟩ | ⟨rfl, rfl⟩
    · exact vcsljN0
    · exact vcsljN1
    · exact vcsljN2
    · exact vcsljN3
    · exact vcsljN4
    · exact vcsljN5
  · intro k C h
    have := lk_mem h
    simp only [tmljN, List.mem_cons, Prod.mk.injEq, List.not_mem_nil, or_false] at this
    rcases this with ⟨rfl, rfl⟩ | ⟨rfl, rfl⟩ | ⟨rfl, rfl⟩ | ⟨rfl, rfl⟩ | ⟨rfl, rfl⟩ | ⟨rfl, rfl⟩
    · exact lnljN0
    · exact lnljN1
    · exact lnljN2
    · exact lnljN3
    · exact lnljN4
    · exact lnljN5
end Go.Proofs.Ytjgkaimgocnkmaa.oct
