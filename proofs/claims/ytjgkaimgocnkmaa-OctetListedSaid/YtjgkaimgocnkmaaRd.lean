/- Layer octet: lists, the program's, told. No condition. -/
import Derived.Test.YtjgkaimgocnkmaaRe
set_option linter.unusedVariables false
set_option linter.unusedSimpArgs false
set_option linter.deprecated false
namespace Go.Proofs.Ytjgkaimgocnkmaa.oct
open Go Go.Proofs.Ytjgkaimgocnkmaa.Sx
theorem post_liR : PostOk Φ cListR := by
  intro ρ hF hp
  have hm := hp (.le (ln 0) (.lit 2000)) (by simp [cListR, preL])
  have hb := hp lsBE (by simp [cListR])
  simp only [ln, d_le, IE.den, LE.den, lenV] at hm
  simp only [lsBE, rS2, xv, d_fn, IE.den, LE.den, AL.den, hF, pb1] at hb
  have := post_ls hb hm
  show Holds ρ [_, _]
  simp only [h_nil, h_cons, d_le, IE.den, LE.den, AL.den, lsLE, rS2, xv, lenV, hF, pl2, and_true]
  exact this
noncomputable section
abbrev TTliR : Tab := T oct.Φ cListR.roms []
def tliR1 : Cfg := { top := ⟨60, over (opqS 10000 64) [(0, (SV.ptr 0 0)), (4, (SV.int .u64 (IE.var .u64 1000))), (5, (SV.int .i64 (IE.lit 110))), (21, (SV.rom 0 (IE.lit 0) (IE.len (LE.rom 0)) (some (IE.len (LE.rom 0))))), (22, (SV.int .i64 (IE.len (LE.rom 0)))), (23, (SV.int .i64 (IE.var .i64 1001)))], ogt (loopTodo (bodyOf (T oct.Φ [] []) 60) 0), [], false, none⟩, rest := [⟨33, over (opqS 30000 37) [(1, (SV.int .i64 (IE.var .i64 1))), (7, (SV.ptr 0 0))], ogt (callTodo (bodyOf (T oct.Φ [] []) 33) 2 [0, 1, 2, 3, 4, 5]), [], false, none⟩], heap := [(0, .cells [(SV.rom 0 (IE.lit 0) (IE.len (LE.rom 0)) none), (SV.int .i64 (IE.lit 0))] 110)], next := 1, pc := .lit true :: ([] ++ [(BE.le (IE.len (LE.rom 0)) (IE.lit 2000)), (BE.le (IE.lit 1) (IE.len (LE.rom 0))), (BE.fn 1 (AL.lst (LE.rom 0) (AL.int .i64 (IE.var .i64 1) AL.nil))), (BE.le (IE.lit 0) (IE.var .i64 1001)), (BE.le (IE.var .i64 1001) (IE.len (LE.rom 0)))] ++ (.and (.lit true) (.lit true)) :: [.le (.var .i64 1001) (.lit 9)]) }
def tliR2 : Cfg := { top := ⟨64, over (opqS 10000 26) [(0, (SV.int .u64 (IE.var .u64 1002))), (1, (SV.func (Go.Fn.func 65) [] [(SV.ptr 0 0)])), (6, (SV.const (Go.Value.slice none 0 0)))], ogt (loopTodo (bodyOf (T oct.Φ [] []) 64) 0), [], false, none⟩, rest := [⟨33, over (opqS 30000 37) [(7, (SV.ptr 0 0))], ogt (callTodo (bodyOf (T oct.Φ [] []) 33) 7 [2, 3, 4, 5, 6, 7]), [], false, none⟩], heap := [(0, .cells [(SV.rom 0 (IE.lit 0) (IE.len (LE.rom 0)) none), (SV.int .i64 (IE.var .i64 1003))] 110)], next := 1, pc := .lit true :: ([] ++ [(BE.fn 1 (AL.lst (LE.rom 0) (AL.int .i64 (IE.var .i64 1) AL.nil))), (BE.le (IE.lit 1) (IE.len (LE.rom 0))), (BE.le (IE.len (LE.rom 0)) (IE.lit 2000)), (BE.le (IE.lit 0) (IE.var .i64 1003)), (BE.le (IE.var .i64 1003) (IE.len (LE.rom 0)))]) }
def tliR3 : Cfg := { top := ⟨64, over (opqS 10000 26) [(0, (SV.int .u64 (IE.var .u64 1009))), (1, (SV.func (Go.Fn.func 65) [] [(SV.ptr 0 0)])), (6, (SV.sll 2 3 1 (IE.lit 0) (IE.var .i64 1010) none))], ogt (loopTodo (bodyOf (T oct.Φ [] []) 64) 0), [], false, none⟩, rest := [⟨33, over (opqS 30000 37) [(7, (SV.ptr 0 0))], ogt (callTodo (bodyOf (T oct.Φ [] []) 33) 7 [2, 3, 4, 5, 6, 7]), [], false, none⟩], heap := [(0, .cells [(SV.rom 0 (IE.lit 0) (IE.len (LE.rom 0)) none), (SV.int .i64 (IE.var .i64 1011))] 110), (2, .rowl (LE.var 1012) (IE.var .i64 1010) [CK.str] 9 3 1)], next := 4, pc := .lit true :: ([] ++ [(BE.fn 1 (AL.lst (LE.rom 0) (AL.int .i64 (IE.var .i64 1) AL.nil))), (BE.le (IE.lit 1) (IE.len (LE.rom 0))), (BE.le (IE.len (LE.rom 0)) (IE.lit 2000)), (BE.le (IE.lit 0) (IE.var .i64 1010)), (BE.le (IE.lit 0) (IE.var .i64 1011)), (BE.le (IE.var .i64 1011) (IE.len (LE.rom 0)))] ++ (.and (.lit true) (.lit true)) :: [.le (.var .i64 1010) (.lit 2000)]) }
def tliR4 : Cfg := { top := ⟨60, over (opqS 10000 64) [(0, (SV.ptr 0 0)), (4, (SV.int .u64 (IE.var .u64 1008))), (5, (SV.int .i64 (IE.lit 110))), (21, (SV.rom 0 (IE.var .i64 1004) (IE.sub (IE.len (LE.rom 0)) (IE.var .i64 1003)) (some (IE.var .i64 1006)))), (22, (SV.int .i64 (IE.sub (IE.len (LE.rom 0)) (IE.var .i64 1003)))), (23, (SV.int .i64 (IE.var .i64 1007)))], ogt (loopTodo (bodyOf (T oct.Φ [] []) 60) 0), [], false, none⟩, rest := [⟨62, over (opqS 30000 48) [(0, (SV.ptr 0 0))], ogt (callTodo (bodyOf (T oct.Φ [] []) 62) 1 [1, 2, 3, 4, 5, 6]), [], false, none⟩, ⟨65, over (opqS 50000 6) [], ogt (callTodo (bodyOf (T oct.Φ [] []) 65) 1 [0, 1, 2, 3, 4]), [], false, none⟩, ⟨64, over (opqS 70000 26) [(0, (SV.int .u64 (IE.var .u64 1002))), (1, (SV.func (Go.Fn.func 65) [] [(SV.ptr 0 0)])), (6, (SV.const (Go.Value.slice none 0 0)))], ogt (callTodo (bodyOf (T oct.Φ [] []) 64) 4 [1, 2, 3, 4, 5, 6]), [], false, none⟩, ⟨33, over (opqS 90000 37) [(7, (SV.ptr 0 0))], ogt (callTodo (bodyOf (T oct.Φ [] []) 33) 7 [2, 3, 4, 5, 6, 7]), [], false, none⟩], heap := [(0, .cells [(SV.rom 0 (IE.lit 0) (IE.len (LE.rom 0)) none), (SV.int .i64 (IE.var .i64 1003))] 110)], next := 1, pc := .lit true :: ([.le (.var .i64 1004) (.var .i64 1003)] ++ [(BE.le (IE.len (LE.rom 0)) (IE.lit 2000)), (BE.le (IE.lit 1) (IE.len (LE.rom 0))), (BE.fn 1 (AL.lst (LE.rom 0) (AL.int .i64 (IE.var .i64 1) AL.nil))), (BE.not (BE.le (IE.var .u64 1002) (IE.lit 0))), (BE.le (IE.lit 0) (IE.var .i64 1003)), (BE.le (IE.var .i64 1003) (IE.len (LE.rom 0))), (BE.le (IE.lit 0) (IE.var .i64 1004)), (BE.le (IE.lit 0) (IE.var .i64 1006)), (BE.le (IE.lit 0) (IE.var .i64 1007))] ++ (.and (.lit true) (.lit true)) :: [.le (.var .i64 1007) (.lit 9)]) }
def tliR5 : Cfg := { top := ⟨60, over (opqS 10000 64) [(0, (SV.ptr 0 0)), (4, (SV.int .u64 (IE.var .u64 1017))), (5, (SV.int .i64 (IE.lit 110))), (21, (SV.rom 0 (IE.var .i64 1013) (IE.sub (IE.len (LE.rom 0)) (IE.var .i64 1011)) (some (IE.var .i64 1015)))), (22, (SV.int .i64 (IE.sub (IE.len (LE.rom 0)) (IE.var .i64 1011)))), (23, (SV.int .i64 (IE.var .i64 1016)))], ogt (loopTodo (bodyOf (T oct.Φ [] []) 60) 0), [], false, none⟩, rest := [⟨62, over (opqS 30000 48) [(0, (SV.ptr 0 0))], ogt (callTodo (bodyOf (T oct.Φ [] []) 62) 1 [1, 2, 3, 4, 5, 6]), [], false, none⟩, ⟨65, over (opqS 50000 6) [], ogt (callTodo (bodyOf (T oct.Φ [] []) 65) 1 [0, 1, 2, 3, 4]), [], false, none⟩, ⟨64, over (opqS 70000 26) [(0, (SV.int .u64 (IE.var .u64 1009))), (1, (SV.func (Go.Fn.func 65) [] [(SV.ptr 0 0)])), (6, (SV.sll 2 3 1 (IE.lit 0) (IE.var .i64 1010) none))], ogt (callTodo (bodyOf (T oct.Φ [] []) 64) 4 [1, 2, 3, 4, 5, 6]), [], false, none⟩, ⟨33, over (opqS 90000 37) [(7, (SV.ptr 0 0))], ogt (callTodo (bodyOf (T oct.Φ [] []) 33) 7 [2, 3, 4, 5, 6, 7]), [], false, none⟩], heap := [(0, .cells [(SV.rom 0 (IE.lit 0) (IE.len (LE.rom 0)) none), (SV.int .i64 (IE.var .i64 1011))] 110), (2, .rowl (LE.var 1012) (IE.var .i64 1010) [CK.str] 9 3 1)], next := 4, pc := .lit true :: ([.le (.var .i64 1013) (.var .i64 1011)] ++ [(BE.le (IE.len (LE.rom 0)) (IE.lit 2000)), (BE.le (IE.lit 1) (IE.len (LE.rom 0))), (BE.fn 1 (AL.lst (LE.rom 0) (AL.int .i64 (IE.var .i64 1) AL.nil))), (BE.not (BE.le (IE.var .u64 1009) (IE.lit 0))), (BE.le (IE.lit 0) (IE.var .i64 1010)), (BE.le (IE.lit 0) (IE.var .i64 1011)), (BE.le (IE.var .i64 1011) (IE.len (LE.rom 0))), (BE.le (IE.var .i64 1010) (IE.lit 2000)), (BE.le (IE.lit 0) (IE.var .i64 1013)), (BE.le (IE.lit 0) (IE.var .i64 1015)), (BE.le (IE.lit 0) (IE.var .i64 1016))] ++ (.and (.lit true) (.lit true)) :: [.le (.var .i64 1016) (.lit 9), .le (.var .i64 1010) (.lit 2000)]) }
def tmliR : List (Nat × Cfg) := [(0, startF 33 cListR.pat (.lit true :: cListR.pre)), (1, tliR1), (2, tliR2), (3, tliR3), (4, tliR4), (5, tliR5)]
def selliR : Sel := [(60, 1, 1, 1), (64, 1, 769001, 2), (64, 1, 770001, 3), (60, 1, 99073004, 4), (60, 1, 99074004, 5)]
def wliR0_0 : VW := (VW.cut 1 [(BE.lit true), (BE.fn 1 (AL.lst (LE.rom 0) (AL.int .i64 (IE.var .i64 1) AL.nil))), (BE.le (IE.lit 1) (IE.len (LE.rom 0))), (BE.le (IE.len (LE.rom 0)) (IE.lit 2000))] (Sx.Sub.mk [(.i64, (1001, (IE.lit 0))), (.u64, (1000, (IE.lit 0)))] [] [] [] [] []))
def vwliR0 : List VW := [wliR0_0]
def pcliR1_0 : List BE := [(BE.lit true), (BE.le (IE.len (LE.rom 0)) (IE.lit 2000)), (BE.le (IE.lit 1) (IE.len (LE.rom 0))), (BE.fn 1 (AL.lst (LE.rom 0) (AL.int .i64 (IE.var .i64 1) AL.nil))), (BE.le (IE.lit 0) (IE.var .i64 1001)), (BE.le (IE.var .i64 1001) (IE.len (LE.rom 0))), (BE.and (BE.lit true) (BE.lit true)), (BE.le (IE.var .i64 1001) (IE.lit 9))]
def pcliR1_1 : List BE := ((BE.not (BE.le (IE.len (LE.rom 0)) (IE.var .i64 1001))) :: pcliR1_0)
def pcliR1_2 : List BE := ((BE.le (IE.var .i64 1001) (IE.lit 0)) :: pcliR1_1)
def pcliR1_3 : List BE := ((BE.not (BE.le (IE.var .i64 1001) (IE.lit 0))) :: pcliR1_1)
def pcliR1_4 : List BE := ((BE.not (BE.le (IE.lit 128) (IE.cel .u8 (LE.rom 0) (IE.var .i64 1001) 0))) :: pcliR1_2)
def pcliR1_5 : List BE := ((BE.not (BE.eq (IE.cel .u8 (LE.rom 0) (IE.var .i64 1001) 0) (IE.lit 0))) :: pcliR1_3)
def pcliR1_6 : List BE := ((BE.le (IE.var .i64 1) (IE.lit 0)) :: pcliR1_4)
def pcliR1_7 : List BE := ((BE.not (BE.le (IE.var .i64 1) (IE.lit 0))) :: pcliR1_4)
def pcliR1_8 : List BE := ((BE.eq (IE.var .i64 1001) (IE.lit 9)) :: pcliR1_5)
def pcliR1_9 : List BE := ((BE.not (BE.eq (IE.var .i64 1001) (IE.lit 9))) :: pcliR1_5)
def pcliR1_10 : List BE := ((BE.le (IE.cel .u8 (LE.rom 0) (IE.var .i64 1001) 0) (IE.lit 1)) :: pcliR1_8)
def pcliR1_11 : List BE := ((BE.not (BE.le (IE.lit 128) (IE.cel .u8 (LE.rom 0) (IE.var .i64 1001) 0))) :: pcliR1_9)
def pcliR1_12 : List BE := ((BE.le (IE.var .i64 1) (IE.lit 0)) :: pcliR1_10)
def pcliR1_13 : List BE := ((BE.not (BE.le (IE.var .i64 1) (IE.lit 0))) :: pcliR1_10)
def pcliR1_14 : List BE := ((BE.le (IE.var .i64 1) (IE.lit 0)) :: pcliR1_11)
def pcliR1_15 : List BE := ((BE.not (BE.le (IE.var .i64 1) (IE.lit 0))) :: pcliR1_11)
def wliR1_0 : VW := (VW.done ((BE.le (IE.len (LE.rom 0)) (IE.var .i64 1001)) :: pcliR1_0) (some [(G.b (BE.lit true) (BE.lit false))]))
def wliR1_1 : VW := (VW.cut 1 ((BE.le (IE.lit 128) (IE.cel .u8 (LE.rom 0) (IE.var .i64 1001) 0)) :: pcliR1_2) (Sx.Sub.mk [(.i64, (1001, (IE.add (IE.var .i64 1001) (IE.lit 1)))), (.u64, (1000, (IE.bin BinOp.or .u64 (IE.var .u64 1000) (IE.bin BinOp.shl .u64 (IE.bin BinOp.and .u8 (IE.cel .u8 (LE.rom 0) (IE.var .i64 1001) 0) (IE.lit 127)) (IE.mul (IE.lit 7) (IE.var .i64 1001))))))] [] [] [] [] []))
def wliR1_2 : VW := (VW.cut 2 ((BE.le (IE.bin BinOp.or .u64 (IE.var .u64 1000) (IE.bin BinOp.shl .u64 (IE.bin BinOp.and .u8 (IE.cel .u8 (LE.rom 0) (IE.var .i64 1001) 0) (IE.lit 127)) (IE.mul (IE.lit 7) (IE.var .i64 1001)))) (IE.lit 0)) :: pcliR1_6) (Sx.Sub.mk [(.i64, (1003, (IE.add (IE.lit 0) (IE.add (IE.var .i64 1001) (IE.lit 1))))), (.u64, (1002, (IE.bin BinOp.or .u64 (IE.var .u64 1000) (IE.bin BinOp.shl .u64 (IE.bin BinOp.and .u8 (IE.cel .u8 (LE.rom 0) (IE.var .i64 1001) 0) (IE.lit 127)) (IE.mul (IE.lit 7) (IE.var .i64 1001))))))] [] [] [] [] []))
def wliR1_3 : VW := (VW.done ((BE.not (BE.le (IE.bin BinOp.or .u64 (IE.var .u64 1000) (IE.bin BinOp.shl .u64 (IE.bin BinOp.and .u8 (IE.cel .u8 (LE.rom 0) (IE.var .i64 1001) 0) (IE.lit 127)) (IE.mul (IE.lit 7) (IE.var .i64 1001)))) (IE.lit 0))) :: pcliR1_6) (some [(G.b (BE.lit true) (BE.lit false))]))
def wliR1_4 : VW := (VW.cut 2 ((BE.le (IE.bin BinOp.or .u64 (IE.var .u64 1000) (IE.bin BinOp.shl .u64 (IE.bin BinOp.and .u8 (IE.cel .u8 (LE.rom 0) (IE.var .i64 1001) 0) (IE.lit 127)) (IE.mul (IE.lit 7) (IE.var .i64 1001)))) (IE.var .i64 1)) :: pcliR1_7) (Sx.Sub.mk [(.i64, (1003, (IE.add (IE.lit 0) (IE.add (IE.var .i64 1001) (IE.lit 1))))), (.u64, (1002, (IE.bin BinOp.or .u64 (IE.var .u64 1000) (IE.bin BinOp.shl .u64 (IE.bin BinOp.and .u8 (IE.cel .u8 (LE.rom 0) (IE.var .i64 1001) 0) (IE.lit 127)) (IE.mul (IE.lit 7) (IE.var .i64 1001))))))] [] [] [] [] []))
def wliR1_5 : VW := (VW.done ((BE.not (BE.le (IE.bin BinOp.or .u64 (IE.var .u64 1000) (IE.bin BinOp.shl .u64 (IE.bin BinOp.and .u8 (IE.cel .u8 (LE.rom 0) (IE.var .i64 1001) 0) (IE.lit 127)) (IE.mul (IE.lit 7) (IE.var .i64 1001)))) (IE.var .i64 1))) :: pcliR1_7) (some [(G.b (BE.lit true) (BE.lit false))]))
def wliR1_6 : VW := (VW.done ((BE.eq (IE.cel .u8 (LE.rom 0) (IE.var .i64 1001) 0) (IE.lit 0)) :: pcliR1_3) (some [(G.b (BE.lit true) (BE.lit false))]))
def wliR1_7 : VW := (VW.cut 2 ((BE.le (IE.bin BinOp.or .u64 (IE.var .u64 1000) (IE.bin BinOp.shl .u64 (IE.bin BinOp.and .u8 (IE.cel .u8 (LE.rom 0) (IE.var .i64 1001) 0) (IE.lit 127)) (IE.mul (IE.lit 7) (IE.var .i64 1001)))) (IE.lit 0)) :: pcliR1_12) (Sx.Sub.mk [(.i64, (1003, (IE.add (IE.lit 0) (IE.add (IE.var .i64 1001) (IE.lit 1))))), (.u64, (1002, (IE.bin BinOp.or .u64 (IE.var .u64 1000) (IE.bin BinOp.shl .u64 (IE.bin BinOp.and .u8 (IE.cel .u8 (LE.rom 0) (IE.var .i64 1001) 0) (IE.lit 127)) (IE.mul (IE.lit 7) (IE.var .i64 1001))))))] [] [] [] [] []))
def wliR1_8 : VW := (VW.done ((BE.not (BE.le (IE.bin BinOp.or .u64 (IE.var .u64 1000) (IE.bin BinOp.shl .u64 (IE.bin BinOp.and .u8 (IE.cel .u8 (LE.rom 0) (IE.var .i64 1001) 0) (IE.lit 127)) (IE.mul (IE.lit 7) (IE.var .i64 1001)))) (IE.lit 0))) :: pcliR1_12) (some [(G.b (BE.lit true) (BE.lit false))]))
def wliR1_9 : VW := (VW.cut 2 ((BE.le (IE.bin BinOp.or .u64 (IE.var .u64 1000) (IE.bin BinOp.shl .u64 (IE.bin BinOp.and .u8 (IE.cel .u8 (LE.rom 0) (IE.var .i64 1001) 0) (IE.lit 127)) (IE.mul (IE.lit 7) (IE.var .i64 1001)))) (IE.var .i64 1)) :: pcliR1_13) (Sx.Sub.mk [(.i64, (1003, (IE.add (IE.lit 0) (IE.add (IE.var .i64 1001) (IE.lit 1))))), (.u64, (1002, (IE.bin BinOp.or .u64 (IE.var .u64 1000) (IE.bin BinOp.shl .u64 (IE.bin BinOp.and .u8 (IE.cel .u8 (LE.rom 0) (IE.var .i64 1001) 0) (IE.lit 127)) (IE.mul (IE.lit 7) (IE.var .i64 1001))))))] [] [] [] [] []))
def wliR1_10 : VW := (VW.done ((BE.not (BE.le (IE.bin BinOp.or .u64 (IE.var .u64 1000) (IE.bin BinOp.shl .u64 (IE.bin BinOp.and .u8 (IE.cel .u8 (LE.rom 0) (IE.var .i64 1001) 0) (IE.lit 127)) (IE.mul (IE.lit 7) (IE.var .i64 1001)))) (IE.var .i64 1))) :: pcliR1_13) (some [(G.b (BE.lit true) (BE.lit false))]))
def wliR1_11 : VW := (VW.done ((BE.not (BE.le (IE.cel .u8 (LE.rom 0) (IE.var .i64 1001) 0) (IE.lit 1))) :: pcliR1_8) (some [(G.b (BE.lit true) (BE.lit false))]))
def wliR1_12 : VW := (VW.cut 1 ((BE.le (IE.lit 128) (IE.cel .u8 (LE.rom 0) (IE.var .i64 1001) 0)) :: pcliR1_9) (Sx.Sub.mk [(.i64, (1001, (IE.add (IE.var .i64 1001) (IE.lit 1)))), (.u64, (1000, (IE.bin BinOp.or .u64 (IE.var .u64 1000) (IE.bin BinOp.shl .u64 (IE.bin BinOp.and .u8 (IE.cel .u8 (LE.rom 0) (IE.var .i64 1001) 0) (IE.lit 127)) (IE.mul (IE.lit 7) (IE.var .i64 1001))))))] [] [] [] [] []))
def wliR1_13 : VW := (VW.cut 2 ((BE.le (IE.bin BinOp.or .u64 (IE.var .u64 1000) (IE.bin BinOp.shl .u64 (IE.bin BinOp.and .u8 (IE.cel .u8 (LE.rom 0) (IE.var .i64 1001) 0) (IE.lit 127)) (IE.mul (IE.lit 7) (IE.var .i64 1001)))) (IE.lit 0)) :: pcliR1_14) (Sx.Sub.mk [(.i64, (1003, (IE.add (IE.lit 0) (IE.add (IE.var .i64 1001) (IE.lit 1))))), (.u64, (1002, (IE.bin BinOp.or .u64 (IE.var .u64 1000) (IE.bin BinOp.shl .u64 (IE.bin BinOp.and .u8 (IE.cel .u8 (LE.rom 0) (IE.var .i64 1001) 0) (IE.lit 127)) (IE.mul (IE.lit 7) (IE.var .i64 1001))))))] [] [] [] [] []))
def wliR1_14 : VW := (VW.done ((BE.not (BE.le (IE.bin BinOp.or .u64 (IE.var .u64 1000) (IE.bin BinOp.shl .u64 (IE.bin BinOp.and .u8 (IE.cel .u8 (LE.rom 0) (IE.var .i64 1001) 0) (IE.lit 127)) (IE.mul (IE.lit 7) (IE.var .i64 1001)))) (IE.lit 0))) :: pcliR1_14) (some [(G.b (BE.lit true) (BE.lit false))]))
def wliR1_15 : VW := (VW.cut 2 ((BE.le (IE.bin BinOp.or .u64 (IE.var .u64 1000) (IE.bin BinOp.shl .u64 (IE.bin BinOp.and .u8 (IE.cel .u8 (LE.rom 0) (IE.var .i64 1001) 0) (IE.lit 127)) (IE.mul (IE.lit 7) (IE.var .i64 1001)))) (IE.var .i64 1)) :: pcliR1_15) (Sx.Sub.mk [(.i64, (1003, (IE.add (IE.lit 0) (IE.add (IE.var .i64 1001) (IE.lit 1))))), (.u64, (1002, (IE.bin BinOp.or .u64 (IE.var .u64 1000) (IE.bin BinOp.shl .u64 (IE.bin BinOp.and .u8 (IE.cel .u8 (LE.rom 0) (IE.var .i64 1001) 0) (IE.lit 127)) (IE.mul (IE.lit 7) (IE.var .i64 1001))))))] [] [] [] [] []))
def wliR1_16 : VW := (VW.done ((BE.not (BE.le (IE.bin BinOp.or .u64 (IE.var .u64 1000) (IE.bin BinOp.shl .u64 (IE.bin BinOp.and .u8 (IE.cel .u8 (LE.rom 0) (IE.var .i64 1001) 0) (IE.lit 127)) (IE.mul (IE.lit 7) (IE.var .i64 1001)))) (IE.var .i64 1))) :: pcliR1_15) (some [(G.b (BE.lit true) (BE.lit false))]))
def vwliR1 : List VW := [wliR1_0, wliR1_1, wliR1_2, wliR1_3, wliR1_4, wliR1_5, wliR1_6, wliR1_7, wliR1_8, wliR1_9, wliR1_10, wliR1_11, wliR1_12, wliR1_13, wliR1_14, wliR1_15, wliR1_16]
def pcliR2_0 : List BE := [(BE.lit true), (BE.fn 1 (AL.lst (LE.rom 0) (AL.int .i64 (IE.var .i64 1) AL.nil))), (BE.le (IE.lit 1) (IE.len (LE.rom 0))), (BE.le (IE.len (LE.rom 0)) (IE.lit 2000)), (BE.le (IE.lit 0) (IE.var .i64 1003)), (BE.le (IE.var .i64 1003) (IE.len (LE.rom 0)))]
def pcliR2_1 : List BE := ((BE.not (BE.le (IE.var .u64 1002) (IE.lit 0))) :: pcliR2_0)
def wliR2_0 : VW := (VW.done ((BE.le (IE.var .u64 1002) (IE.lit 0)) :: pcliR2_0) (some [(G.b (BE.lit true) (BE.lit false))]))
def wliR2_1 : VW := (VW.cut 4 ((BE.eq (IE.len (LE.rom 0)) (IE.var .i64 1003)) :: pcliR2_1) (Sx.Sub.mk [(.i64, (1003, (IE.var .i64 1003))), (.u64, (1002, (IE.var .u64 1002))), (.i64, (1007, (IE.lit 0))), (.i64, (1006, (IE.lit 0))), (.i64, (1004, (IE.lit 0))), (.u64, (1008, (IE.lit 0)))] [] [] [] [] []))
def wliR2_2 : VW := (VW.cut 4 ((BE.not (BE.eq (IE.len (LE.rom 0)) (IE.var .i64 1003))) :: pcliR2_1) (Sx.Sub.mk [(.i64, (1003, (IE.var .i64 1003))), (.u64, (1002, (IE.var .u64 1002))), (.i64, (1007, (IE.lit 0))), (.i64, (1006, (IE.sub (IE.len (LE.rom 0)) (IE.var .i64 1003)))), (.i64, (1004, (IE.var .i64 1003))), (.u64, (1008, (IE.lit 0)))] [] [] [] [] []))
def vwliR2 : List VW := [wliR2_0, wliR2_1, wliR2_2]
def pcliR3_0 : List BE := [(BE.lit true), (BE.fn 1 (AL.lst (LE.rom 0) (AL.int .i64 (IE.var .i64 1) AL.nil))), (BE.le (IE.lit 1) (IE.len (LE.rom 0))), (BE.le (IE.len (LE.rom 0)) (IE.lit 2000)), (BE.le (IE.lit 0) (IE.var .i64 1010)), (BE.le (IE.lit 0) (IE.var .i64 1011)), (BE.le (IE.var .i64 1011) (IE.len (LE.rom 0))), (BE.and (BE.lit true) (BE.lit true)), (BE.le (IE.var .i64 1010) (IE.lit 2000))]
def pcliR3_1 : List BE := ((BE.not (BE.le (IE.var .u64 1009) (IE.lit 0))) :: pcliR3_0)
def wliR3_0 : VW := (VW.done ((BE.le (IE.var .u64 1009) (IE.lit 0)) :: pcliR3_0) (some [(G.i (IE.len (LE.fn 2 (AL.lst (LE.rom 0) (AL.int .i64 (IE.var .i64 1) AL.nil)))) (IE.var .i64 1010)), (G.i (IE.fn .i64 11 (AL.lst (LE.rom 0) (AL.int .i64 (IE.var .i64 1) AL.nil))) (IE.var .i64 1011)), (G.l (LE.fn 2 (AL.lst (LE.rom 0) (AL.int .i64 (IE.var .i64 1) AL.nil))) (LE.var 1012)), (G.i (IE.len (LE.fn 2 (AL.lst (LE.rom 0) (AL.int .i64 (IE.var .i64 1) AL.nil)))) (IE.var .i64 1010))]))
def wliR3_1 : VW := (VW.cut 5 ((BE.eq (IE.len (LE.rom 0)) (IE.var .i64 1011)) :: pcliR3_1) (Sx.Sub.mk [(.i64, (1011, (IE.var .i64 1011))), (.i64, (1010, (IE.var .i64 1010))), (.u64, (1009, (IE.var .u64 1009))), (.i64, (1016, (IE.lit 0))), (.i64, (1015, (IE.lit 0))), (.i64, (1013, (IE.lit 0))), (.u64, (1017, (IE.lit 0)))] [] [(1012, (LE.var 1012))] [] [] []))
def wliR3_2 : VW := (VW.cut 5 ((BE.not (BE.eq (IE.len (LE.rom 0)) (IE.var .i64 1011))) :: pcliR3_1) (Sx.Sub.mk [(.i64, (1011, (IE.var .i64 1011))), (.i64, (1010, (IE.var .i64 1010))), (.u64, (1009, (IE.var .u64 1009))), (.i64, (1016, (IE.lit 0))), (.i64, (1015, (IE.sub (IE.len (LE.rom 0)) (IE.var .i64 1011)))), (.i64, (1013, (IE.var .i64 1011))), (.u64, (1017, (IE.lit 0)))] [] [(1012, (LE.var 1012))] [] [] []))
def vwliR3 : List VW := [wliR3_0, wliR3_1, wliR3_2]
def pcliR4_0 : List BE := [(BE.lit true), (BE.le (IE.var .i64 1004) (IE.var .i64 1003)), (BE.le (IE.len (LE.rom 0)) (IE.lit 2000)), (BE.le (IE.lit 1) (IE.len (LE.rom 0))), (BE.fn 1 (AL.lst (LE.rom 0) (AL.int .i64 (IE.var .i64 1) AL.nil))), (BE.not (BE.le (IE.var .u64 1002) (IE.lit 0))), (BE.le (IE.lit 0) (IE.var .i64 1003)), (BE.le (IE.var .i64 1003) (IE.len (LE.rom 0))), (BE.le (IE.lit 0) (IE.var .i64 1004)), (BE.le (IE.lit 0) (IE.var .i64 1006)), (BE.le (IE.lit 0) (IE.var .i64 1007)), (BE.and (BE.lit true) (BE.lit true)), (BE.le (IE.var .i64 1007) (IE.lit 9))]
def pcliR4_1 : List BE := ((BE.not (BE.le (IE.sub (IE.len (LE.rom 0)) (IE.var .i64 1003)) (IE.var .i64 1007))) :: pcliR4_0)
def pcliR4_2 : List BE := ((BE.le (IE.var .i64 1007) (IE.lit 0)) :: pcliR4_1)
def pcliR4_3 : List BE := ((BE.not (BE.le (IE.var .i64 1007) (IE.lit 0))) :: pcliR4_1)
def pcliR4_4 : List BE := ((BE.not (BE.le (IE.lit 128) (IE.cel .u8 (LE.rom 0) (IE.add (IE.var .i64 1004) (IE.var .i64 1007)) 0))) :: pcliR4_2)
def pcliR4_5 : List BE := ((BE.not (BE.eq (IE.cel .u8 (LE.rom 0) (IE.add (IE.var .i64 1004) (IE.var .i64 1007)) 0) (IE.lit 0))) :: pcliR4_3)
def pcliR4_6 : List BE := ((BE.le (IE.bin BinOp.or .u64 (IE.var .u64 1008) (IE.bin BinOp.shl .u64 (IE.bin BinOp.and .u8 (IE.cel .u8 (LE.rom 0) (IE.add (IE.var .i64 1004) (IE.var .i64 1007)) 0) (IE.lit 127)) (IE.mul (IE.lit 7) (IE.var .i64 1007)))) (IE.sub (IE.len (LE.rom 0)) (IE.add (IE.var .i64 1003) (IE.add (IE.var .i64 1007) (IE.lit 1))))) :: pcliR4_4)
def pcliR4_7 : List BE := ((BE.eq (IE.var .i64 1007) (IE.lit 9)) :: pcliR4_5)
def pcliR4_8 : List BE := ((BE.not (BE.eq (IE.var .i64 1007) (IE.lit 9))) :: pcliR4_5)
def pcliR4_9 : List BE := ((BE.le (IE.cel .u8 (LE.rom 0) (IE.add (IE.var .i64 1004) (IE.var .i64 1007)) 0) (IE.lit 1)) :: pcliR4_7)
def pcliR4_10 : List BE := ((BE.not (BE.le (IE.lit 128) (IE.cel .u8 (LE.rom 0) (IE.add (IE.var .i64 1004) (IE.var .i64 1007)) 0))) :: pcliR4_8)
def pcliR4_11 : List BE := ((BE.le (IE.bin BinOp.or .u64 (IE.var .u64 1008) (IE.bin BinOp.shl .u64 (IE.bin BinOp.and .u8 (IE.cel .u8 (LE.rom 0) (IE.add (IE.var .i64 1004) (IE.var .i64 1007)) 0) (IE.lit 127)) (IE.mul (IE.lit 7) (IE.var .i64 1007)))) (IE.sub (IE.len (LE.rom 0)) (IE.add (IE.var .i64 1003) (IE.add (IE.var .i64 1007) (IE.lit 1))))) :: pcliR4_9)
def pcliR4_12 : List BE := ((BE.le (IE.bin BinOp.or .u64 (IE.var .u64 1008) (IE.bin BinOp.shl .u64 (IE.bin BinOp.and .u8 (IE.cel .u8 (LE.rom 0) (IE.add (IE.var .i64 1004) (IE.var .i64 1007)) 0) (IE.lit 127)) (IE.mul (IE.lit 7) (IE.var .i64 1007)))) (IE.sub (IE.len (LE.rom 0)) (IE.add (IE.var .i64 1003) (IE.add (IE.var .i64 1007) (IE.lit 1))))) :: pcliR4_10)
def wliR4_0 : VW := (VW.done ((BE.le (IE.sub (IE.len (LE.rom 0)) (IE.var .i64 1003)) (IE.var .i64 1007)) :: pcliR4_0) (some [(G.b (BE.lit true) (BE.lit false))]))
def wliR4_1 : VW := (VW.cut 4 ((BE.le (IE.lit 128) (IE.cel .u8 (LE.rom 0) (IE.add (IE.var .i64 1004) (IE.var .i64 1007)) 0)) :: pcliR4_2) (Sx.Sub.mk [(.i64, (1003, (IE.var .i64 1003))), (.u64, (1002, (IE.var .u64 1002))), (.i64, (1007, (IE.add (IE.var .i64 1007) (IE.lit 1)))), (.i64, (1006, (IE.var .i64 1006))), (.i64, (1004, (IE.var .i64 1004))), (.u64, (1008, (IE.bin BinOp.or .u64 (IE.var .u64 1008) (IE.bin BinOp.shl .u64 (IE.bin BinOp.and .u8 (IE.cel .u8 (LE.rom 0) (IE.add (IE.var .i64 1004) (IE.var .i64 1007)) 0) (IE.lit 127)) (IE.mul (IE.lit 7) (IE.var .i64 1007))))))] [] [] [] [] []))
def wliR4_2 : VW := (VW.cut 3 ((BE.eq (IE.add (IE.add (IE.var .i64 1003) (IE.add (IE.var .i64 1007) (IE.lit 1))) (IE.bin BinOp.or .u64 (IE.var .u64 1008) (IE.bin BinOp.shl .u64 (IE.bin BinOp.and .u8 (IE.cel .u8 (LE.rom 0) (IE.add (IE.var .i64 1004) (IE.var .i64 1007)) 0) (IE.lit 127)) (IE.mul (IE.lit 7) (IE.var .i64 1007))))) (IE.add (IE.var .i64 1003) (IE.add (IE.var .i64 1007) (IE.lit 1)))) :: pcliR4_6) (Sx.Sub.mk [(.i64, (1011, (IE.add (IE.add (IE.var .i64 1003) (IE.add (IE.var .i64 1007) (IE.lit 1))) (IE.bin BinOp.or .u64 (IE.var .u64 1008) (IE.bin BinOp.shl .u64 (IE.bin BinOp.and .u8 (IE.cel .u8 (LE.rom 0) (IE.add (IE.var .i64 1004) (IE.var .i64 1007)) 0) (IE.lit 127)) (IE.mul (IE.lit 7) (IE.var .i64 1007))))))), (.i64, (1010, (IE.lit 1))), (.u64, (1009, (IE.sub (IE.var .u64 1002) (IE.lit 1))))] [] [(1012, (LE.one (AL.lst (LE.take (LE.rom 0) (IE.bin BinOp.or .u64 (IE.var .u64 1008) (IE.bin BinOp.shl .u64 (IE.bin BinOp.and .u8 (IE.cel .u8 (LE.rom 0) (IE.add (IE.var .i64 1004) (IE.var .i64 1007)) 0) (IE.lit 127)) (IE.mul (IE.lit 7) (IE.var .i64 1007))))) AL.nil)))] [] [] []))
def wliR4_3 : VW := (VW.cut 3 ((BE.not (BE.eq (IE.add (IE.add (IE.var .i64 1003) (IE.add (IE.var .i64 1007) (IE.lit 1))) (IE.bin BinOp.or .u64 (IE.var .u64 1008) (IE.bin BinOp.shl .u64 (IE.bin BinOp.and .u8 (IE.cel .u8 (LE.rom 0) (IE.add (IE.var .i64 1004) (IE.var .i64 1007)) 0) (IE.lit 127)) (IE.mul (IE.lit 7) (IE.var .i64 1007))))) (IE.add (IE.var .i64 1003) (IE.add (IE.var .i64 1007) (IE.lit 1))))) :: pcliR4_6) (Sx.Sub.mk [(.i64, (1011, (IE.add (IE.add (IE.var .i64 1003) (IE.add (IE.var .i64 1007) (IE.lit 1))) (IE.bin BinOp.or .u64 (IE.var .u64 1008) (IE.bin BinOp.shl .u64 (IE.bin BinOp.and .u8 (IE.cel .u8 (LE.rom 0) (IE.add (IE.var .i64 1004) (IE.var .i64 1007)) 0) (IE.lit 127)) (IE.mul (IE.lit 7) (IE.var .i64 1007))))))), (.i64, (1010, (IE.lit 1))), (.u64, (1009, (IE.sub (IE.var .u64 1002) (IE.lit 1))))] [] [(1012, (LE.one (AL.lst (LE.take (LE.drop (LE.rom 0) (IE.add (IE.var .i64 1003) (IE.add (IE.var .i64 1007) (IE.lit 1)))) (IE.bin BinOp.or .u64 (IE.var .u64 1008) (IE.bin BinOp.shl .u64 (IE.bin BinOp.and .u8 (IE.cel .u8 (LE.rom 0) (IE.add (IE.var .i64 1004) (IE.var .i64 1007)) 0) (IE.lit 127)) (IE.mul (IE.lit 7) (IE.var .i64 1007))))) AL.nil)))] [] [] []))
def wliR4_4 : VW := (VW.done ((BE.not (BE.le (IE.bin BinOp.or .u64 (IE.var .u64 1008) (IE.bin BinOp.shl .u64 (IE.bin BinOp.and .u8 (IE.cel .u8 (LE.rom 0) (IE.add (IE.var .i64 1004) (IE.var .i64 1007)) 0) (IE.lit 127)) (IE.mul (IE.lit 7) (IE.var .i64 1007)))) (IE.sub (IE.len (LE.rom 0)) (IE.add (IE.var .i64 1003) (IE.add (IE.var .i64 1007) (IE.lit 1)))))) :: pcliR4_4) (some [(G.b (BE.lit true) (BE.lit false))]))
def wliR4_5 : VW := (VW.done ((BE.eq (IE.cel .u8 (LE.rom 0) (IE.add (IE.var .i64 1004) (IE.var .i64 1007)) 0) (IE.lit 0)) :: pcliR4_3) (some [(G.b (BE.lit true) (BE.lit false))]))
def wliR4_6 : VW := (VW.cut 3 ((BE.eq (IE.add (IE.add (IE.var .i64 1003) (IE.add (IE.var .i64 1007) (IE.lit 1))) (IE.bin BinOp.or .u64 (IE.var .u64 1008) (IE.bin BinOp.shl .u64 (IE.bin BinOp.and .u8 (IE.cel .u8 (LE.rom 0) (IE.add (IE.var .i64 1004) (IE.var .i64 1007)) 0) (IE.lit 127)) (IE.mul (IE.lit 7) (IE.var .i64 1007))))) (IE.add (IE.var .i64 1003) (IE.add (IE.var .i64 1007) (IE.lit 1)))) :: pcliR4_11) (Sx.Sub.mk [(.i64, (1011, (IE.add (IE.add (IE.var .i64 1003) (IE.add (IE.var .i64 1007) (IE.lit 1))) (IE.bin BinOp.or .u64 (IE.var .u64 1008) (IE.bin BinOp.shl .u64 (IE.bin BinOp.and .u8 (IE.cel .u8 (LE.rom 0) (IE.add (IE.var .i64 1004) (IE.var .i64 1007)) 0) (IE.lit 127)) (IE.mul (IE.lit 7) (IE.var .i64 1007))))))), (.i64, (1010, (IE.lit 1))), (.u64, (1009, (IE.sub (IE.var .u64 1002) (IE.lit 1))))] [] [(1012, (LE.one (AL.lst (LE.take (LE.rom 0) (IE.bin BinOp.or .u64 (IE.var .u64 1008) (IE.bin BinOp.shl .u64 (IE.bin BinOp.and .u8 (IE.cel .u8 (LE.rom 0) (IE.add (IE.var .i64 1004) (IE.var .i64 1007)) 0) (IE.lit 127)) (IE.mul (IE.lit 7) (IE.var .i64 1007))))) AL.nil)))] [] [] []))
def wliR4_7 : VW := (VW.cut 3 ((BE.not (BE.eq (IE.add (IE.add (IE.var .i64 1003) (IE.add (IE.var .i64 1007) (IE.lit 1))) (IE.bin BinOp.or .u64 (IE.var .u64 1008) (IE.bin BinOp.shl .u64 (IE.bin BinOp.and .u8 (IE.cel .u8 (LE.rom 0) (IE.add (IE.var .i64 1004) (IE.var .i64 1007)) 0) (IE.lit 127)) (IE.mul (IE.lit 7) (IE.var .i64 1007))))) (IE.add (IE.var .i64 1003) (IE.add (IE.var .i64 1007) (IE.lit 1))))) :: pcliR4_11) (Sx.Sub.mk [(.i64, (1011, (IE.add (IE.add (IE.var .i64 1003) (IE.add (IE.var .i64 1007) (IE.lit 1))) (IE.bin BinOp.or .u64 (IE.var .u64 1008) (IE.bin BinOp.shl .u64 (IE.bin BinOp.and .u8 (IE.cel .u8 (LE.rom 0) (IE.add (IE.var .i64 1004) (IE.var .i64 1007)) 0) (IE.lit 127)) (IE.mul (IE.lit 7) (IE.var .i64 1007))))))), (.i64, (1010, (IE.lit 1))), (.u64, (1009, (IE.sub (IE.var .u64 1002) (IE.lit 1))))] [] [(1012, (LE.one (AL.lst (LE.take (LE.drop (LE.rom 0) (IE.add (IE.var .i64 1003) (IE.add (IE.var .i64 1007) (IE.lit 1)))) (IE.bin BinOp.or .u64 (IE.var .u64 1008) (IE.bin BinOp.shl .u64 (IE.bin BinOp.and .u8 (IE.cel .u8 (LE.rom 0) (IE.add (IE.var .i64 1004) (IE.var .i64 1007)) 0) (IE.lit 127)) (IE.mul (IE.lit 7) (IE.var .i64 1007))))) AL.nil)))] [] [] []))
def wliR4_8 : VW := (VW.done ((BE.not (BE.le (IE.bin BinOp.or .u64 (IE.var .u64 1008) (IE.bin BinOp.shl .u64 (IE.bin BinOp.and .u8 (IE.cel .u8 (LE.rom 0) (IE.add (IE.var .i64 1004) (IE.var .i64 1007)) 0) (IE.lit 127)) (IE.mul (IE.lit 7) (IE.var .i64 1007)))) (IE.sub (IE.len (LE.rom 0)) (IE.add (IE.var .i64 1003) (IE.add (IE.var .i64 1007) (IE.lit 1)))))) :: pcliR4_9) (some [(G.b (BE.lit true) (BE.lit false))]))
def wliR4_9 : VW := (VW.done ((BE.not (BE.le (IE.cel .u8 (LE.rom 0) (IE.add (IE.var .i64 1004) (IE.var .i64 1007)) 0) (IE.lit 1))) :: pcliR4_7) (some [(G.b (BE.lit true) (BE.lit false))]))
def wliR4_10 : VW := (VW.cut 4 ((BE.le (IE.lit 128) (IE.cel .u8 (LE.rom 0) (IE.add (IE.var .i64 1004) (IE.var .i64 1007)) 0)) :: pcliR4_8) (Sx.Sub.mk [(.i64, (1003, (IE.var .i64 1003))), (.u64, (1002, (IE.var .u64 1002))), (.i64, (1007, (IE.add (IE.var .i64 1007) (IE.lit 1)))), (.i64, (1006, (IE.var .i64 1006))), (.i64, (1004, (IE.var .i64 1004))), (.u64, (1008, (IE.bin BinOp.or .u64 (IE.var .u64 1008) (IE.bin BinOp.shl .u64 (IE.bin BinOp.and .u8 (IE.cel .u8 (LE.rom 0) (IE.add (IE.var .i64 1004) (IE.var .i64 1007)) 0) (IE.lit 127)) (IE.mul (IE.lit 7) (IE.var .i64 1007))))))] [] [] [] [] []))
def wliR4_11 : VW := (VW.cut 3 ((BE.eq (IE.add (IE.add (IE.var .i64 1003) (IE.add (IE.var .i64 1007) (IE.lit 1))) (IE.bin BinOp.or .u64 (IE.var .u64 1008) (IE.bin BinOp.shl .u64 (IE.bin BinOp.and .u8 (IE.cel .u8 (LE.rom 0) (IE.add (IE.var .i64 1004) (IE.var .i64 1007)) 0) (IE.lit 127)) (IE.mul (IE.lit 7) (IE.var .i64 1007))))) (IE.add (IE.var .i64 1003) (IE.add (IE.var .i64 1007) (IE.lit 1)))) :: pcliR4_12) (Sx.Sub.mk [(.i64, (1011, (IE.add (IE.add (IE.var .i64 1003) (IE.add (IE.var .i64 1007) (IE.lit 1))) (IE.bin BinOp.or .u64 (IE.var .u64 1008) (IE.bin BinOp.shl .u64 (IE.bin BinOp.and .u8 (IE.cel .u8 (LE.rom 0) (IE.add (IE.var .i64 1004) (IE.var .i64 1007)) 0) (IE.lit 127)) (IE.mul (IE.lit 7) (IE.var .i64 1007))))))), (.i64, (1010, (IE.lit 1))), (.u64, (1009, (IE.sub (IE.var .u64 1002) (IE.lit 1))))] [] [(1012, (LE.one (AL.lst (LE.take (LE.rom 0) (IE.bin BinOp.or .u64 (IE.var .u64 1008) (IE.bin BinOp.shl .u64 (IE.bin BinOp.and .u8 (IE.cel .u8 (LE.rom 0) (IE.add (IE.var .i64 1004) (IE.var .i64 1007)) 0) (IE.lit 127)) (IE.mul (IE.lit 7) (IE.var .i64 1007))))) AL.nil)))] [] [] []))
def wliR4_12 : VW := (VW.cut 3 ((BE.not (BE.eq (IE.add (IE.add (IE.var .i64 1003) (IE.add (IE.var .i64 1007) (IE.lit 1))) (IE.bin BinOp.or .u64 (IE.var .u64 1008) (IE.bin BinOp.shl .u64 (IE.bin BinOp.and .u8 (IE.cel .u8 (LE.rom 0) (IE.add (IE.var .i64 1004) (IE.var .i64 1007)) 0) (IE.lit 127)) (IE.mul (IE.lit 7) (IE.var .i64 1007))))) (IE.add (IE.var .i64 1003) (IE.add (IE.var .i64 1007) (IE.lit 1))))) :: pcliR4_12) (Sx.Sub.mk [(.i64, (1011, (IE.add (IE.add (IE.var .i64 1003) (IE.add (IE.var .i64 1007) (IE.lit 1))) (IE.bin BinOp.or .u64 (IE.var .u64 1008) (IE.bin BinOp.shl .u64 (IE.bin BinOp.and .u8 (IE.cel .u8 (LE.rom 0) (IE.add (IE.var .i64 1004) (IE.var .i64 1007)) 0) (IE.lit 127)) (IE.mul (IE.lit 7) (IE.var .i64 1007))))))), (.i64, (1010, (IE.lit 1))), (.u64, (1009, (IE.sub (IE.var .u64 1002) (IE.lit 1))))] [] [(1012, (LE.one (AL.lst (LE.take (LE.drop (LE.rom 0) (IE.add (IE.var .i64 1003) (IE.add (IE.var .i64 1007) (IE.lit 1)))) (IE.bin BinOp.or .u64 (IE.var .u64 1008) (IE.bin BinOp.shl .u64 (IE.bin BinOp.and .u8 (IE.cel .u8 (LE.rom 0) (IE.add (IE.var .i64 1004) (IE.var .i64 1007)) 0) (IE.lit 127)) (IE.mul (IE.lit 7) (IE.var .i64 1007))))) AL.nil)))] [] [] []))
def wliR4_13 : VW := (VW.done ((BE.not (BE.le (IE.bin BinOp.or .u64 (IE.var .u64 1008) (IE.bin BinOp.shl .u64 (IE.bin BinOp.and .u8 (IE.cel .u8 (LE.rom 0) (IE.add (IE.var .i64 1004) (IE.var .i64 1007)) 0) (IE.lit 127)) (IE.mul (IE.lit 7) (IE.var .i64 1007)))) (IE.sub (IE.len (LE.rom 0)) (IE.add (IE.var .i64 1003) (IE.add (IE.var .i64 1007) (IE.lit 1)))))) :: pcliR4_10) (some [(G.b (BE.lit true) (BE.lit false))]))
def vwliR4 : List VW := [wliR4_0, wliR4_1, wliR4_2, wliR4_3, wliR4_4, wliR4_5, wliR4_6, wliR4_7, wliR4_8, wliR4_9, wliR4_10, wliR4_11, wliR4_12, wliR4_13]
def pcliR5_0 : List BE := [(BE.lit true), (BE.le (IE.var .i64 1013) (IE.var .i64 1011)), (BE.le (IE.len (LE.rom 0)) (IE.lit 2000)), (BE.le (IE.lit 1) (IE.len (LE.rom 0))), (BE.fn 1 (AL.lst (LE.rom 0) (AL.int .i64 (IE.var .i64 1) AL.nil))), (BE.not (BE.le (IE.var .u64 1009) (IE.lit 0))), (BE.le (IE.lit 0) (IE.var .i64 1010)), (BE.le (IE.lit 0) (IE.var .i64 1011)), (BE.le (IE.var .i64 1011) (IE.len (LE.rom 0))), (BE.le (IE.var .i64 1010) (IE.lit 2000)), (BE.le (IE.lit 0) (IE.var .i64 1013)), (BE.le (IE.lit 0) (IE.var .i64 1015)), (BE.le (IE.lit 0) (IE.var .i64 1016)), (BE.and (BE.lit true) (BE.lit true)), (BE.le (IE.var .i64 1016) (IE.lit 9)), (BE.le (IE.var .i64 1010) (IE.lit 2000))]
def pcliR5_1 : List BE := ((BE.not (BE.le (IE.sub (IE.len (LE.rom 0)) (IE.var .i64 1011)) (IE.var .i64 1016))) :: pcliR5_0)
def pcliR5_2 : List BE := ((BE.le (IE.var .i64 1016) (IE.lit 0)) :: pcliR5_1)
def pcliR5_3 : List BE := ((BE.not (BE.le (IE.var .i64 1016) (IE.lit 0))) :: pcliR5_1)
def pcliR5_4 : List BE := ((BE.not (BE.le (IE.lit 128) (IE.cel .u8 (LE.rom 0) (IE.add (IE.var .i64 1013) (IE.var .i64 1016)) 0))) :: pcliR5_2)
def pcliR5_5 : List BE := ((BE.not (BE.eq (IE.cel .u8 (LE.rom 0) (IE.add (IE.var .i64 1013) (IE.var .i64 1016)) 0) (IE.lit 0))) :: pcliR5_3)
def pcliR5_6 : List BE := ((BE.le (IE.bin BinOp.or .u64 (IE.var .u64 1017) (IE.bin BinOp.shl .u64 (IE.bin BinOp.and .u8 (IE.cel .u8 (LE.rom 0) (IE.add (IE.var .i64 1013) (IE.var .i64 1016)) 0) (IE.lit 127)) (IE.mul (IE.lit 7) (IE.var .i64 1016)))) (IE.sub (IE.len (LE.rom 0)) (IE.add (IE.var .i64 1011) (IE.add (IE.var .i64 1016) (IE.lit 1))))) :: pcliR5_4)
def pcliR5_7 : List BE := ((BE.eq (IE.var .i64 1016) (IE.lit 9)) :: pcliR5_5)
def pcliR5_8 : List BE := ((BE.not (BE.eq (IE.var .i64 1016) (IE.lit 9))) :: pcliR5_5)
def pcliR5_9 : List BE := ((BE.le (IE.cel .u8 (LE.rom 0) (IE.add (IE.var .i64 1013) (IE.var .i64 1016)) 0) (IE.lit 1)) :: pcliR5_7)
def pcliR5_10 : List BE := ((BE.not (BE.le (IE.lit 128) (IE.cel .u8 (LE.rom 0) (IE.add (IE.var .i64 1013) (IE.var .i64 1016)) 0))) :: pcliR5_8)
def pcliR5_11 : List BE := ((BE.le (IE.bin BinOp.or .u64 (IE.var .u64 1017) (IE.bin BinOp.shl .u64 (IE.bin BinOp.and .u8 (IE.cel .u8 (LE.rom 0) (IE.add (IE.var .i64 1013) (IE.var .i64 1016)) 0) (IE.lit 127)) (IE.mul (IE.lit 7) (IE.var .i64 1016)))) (IE.sub (IE.len (LE.rom 0)) (IE.add (IE.var .i64 1011) (IE.add (IE.var .i64 1016) (IE.lit 1))))) :: pcliR5_9)
def pcliR5_12 : List BE := ((BE.le (IE.bin BinOp.or .u64 (IE.var .u64 1017) (IE.bin BinOp.shl .u64 (IE.bin BinOp.and .u8 (IE.cel .u8 (LE.rom 0) (IE.add (IE.var .i64 1013) (IE.var .i64 1016)) 0) (IE.lit 127)) (IE.mul (IE.lit 7) (IE.var .i64 1016)))) (IE.sub (IE.len (LE.rom 0)) (IE.add (IE.var .i64 1011) (IE.add (IE.var .i64 1016) (IE.lit 1))))) :: pcliR5_10)
def wliR5_0 : VW := (VW.done ((BE.le (IE.sub (IE.len (LE.rom 0)) (IE.var .i64 1011)) (IE.var .i64 1016)) :: pcliR5_0) (some [(G.b (BE.lit true) (BE.lit false))]))
def wliR5_1 : VW := (VW.cut 5 ((BE.le (IE.lit 128) (IE.cel .u8 (LE.rom 0) (IE.add (IE.var .i64 1013) (IE.var .i64 1016)) 0)) :: pcliR5_2) (Sx.Sub.mk [(.i64, (1011, (IE.var .i64 1011))), (.i64, (1010, (IE.var .i64 1010))), (.u64, (1009, (IE.var .u64 1009))), (.i64, (1016, (IE.add (IE.var .i64 1016) (IE.lit 1)))), (.i64, (1015, (IE.var .i64 1015))), (.i64, (1013, (IE.var .i64 1013))), (.u64, (1017, (IE.bin BinOp.or .u64 (IE.var .u64 1017) (IE.bin BinOp.shl .u64 (IE.bin BinOp.and .u8 (IE.cel .u8 (LE.rom 0) (IE.add (IE.var .i64 1013) (IE.var .i64 1016)) 0) (IE.lit 127)) (IE.mul (IE.lit 7) (IE.var .i64 1016))))))] [] [(1012, (LE.var 1012))] [] [] []))
def wliR5_2 : VW := (VW.cut 3 ((BE.eq (IE.add (IE.add (IE.var .i64 1011) (IE.add (IE.var .i64 1016) (IE.lit 1))) (IE.bin BinOp.or .u64 (IE.var .u64 1017) (IE.bin BinOp.shl .u64 (IE.bin BinOp.and .u8 (IE.cel .u8 (LE.rom 0) (IE.add (IE.var .i64 1013) (IE.var .i64 1016)) 0) (IE.lit 127)) (IE.mul (IE.lit 7) (IE.var .i64 1016))))) (IE.add (IE.var .i64 1011) (IE.add (IE.var .i64 1016) (IE.lit 1)))) :: pcliR5_6) (Sx.Sub.mk [(.i64, (1011, (IE.add (IE.add (IE.var .i64 1011) (IE.add (IE.var .i64 1016) (IE.lit 1))) (IE.bin BinOp.or .u64 (IE.var .u64 1017) (IE.bin BinOp.shl .u64 (IE.bin BinOp.and .u8 (IE.cel .u8 (LE.rom 0) (IE.add (IE.var .i64 1013) (IE.var .i64 1016)) 0) (IE.lit 127)) (IE.mul (IE.lit 7) (IE.var .i64 1016))))))), (.i64, (1010, (IE.add (IE.var .i64 1010) (IE.lit 1)))), (.u64, (1009, (IE.sub (IE.var .u64 1009) (IE.lit 1))))] [] [(1012, (LE.cat (LE.var 1012) (LE.one (AL.lst (LE.take (LE.rom 0) (IE.bin BinOp.or .u64 (IE.var .u64 1017) (IE.bin BinOp.shl .u64 (IE.bin BinOp.and .u8 (IE.cel .u8 (LE.rom 0) (IE.add (IE.var .i64 1013) (IE.var .i64 1016)) 0) (IE.lit 127)) (IE.mul (IE.lit 7) (IE.var .i64 1016))))) AL.nil))))] [] [] []))
def wliR5_3 : VW := (VW.cut 3 ((BE.not (BE.eq (IE.add (IE.add (IE.var .i64 1011) (IE.add (IE.var .i64 1016) (IE.lit 1))) (IE.bin BinOp.or .u64 (IE.var .u64 1017) (IE.bin BinOp.shl .u64 (IE.bin BinOp.and .u8 (IE.cel .u8 (LE.rom 0) (IE.add (IE.var .i64 1013) (IE.var .i64 1016)) 0) (IE.lit 127)) (IE.mul (IE.lit 7) (IE.var .i64 1016))))) (IE.add (IE.var .i64 1011) (IE.add (IE.var .i64 1016) (IE.lit 1))))) :: pcliR5_6) (Sx.Sub.mk [(.i64, (1011, (IE.add (IE.add (IE.var .i64 1011) (IE.add (IE.var .i64 1016) (IE.lit 1))) (IE.bin BinOp.or .u64 (IE.var .u64 1017) (IE.bin BinOp.shl .u64 (IE.bin BinOp.and .u8 (IE.cel .u8 (LE.rom 0) (IE.add (IE.var .i64 1013) (IE.var .i64 1016)) 0) (IE.lit 127)) (IE.mul (IE.lit 7) (IE.var .i64 1016))))))), (.i64, (1010, (IE.add (IE.var .i64 1010) (IE.lit 1)))), (.u64, (1009, (IE.sub (IE.var .u64 1009) (IE.lit 1))))] [] [(1012, (LE.cat (LE.var 1012) (LE.one (AL.lst (LE.take (LE.drop (LE.rom 0) (IE.add (IE.var .i64 1011) (IE.add (IE.var .i64 1016) (IE.lit 1)))) (IE.bin BinOp.or .u64 (IE.var .u64 1017) (IE.bin BinOp.shl .u64 (IE.bin BinOp.and .u8 (IE.cel .u8 (LE.rom 0) (IE.add (IE.var .i64 1013) (IE.var .i64 1016)) 0) (IE.lit 127)) (IE.mul (IE.lit 7) (IE.var .i64 1016))))) AL.nil))))] [] [] []))
def wliR5_4 : VW := (VW.done ((BE.not (BE.le (IE.bin BinOp.or .u64 (IE.var .u64 1017) (IE.bin BinOp.shl .u64 (IE.bin BinOp.and .u8 (IE.cel .u8 (LE.rom 0) (IE.add (IE.var .i64 1013) (IE.var .i64 1016)) 0) (IE.lit 127)) (IE.mul (IE.lit 7) (IE.var .i64 1016)))) (IE.sub (IE.len (LE.rom 0)) (IE.add (IE.var .i64 1011) (IE.add (IE.var .i64 1016) (IE.lit 1)))))) :: pcliR5_4) (some [(G.b (BE.lit true) (BE.lit false))]))
def wliR5_5 : VW := (VW.done ((BE.eq (IE.cel .u8 (LE.rom 0) (IE.add (IE.var .i64 1013) (IE.var .i64 1016)) 0) (IE.lit 0)) :: pcliR5_3) (some [(G.b (BE.lit true) (BE.lit false))]))
def wliR5_6 : VW := (VW.cut 3 ((BE.eq (IE.add (IE.add (IE.var .i64 1011) (IE.add (IE.var .i64 1016) (IE.lit 1))) (IE.bin BinOp.or .u64 (IE.var .u64 1017) (IE.bin BinOp.shl .u64 (IE.bin BinOp.and .u8 (IE.cel .u8 (LE.rom 0) (IE.add (IE.var .i64 1013) (IE.var .i64 1016)) 0) (IE.lit 127)) (IE.mul (IE.lit 7) (IE.var .i64 1016))))) (IE.add (IE.var .i64 1011) (IE.add (IE.var .i64 1016) (IE.lit 1)))) :: pcliR5_11) (Sx.Sub.mk [(.i64, (1011, (IE.add (IE.add (IE.var .i64 1011) (IE.add (IE.var .i64 1016) (IE.lit 1))) (IE.bin BinOp.or .u64 (IE.var .u64 1017) (IE.bin BinOp.shl .u64 (IE.bin BinOp.and .u8 (IE.cel .u8 (LE.rom 0) (IE.add (IE.var .i64 1013) (IE.var .i64 1016)) 0) (IE.lit 127)) (IE.mul (IE.lit 7) (IE.var .i64 1016))))))), (.i64, (1010, (IE.add (IE.var .i64 1010) (IE.lit 1)))), (.u64, (1009, (IE.sub (IE.var .u64 1009) (IE.lit 1))))] [] [(1012, (LE.cat (LE.var 1012) (LE.one (AL.lst (LE.take (LE.rom 0) (IE.bin BinOp.or .u64 (IE.var .u64 1017) (IE.bin BinOp.shl .u64 (IE.bin BinOp.and .u8 (IE.cel .u8 (LE.rom 0) (IE.add (IE.var .i64 1013) (IE.var .i64 1016)) 0) (IE.lit 127)) (IE.mul (IE.lit 7) (IE.var .i64 1016))))) AL.nil))))] [] [] []))
def wliR5_7 : VW := (VW.cut 3 ((BE.not (BE.eq (IE.add (IE.add (IE.var .i64 1011) (IE.add (IE.var .i64 1016) (IE.lit 1))) (IE.bin BinOp.or .u64 (IE.var .u64 1017) (IE.bin BinOp.shl .u64 (IE.bin BinOp.and .u8 (IE.cel .u8 (LE.rom 0) (IE.add (IE.var .i64 1013) (IE.var .i64 1016)) 0) (IE.lit 127)) (IE.mul (IE.lit 7) (IE.var .i64 1016))))) (IE.add (IE.var .i64 1011) (IE.add (IE.var .i64 1016) (IE.lit 1))))) :: pcliR5_11) (Sx.Sub.mk [(.i64, (1011, (IE.add (IE.add (IE.var .i64 1011) (IE.add (IE.var .i64 1016) (IE.lit 1))) (IE.bin BinOp.or .u64 (IE.var .u64 1017) (IE.bin BinOp.shl .u64 (IE.bin BinOp.and .u8 (IE.cel .u8 (LE.rom 0) (IE.add (IE.var .i64 1013) (IE.var .i64 1016)) 0) (IE.lit 127)) (IE.mul (IE.lit 7) (IE.var .i64 1016))))))), (.i64, (1010, (IE.add (IE.var .i64 1010) (IE.lit 1)))), (.u64, (1009, (IE.sub (IE.var .u64 1009) (IE.lit 1))))] [] [(1012, (LE.cat (LE.var 1012) (LE.one (AL.lst (LE.take (LE.drop (LE.rom 0) (IE.add (IE.var .i64 1011) (IE.add (IE.var .i64 1016) (IE.lit 1)))) (IE.bin BinOp.or .u64 (IE.var .u64 1017) (IE.bin BinOp.shl .u64 (IE.bin BinOp.and .u8 (IE.cel .u8 (LE.rom 0) (IE.add (IE.var .i64 1013) (IE.var .i64 1016)) 0) (IE.lit 127)) (IE.mul (IE.lit 7) (IE.var .i64 1016))))) AL.nil))))] [] [] []))
def wliR5_8 : VW := (VW.done ((BE.not (BE.le (IE.bin BinOp.or .u64 (IE.var .u64 1017) (IE.bin BinOp.shl .u64 (IE.bin BinOp.and .u8 (IE.cel .u8 (LE.rom 0) (IE.add (IE.var .i64 1013) (IE.var .i64 1016)) 0) (IE.lit 127)) (IE.mul (IE.lit 7) (IE.var .i64 1016)))) (IE.sub (IE.len (LE.rom 0)) (IE.add (IE.var .i64 1011) (IE.add (IE.var .i64 1016) (IE.lit 1)))))) :: pcliR5_9) (some [(G.b (BE.lit true) (BE.lit false))]))
def wliR5_9 : VW := (VW.done ((BE.not (BE.le (IE.cel .u8 (LE.rom 0) (IE.add (IE.var .i64 1013) (IE.var .i64 1016)) 0) (IE.lit 1))) :: pcliR5_7) (some [(G.b (BE.lit true) (BE.lit false))]))
def wliR5_10 : VW := (VW.cut 5 ((BE.le (IE.lit 128) (IE.cel .u8 (LE.rom 0) (IE.add (IE.var .i64 1013) (IE.var .i64 1016)) 0)) :: pcliR5_8) (Sx.Sub.mk [(.i64, (1011, (IE.var .i64 1011))), (.i64, (1010, (IE.var .i64 1010))), (.u64, (1009, (IE.var .u64 1009))), (.i64, (1016, (IE.add (IE.var .i64 1016) (IE.lit 1)))), (.i64, (1015, (IE.var .i64 1015))), (.i64, (1013, (IE.var .i64 1013))), (.u64, (1017, (IE.bin BinOp.or .u64 (IE.var .u64 1017) (IE.bin BinOp.shl .u64 (IE.bin BinOp.and .u8 (IE.cel .u8 (LE.rom 0) (IE.add (IE.var .i64 1013) (IE.var .i64 1016)) 0) (IE.lit 127)) (IE.mul (IE.lit 7) (IE.var .i64 1016))))))] [] [(1012, (LE.var 1012))] [] [] []))
def wliR5_11 : VW := (VW.cut 3 ((BE.eq (IE.add (IE.add (IE.var .i64 1011) (IE.add (IE.var .i64 1016) (IE.lit 1))) (IE.bin BinOp.or .u64 (IE.var .u64 1017) (IE.bin BinOp.shl .u64 (IE.bin BinOp.and .u8 (IE.cel .u8 (LE.rom 0) (IE.add (IE.var .i64 1013) (IE.var .i64 1016)) 0) (IE.lit 127)) (IE.mul (IE.lit 7) (IE.var .i64 1016))))) (IE.add (IE.var .i64 1011) (IE.add (IE.var .i64 1016) (IE.lit 1)))) :: pcliR5_12) (Sx.Sub.mk [(.i64, (1011, (IE.add (IE.add (IE.var .i64 1011) (IE.add (IE.var .i64 1016) (IE.lit 1))) (IE.bin BinOp.or .u64 (IE.var .u64 1017) (IE.bin BinOp.shl .u64 (IE.bin BinOp.and .u8 (IE.cel .u8 (LE.rom 0) (IE.add (IE.var .i64 1013) (IE.var .i64 1016)) 0) (IE.lit 127)) (IE.mul (IE.lit 7) (IE.var .i64 1016))))))), (.i64, (1010, (IE.add (IE.var .i64 1010) (IE.lit 1)))), (.u64, (1009, (IE.sub (IE.var .u64 1009) (IE.lit 1))))] [] [(1012, (LE.cat (LE.var 1012) (LE.one (AL.lst (LE.take (LE.rom 0) (IE.bin BinOp.or .u64 (IE.var .u64 1017) (IE.bin BinOp.shl .u64 (IE.bin BinOp.and .u8 (IE.cel .u8 (LE.rom 0) (IE.add (IE.var .i64 1013) (IE.var .i64 1016)) 0) (IE.lit 127)) (IE.mul (IE.lit 7) (IE.var .i64 1016))))) AL.nil))))] [] [] []))
def wliR5_12 : VW := (VW.cut 3 ((BE.not (BE.eq (IE.add (IE.add (IE.var .i64 1011) (IE.add (IE.var .i64 1016) (IE.lit 1))) (IE.bin BinOp.or .u64 (IE.var .u64 1017) (IE.bin BinOp.shl .u64 (IE.bin BinOp.and .u8 (IE.cel .u8 (LE.rom 0) (IE.add (IE.var .i64 1013) (IE.var .i64 1016)) 0) (IE.lit 127)) (IE.mul (IE.lit 7) (IE.var .i64 1016))))) (IE.add (IE.var .i64 1011) (IE.add (IE.var .i64 1016) (IE.lit 1))))) :: pcliR5_12) (Sx.Sub.mk [(.i64, (1011, (IE.add (IE.add (IE.var .i64 1011) (IE.add (IE.var .i64 1016) (IE.lit 1))) (IE.bin BinOp.or .u64 (IE.var .u64 1017) (IE.bin BinOp.shl .u64 (IE.bin BinOp.and .u8 (IE.cel .u8 (LE.rom 0) (IE.add (IE.var .i64 1013) (IE.var .i64 1016)) 0) (IE.lit 127)) (IE.mul (IE.lit 7) (IE.var .i64 1016))))))), (.i64, (1010, (IE.add (IE.var .i64 1010) (IE.lit 1)))), (.u64, (1009, (IE.sub (IE.var .u64 1009) (IE.lit 1))))] [] [(1012, (LE.cat (LE.var 1012) (LE.one (AL.lst (LE.take (LE.drop (LE.rom 0) (IE.add (IE.var .i64 1011) (IE.add (IE.var .i64 1016) (IE.lit 1)))) (IE.bin BinOp.or .u64 (IE.var .u64 1017) (IE.bin BinOp.shl .u64 (IE.bin BinOp.and .u8 (IE.cel .u8 (LE.rom 0) (IE.add (IE.var .i64 1013) (IE.var .i64 1016)) 0) (IE.lit 127)) (IE.mul (IE.lit 7) (IE.var .i64 1016))))) AL.nil))))] [] [] []))
def wliR5_13 : VW := (VW.done ((BE.not (BE.le (IE.bin BinOp.or .u64 (IE.var .u64 1017) (IE.bin BinOp.shl .u64 (IE.bin BinOp.and .u8 (IE.cel .u8 (LE.rom 0) (IE.add (IE.var .i64 1013) (IE.var .i64 1016)) 0) (IE.lit 127)) (IE.mul (IE.lit 7) (IE.var .i64 1016)))) (IE.sub (IE.len (LE.rom 0)) (IE.add (IE.var .i64 1011) (IE.add (IE.var .i64 1016) (IE.lit 1)))))) :: pcliR5_10) (some [(G.b (BE.lit true) (BE.lit false))]))
def vwliR5 : List VW := [wliR5_0, wliR5_1, wliR5_2, wliR5_3, wliR5_4, wliR5_5, wliR5_6, wliR5_7, wliR5_8, wliR5_9, wliR5_10, wliR5_11, wliR5_12, wliR5_13]
def vwliR : Nat → List VW
  | 0 => vwliR0
  | 1 => vwliR1
  | 2 => vwliR2
  | 3 => vwliR3
  | 4 => vwliR4
  | 5 => vwliR5
  | _ => []
end
def invliR : Nat → Lt → Prop
  | 1, l => Nu (l.z.rl 0) 0 0 (l.i .i64 1001) (l.i .u64 1000) ∧ (l.z.rl 0).length ≤ 2000
  | 2, l => Tx (l.z.rl 0) 0 (l.i .i64 1003) ∧ (l.i .u64 1002) = rdV (l.z.rl 0) ∧ (rdV (l.z.rl 0) ≤ (l.i .i64 1) ∨ rdV (l.z.rl 0) ≤ 0) ∧ (l.z.rl 0).length ≤ 2000
  | 3, l => 1 ≤ (l.i .i64 1010) ∧ Tx (l.z.rl 0) (l.i .i64 1010) (l.i .i64 1011) ∧ (l.l 1012) = txsT (l.z.rl 0) (l.i .i64 1010).toNat ∧ (l.i .u64 1009) + (l.i .i64 1010) = rdV (l.z.rl 0) ∧ (rdV (l.z.rl 0) ≤ (l.i .i64 1) ∨ rdV (l.z.rl 0) ≤ 0) ∧ (l.z.rl 0).length ≤ 2000
  | 4, l => Nu (l.z.rl 0) (l.i .i64 1003) (l.i .i64 1004) (l.i .i64 1007) (l.i .u64 1008) ∧ Tx (l.z.rl 0) 0 (l.i .i64 1003) ∧ (l.i .u64 1002) = rdV (l.z.rl 0) ∧ 1 ≤ (l.i .u64 1002) ∧ (rdV (l.z.rl 0) ≤ (l.i .i64 1) ∨ rdV (l.z.rl 0) ≤ 0) ∧ (l.z.rl 0).length ≤ 2000
  | 5, l => 1 ≤ (l.i .i64 1010) ∧ Nu (l.z.rl 0) (l.i .i64 1011) (l.i .i64 1013) (l.i .i64 1016) (l.i .u64 1017) ∧ Tx (l.z.rl 0) (l.i .i64 1010) (l.i .i64 1011) ∧ (l.l 1012) = txsT (l.z.rl 0) (l.i .i64 1010).toNat ∧ (l.i .u64 1009) + (l.i .i64 1010) = rdV (l.z.rl 0) ∧ 1 ≤ (l.i .u64 1009) ∧ (rdV (l.z.rl 0) ≤ (l.i .i64 1) ∨ rdV (l.z.rl 0) ≤ 0) ∧ (l.z.rl 0).length ≤ 2000
  | _, _ => True
def msliR : Nat → Lt → Nat
  | 0, l => 12 * (l.z.rl 0).length + 60
  | 1, l => 12 * (l.z.rl 0).length + 40 - (l.i .i64 1001).toNat
  | 2, l => 12 * ((l.z.rl 0).length + 1 - (l.i .i64 1003).toNat)
  | 3, l => 12 * ((l.z.rl 0).length + 1 - (l.i .i64 1011).toNat)
  | 4, l => 12 * ((l.z.rl 0).length + 1 - (l.i .i64 1003).toNat) - 1 - (l.i .i64 1007).toNat
  | 5, l => 12 * ((l.z.rl 0).length + 1 - (l.i .i64 1011).toNat) - 1 - (l.i .i64 1016).toNat
  | _, _ => 0
theorem vcliR0_0 : VC TTliR invliR msliR 0 (startF 33 cListR.pat (.lit true :: cListR.pre)) wliR0_0 := by
  intro ρ kn hi hp
  have hF : ρ.z.F = oct.Φ := kn.F
  simp only [h_nil, h_cons, d_le, d_eq, d_not, d_var, d_lit, d_cel, d_leq, d_fn, d_and, d_iff, IE.den, LE.den, AL.den, lenV, true_and, and_true, hF, pi2, pi3, pi4, pi5, pi6, pi7, pl1, pi8, pi9, pl3, pi10, pi11, pb1, pl2] at hp
  obtain ⟨p1, p2, p3⟩ := hp
  refine (show (Nu (ρ.z.rl 0) 0 0 (0 : Int) (0 : Int) ∧ (ρ.z.rl 0).length ≤ 2000) ∧ ((12 * (ρ.z.rl 0).length + 40 - (0 : Int).toNat : Nat) < 12 * (ρ.z.rl 0).length + 60) from ?_)
  exact ⟨⟨nu_start rfl, by omega⟩, by omega⟩
def ivliR1 (ρ : Rho) : Prop := Nu (ρ.z.rl 0) 0 0 (ρ.i .i64 1001) (ρ.i .u64 1000) ∧ (ρ.z.rl 0).length ≤ 2000
theorem vcgliR1_0 : VC TTliR invliR msliR 1 tliR1 wliR1_0 ∧ VC TTliR invliR msliR 1 tliR1 wliR1_3 ∧ VC TTliR invliR msliR 1 tliR1 wliR1_5 ∧ VC TTliR invliR msliR 1 tliR1 wliR1_6 ∧ VC TTliR invliR msliR 1 tliR1 wliR1_8 ∧ VC TTliR invliR msliR 1 tliR1 wliR1_10 ∧ VC TTliR invliR msliR 1 tliR1 wliR1_11 ∧ VC TTliR invliR msliR 1 tliR1 wliR1_14 ∧ VC TTliR invliR msliR 1 tliR1 wliR1_16 := by
  refine ⟨?_, ?_, ?_, ?_, ?_, ?_, ?_, ?_, ?_⟩
  all_goals
    intro ρ kn hi hp
    have hi : ivliR1 ρ := hi
    unfold ivliR1 at hi
    have hF : ρ.z.F = oct.Φ := kn.F
    simp only [h_nil, h_cons, d_le, d_eq, d_not, d_var, d_lit, d_cel, d_leq, d_fn, d_and, d_iff, IE.den, LE.den, AL.den, lenV, true_and, and_true, pcliR1_0, pcliR1_6, pcliR1_4, pcliR1_2, pcliR1_1, pcliR1_7, pcliR1_3, pcliR1_12, pcliR1_10, pcliR1_8, pcliR1_5, pcliR1_13, pcliR1_14, pcliR1_11, pcliR1_9, pcliR1_15, hF, pi2, pi3, pi4, pi5, pi6, pi7, pl1, pi8, pi9, pl3, pi10, pi11, pb1, pl2] at hp
    have p1 := And.left hp
    replace hp := And.right hp
    repeat (have _ := And.left hp; replace hp := And.right hp)
    exfalso
    have hB := lsB_t.1 (by assumption : lsB (ρ.z.rl 0) (ρ.i .i64 1) = true)
    obtain ⟨u, h2⟩ := hi
    first
      | (have k := nu_end u (by omega) (by omega); simp only [d0] at k; have q := ls_no (L := (ρ.z.rl 0)) (m := (ρ.i .i64 1)) (by omega); omega)
      | (have k := nu_bad u (b := clampK .u8 (intV (celV (ρ.z.rl 0) (ρ.i .i64 1001) 0))) (by omega) (by omega) (by rw [Int.zero_add]) (by omega); simp only [d0] at k; have q := ls_no (L := (ρ.z.rl 0)) (m := (ρ.i .i64 1)) (by omega); omega)
      | (have k := nu_read u (b := clampK .u8 (intV (celV (ρ.z.rl 0) (ρ.i .i64 1001) 0))) (by omega) (by omega) (by rw [Int.zero_add]) (by omega) (by omega) (by omega); simp only [d0] at k; have q := ls_long (L := (ρ.z.rl 0)) (m := (ρ.i .i64 1)) k.1 (by rw [k.2.2]; omega); omega)
theorem vcliR1_1 : VC TTliR invliR msliR 1 tliR1 wliR1_1 := by
  intro ρ kn hi hp
  have hi : ivliR1 ρ := hi
  unfold ivliR1 at hi
  have hF : ρ.z.F = oct.Φ := kn.F
  simp only [h_nil, h_cons, d_le, d_eq, d_not, d_var, d_lit, d_cel, d_leq, d_fn, d_and, d_iff, IE.den, LE.den, AL.den, lenV, true_and, and_true, pcliR1_2, pcliR1_1, pcliR1_0, hF, pi2, pi3, pi4, pi5, pi6, pi7, pl1, pi8, pi9, pl3, pi10, pi11, pb1, pl2] at hp
  obtain ⟨p1, p2, p3, p4, p5, p6, p7, p8, p9⟩ := hp
  refine (show (Nu (ρ.z.rl 0) 0 0 ((ρ.i .i64 1001) + (1 : Int)) (binI BinOp.or .u64 (ρ.i .u64 1000) (binI BinOp.shl .u64 (binI BinOp.and .u8 (clampK .u8 (intV (celV (ρ.z.rl 0) (ρ.i .i64 1001) 0))) (127 : Int)) ((7 : Int) * (ρ.i .i64 1001)))) ∧ (ρ.z.rl 0).length ≤ 2000) ∧ ((12 * (ρ.z.rl 0).length + 40 - ((ρ.i .i64 1001) + (1 : Int)).toNat : Nat) < 12 * (ρ.z.rl 0).length + 40 - (ρ.i .i64 1001).toNat) from ?_)
  obtain ⟨u, h2⟩ := hi
  exact ⟨⟨nu_go u (b := clampK .u8 (intV (celV (ρ.z.rl 0) (ρ.i .i64 1001) 0))) (by omega) (by omega) (by rw [Int.zero_add]) (by omega) (by omega) (by omega), h2⟩, by omega⟩
theorem vcliR1_2 : VC TTliR invliR msliR 1 tliR1 wliR1_2 := by
  intro ρ kn hi hp
  have hi : ivliR1 ρ := hi
  unfold ivliR1 at hi
  have hF : ρ.z.F = oct.Φ := kn.F
  simp only [h_nil, h_cons, d_le, d_eq, d_not, d_var, d_lit, d_cel, d_leq, d_fn, d_and, d_iff, IE.den, LE.den, AL.den, lenV, true_and, and_true, pcliR1_6, pcliR1_4, pcliR1_2, pcliR1_1, pcliR1_0, hF, pi2, pi3, pi4, pi5, pi6, pi7, pl1, pi8, pi9, pl3, pi10, pi11, pb1, pl2] at hp
  obtain ⟨p1, p2, p3, p4, p5, p6, p7, p8, p9, p10, p11⟩ := hp
  refine (show (Tx (ρ.z.rl 0) 0 ((0 : Int) + ((ρ.i .i64 1001) + (1 : Int))) ∧ (binI BinOp.or .u64 (ρ.i .u64 1000) (binI BinOp.shl .u64 (binI BinOp.and .u8 (clampK .u8 (intV (celV (ρ.z.rl 0) (ρ.i .i64 1001) 0))) (127 : Int)) ((7 : Int) * (ρ.i .i64 1001)))) = rdV (ρ.z.rl 0) ∧ (rdV (ρ.z.rl 0) ≤ (ρ.i .i64 1) ∨ rdV (ρ.z.rl 0) ≤ 0) ∧ (ρ.z.rl 0).length ≤ 2000) ∧ ((12 * ((ρ.z.rl 0).length + 1 - ((0 : Int) + ((ρ.i .i64 1001) + (1 : Int))).toNat) : Nat) < 12 * (ρ.z.rl 0).length + 40 - (ρ.i .i64 1001).toNat) from ?_)
  obtain ⟨u, h2⟩ := hi
  obtain ⟨k1, k2, k3⟩ := nu_read u (b := clampK .u8 (intV (celV (ρ.z.rl 0) (ρ.i .i64 1001) 0))) (by omega) (by omega) (by rw [Int.zero_add]) (by omega) (by omega) (by omega)
  simp only [d0] at k1 k2 k3
  exact ⟨⟨tx0 k1 (by omega), k3.symm, by omega, h2⟩, by omega⟩
theorem vcliR1_4 : VC TTliR invliR msliR 1 tliR1 wliR1_4 := by
  intro ρ kn hi hp
  have hi : ivliR1 ρ := hi
  unfold ivliR1 at hi
  have hF : ρ.z.F = oct.Φ := kn.F
  simp only [h_nil, h_cons, d_le, d_eq, d_not, d_var, d_lit, d_cel, d_leq, d_fn, d_and, d_iff, IE.den, LE.den, AL.den, lenV, true_and, and_true, pcliR1_7, pcliR1_4, pcliR1_2, pcliR1_1, pcliR1_0, hF, pi2, pi3, pi4, pi5, pi6, pi7, pl1, pi8, pi9, pl3, pi10, pi11, pb1, pl2] at hp
  obtain ⟨p1, p2, p3, p4, p5, p6, p7, p8, p9, p10, p11⟩ := hp
  refine (show (Tx (ρ.z.rl 0) 0 ((0 : Int) + ((ρ.i .i64 1001) + (1 : Int))) ∧ (binI BinOp.or .u64 (ρ.i .u64 1000) (binI BinOp.shl .u64 (binI BinOp.and .u8 (clampK .u8 (intV (celV (ρ.z.rl 0) (ρ.i .i64 1001) 0))) (127 : Int)) ((7 : Int) * (ρ.i .i64 1001)))) = rdV (ρ.z.rl 0) ∧ (rdV (ρ.z.rl 0) ≤ (ρ.i .i64 1) ∨ rdV (ρ.z.rl 0) ≤ 0) ∧ (ρ.z.rl 0).length ≤ 2000) ∧ ((12 * ((ρ.z.rl 0).length + 1 - ((0 : Int) + ((ρ.i .i64 1001) + (1 : Int))).toNat) : Nat) < 12 * (ρ.z.rl 0).length + 40 - (ρ.i .i64 1001).toNat) from ?_)
  obtain ⟨u, h2⟩ := hi
  obtain ⟨k1, k2, k3⟩ := nu_read u (b := clampK .u8 (intV (celV (ρ.z.rl 0) (ρ.i .i64 1001) 0))) (by omega) (by omega) (by rw [Int.zero_add]) (by omega) (by omega) (by omega)
  simp only [d0] at k1 k2 k3
  exact ⟨⟨tx0 k1 (by omega), k3.symm, by omega, h2⟩, by omega⟩
theorem vcliR1_7 : VC TTliR invliR msliR 1 tliR1 wliR1_7 := by
  intro ρ kn hi hp
  have hi : ivliR1 ρ := hi
  unfold ivliR1 at hi
  have hF : ρ.z.F = oct.Φ := kn.F
  simp only [h_nil, h_cons, d_le, d_eq, d_not, d_var, d_lit, d_cel, d_leq, d_fn, d_and, d_iff, IE.den, LE.den, AL.den, lenV, true_and, and_true, pcliR1_12, pcliR1_10, pcliR1_8, pcliR1_5, pcliR1_3, pcliR1_1, pcliR1_0, hF, pi2, pi3, pi4, pi5, pi6, pi7, pl1, pi8, pi9, pl3, pi10, pi11, pb1, pl2] at hp
  obtain ⟨p1, p2, p3, p4, p5, p6, p7, p8, p9, p10, p11, p12, p13⟩ := hp
  refine (show (Tx (ρ.z.rl 0) 0 ((0 : Int) + ((ρ.i .i64 1001) + (1 : Int))) ∧ (binI BinOp.or .u64 (ρ.i .u64 1000) (binI BinOp.shl .u64 (binI BinOp.and .u8 (clampK .u8 (intV (celV (ρ.z.rl 0) (ρ.i .i64 1001) 0))) (127 : Int)) ((7 : Int) * (ρ.i .i64 1001)))) = rdV (ρ.z.rl 0) ∧ (rdV (ρ.z.rl 0) ≤ (ρ.i .i64 1) ∨ rdV (ρ.z.rl 0) ≤ 0) ∧ (ρ.z.rl 0).length ≤ 2000) ∧ ((12 * ((ρ.z.rl 0).length + 1 - ((0 : Int) + ((ρ.i .i64 1001) + (1 : Int))).toNat) : Nat) < 12 * (ρ.z.rl 0).length + 40 - (ρ.i .i64 1001).toNat) from ?_)
  obtain ⟨u, h2⟩ := hi
  obtain ⟨k1, k2, k3⟩ := nu_read u (b := clampK .u8 (intV (celV (ρ.z.rl 0) (ρ.i .i64 1001) 0))) (by omega) (by omega) (by rw [Int.zero_add]) (by omega) (by omega) (by omega)
  simp only [d0] at k1 k2 k3
  exact ⟨⟨tx0 k1 (by omega), k3.symm, by omega, h2⟩, by omega⟩
theorem vcliR1_9 : VC TTliR invliR msliR 1 tliR1 wliR1_9 := by
  intro ρ kn hi hp
  have hi : ivliR1 ρ := hi
  unfold ivliR1 at hi
  have hF : ρ.z.F = oct.Φ := kn.F
  simp only [h_nil, h_cons, d_le, d_eq, d_not, d_var, d_lit, d_cel, d_leq, d_fn, d_and, d_iff, IE.den, LE.den, AL.den, lenV, true_and, and_true, pcliR1_13, pcliR1_10, pcliR1_8, pcliR1_5, pcliR1_3, pcliR1_1, pcliR1_0, hF, pi2, pi3, pi4, pi5, pi6, pi7, pl1, pi8, pi9, pl3, pi10, pi11, pb1, pl2] at hp
  obtain ⟨p1, p2, p3, p4, p5, p6, p7, p8, p9, p10, p11, p12, p13⟩ := hp
  refine (show (Tx (ρ.z.rl 0) 0 ((0 : Int) + ((ρ.i .i64 1001) + (1 : Int))) ∧ (binI BinOp.or .u64 (ρ.i .u64 1000) (binI BinOp.shl .u64 (binI BinOp.and .u8 (clampK .u8 (intV (celV (ρ.z.rl 0) (ρ.i .i64 1001) 0))) (127 : Int)) ((7 : Int) * (ρ.i .i64 1001)))) = rdV (ρ.z.rl 0) ∧ (rdV (ρ.z.rl 0) ≤ (ρ.i .i64 1) ∨ rdV (ρ.z.rl 0) ≤ 0) ∧ (ρ.z.rl 0).length ≤ 2000) ∧ ((12 * ((ρ.z.rl 0).length + 1 - ((0 : Int) + ((ρ.i .i64 1001) + (1 : Int))).toNat) : Nat) < 12 * (ρ.z.rl 0).length + 40 - (ρ.i .i64 1001).toNat) from ?_)
  obtain ⟨u, h2⟩ := hi
  obtain ⟨k1, k2, k3⟩ := nu_read u (b := clampK .u8 (intV (celV (ρ.z.rl 0) (ρ.i .i64 1001) 0))) (by omega) (by omega) (by rw [Int.zero_add]) (by omega) (by omega) (by omega)
  simp only [d0] at k1 k2 k3
  exact ⟨⟨tx0 k1 (by omega), k3.symm, by omega, h2⟩, by omega⟩
theorem vcliR1_12 : VC TTliR invliR msliR 1 tliR1 wliR1_12 := by
  intro ρ kn hi hp
  have hi : ivliR1 ρ := hi
  unfold ivliR1 at hi
  have hF : ρ.z.F = oct.Φ := kn.F
  simp only [h_nil, h_cons, d_le, d_eq, d_not, d_var, d_lit, d_cel, d_leq, d_fn, d_and, d_iff, IE.den, LE.den, AL.den, lenV, true_and, and_true, pcliR1_9, pcliR1_5, pcliR1_3, pcliR1_1, pcliR1_0, hF, pi2, pi3, pi4, pi5, pi6, pi7, pl1, pi8, pi9, pl3, pi10, pi11, pb1, pl2] at hp
  obtain ⟨p1, p2, p3, p4, p5, p6, p7, p8, p9, p10, p11⟩ := hp
  refine (show (Nu (ρ.z.rl 0) 0 0 ((ρ.i .i64 1001) + (1 : Int)) (binI BinOp.or .u64 (ρ.i .u64 1000) (binI BinOp.shl .u64 (binI BinOp.and .u8 (clampK .u8 (intV (celV (ρ.z.rl 0) (ρ.i .i64 1001) 0))) (127 : Int)) ((7 : Int) * (ρ.i .i64 1001)))) ∧ (ρ.z.rl 0).length ≤ 2000) ∧ ((12 * (ρ.z.rl 0).length + 40 - ((ρ.i .i64 1001) + (1 : Int)).toNat : Nat) < 12 * (ρ.z.rl 0).length + 40 - (ρ.i .i64 1001).toNat) from ?_)
  obtain ⟨u, h2⟩ := hi
  exact ⟨⟨nu_go u (b := clampK .u8 (intV (celV (ρ.z.rl 0) (ρ.i .i64 1001) 0))) (by omega) (by omega) (by rw [Int.zero_add]) (by omega) (by omega) (by omega), h2⟩, by omega⟩
theorem vcliR1_13 : VC TTliR invliR msliR 1 tliR1 wliR1_13 := by
  intro ρ kn hi hp
  have hi : ivliR1 ρ := hi
  unfold ivliR1 at hi
  have hF : ρ.z.F = oct.Φ := kn.F
  simp only [h_nil, h_cons, d_le, d_eq, d_not, d_var, d_lit, d_cel, d_leq, d_fn, d_and, d_iff, IE.den, LE.den, AL.den, lenV, true_and, and_true, pcliR1_14, pcliR1_11, pcliR1_9, pcliR1_5, pcliR1_3, pcliR1_1, pcliR1_0, hF, pi2, pi3, pi4, pi5, pi6, pi7, pl1, pi8, pi9, pl3, pi10, pi11, pb1, pl2] at hp
  obtain ⟨p1, p2, p3, p4, p5, p6, p7, p8, p9, p10, p11, p12, p13⟩ := hp
  refine (show (Tx (ρ.z.rl 0) 0 ((0 : Int) + ((ρ.i .i64 1001) + (1 : Int))) ∧ (binI BinOp.or .u64 (ρ.i .u64 1000) (binI BinOp.shl .u64 (binI BinOp.and .u8 (clampK .u8 (intV (celV (ρ.z.rl 0) (ρ.i .i64 1001) 0))) (127 : Int)) ((7 : Int) * (ρ.i .i64 1001)))) = rdV (ρ.z.rl 0) ∧ (rdV (ρ.z.rl 0) ≤ (ρ.i .i64 1) ∨ rdV (ρ.z.rl 0) ≤ 0) ∧ (ρ.z.rl 0).length ≤ 2000) ∧ ((12 * ((ρ.z.rl 0).length + 1 - ((0 : Int) + ((ρ.i .i64 1001) + (1 : Int))).toNat) : Nat) < 12 * (ρ.z.rl 0).length + 40 - (ρ.i .i64 1001).toNat) from ?_)
  obtain ⟨u, h2⟩ := hi
  obtain ⟨k1, k2, k3⟩ := nu_read u (b := clampK .u8 (intV (celV (ρ.z.rl 0) (ρ.i .i64 1001) 0))) (by omega) (by omega) (by rw [Int.zero_add]) (by omega) (by omega) (by omega)
  simp only [d0] at k1 k2 k3
  exact ⟨⟨tx0 k1 (by omega), k3.symm, by omega, h2⟩, by omega⟩
theorem vcliR1_15 : VC TTliR invliR msliR 1 tliR1 wliR1_15 := by
  intro ρ kn hi hp
  have hi : ivliR1 ρ := hi
  unfold ivliR1 at hi
  have hF : ρ.z.F = oct.Φ := kn.F
  simp only [h_nil, h_cons, d_le, d_eq, d_not, d_var, d_lit, d_cel, d_leq, d_fn, d_and, d_iff, IE.den, LE.den, AL.den, lenV, true_and, and_true, pcliR1_15, pcliR1_11, pcliR1_9, pcliR1_5, pcliR1_3, pcliR1_1, pcliR1_0, hF, pi2, pi3, pi4, pi5, pi6, pi7, pl1, pi8, pi9, pl3, pi10, pi11, pb1, pl2] at hp
  obtain ⟨p1, p2, p3, p4, p5, p6, p7, p8, p9, p10, p11, p12, p13⟩ := hp
  refine (show (Tx (ρ.z.rl 0) 0 ((0 : Int) + ((ρ.i .i64 1001) + (1 : Int))) ∧ (binI BinOp.or .u64 (ρ.i .u64 1000) (binI BinOp.shl .u64 (binI BinOp.and .u8 (clampK .u8 (intV (celV (ρ.z.rl 0) (ρ.i .i64 1001) 0))) (127 : Int)) ((7 : Int) * (ρ.i .i64 1001)))) = rdV (ρ.z.rl 0) ∧ (rdV (ρ.z.rl 0) ≤ (ρ.i .i64 1) ∨ rdV (ρ.z.rl 0) ≤ 0) ∧ (ρ.z.rl 0).length ≤ 2000) ∧ ((12 * ((ρ.z.rl 0).length + 1 - ((0 : Int) + ((ρ.i .i64 1001) + (1 : Int))).toNat) : Nat) < 12 * (ρ.z.rl 0).length + 40 - (ρ.i .i64 1001).toNat) from ?_)
  obtain ⟨u, h2⟩ := hi
  obtain ⟨k1, k2, k3⟩ := nu_read u (b := clampK .u8 (intV (celV (ρ.z.rl 0) (ρ.i .i64 1001) 0))) (by omega) (by omega) (by rw [Int.zero_add]) (by omega) (by omega) (by omega)
  simp only [d0] at k1 k2 k3
  exact ⟨⟨tx0 k1 (by omega), k3.symm, by omega, h2⟩, by omega⟩
def ivliR2 (ρ : Rho) : Prop := Tx (ρ.z.rl 0) 0 (ρ.i .i64 1003) ∧ (ρ.i .u64 1002) = rdV (ρ.z.rl 0) ∧ (rdV (ρ.z.rl 0) ≤ (ρ.i .i64 1) ∨ rdV (ρ.z.rl 0) ≤ 0) ∧ (ρ.z.rl 0).length ≤ 2000
theorem vcliR2_0 : VC TTliR invliR msliR 2 tliR2 wliR2_0 := by
  intro ρ kn hi hp
  have hi : ivliR2 ρ := hi
  unfold ivliR2 at hi
  have hF : ρ.z.F = oct.Φ := kn.F
  simp only [h_nil, h_cons, d_le, d_eq, d_not, d_var, d_lit, d_cel, d_leq, d_fn, d_and, d_iff, IE.den, LE.den, AL.den, lenV, true_and, and_true, pcliR2_0, hF, pi2, pi3, pi4, pi5, pi6, pi7, pl1, pi8, pi9, pl3, pi10, pi11, pb1, pl2] at hp
  obtain ⟨p1, p2, p3, p4, p5, p6⟩ := hp
  exfalso
  have hB := lsB_t.1 (by assumption : lsB (ρ.z.rl 0) (ρ.i .i64 1) = true)
  obtain ⟨t, hn, h1, h2⟩ := hi
  have kr := tx_rng t
  omega
theorem vcliR2_1 : VC TTliR invliR msliR 2 tliR2 wliR2_1 := by
  intro ρ kn hi hp
  have hi : ivliR2 ρ := hi
  unfold ivliR2 at hi
  have hF : ρ.z.F = oct.Φ := kn.F
  simp only [h_nil, h_cons, d_le, d_eq, d_not, d_var, d_lit, d_cel, d_leq, d_fn, d_and, d_iff, IE.den, LE.den, AL.den, lenV, true_and, and_true, pcliR2_1, pcliR2_0, hF, pi2, pi3, pi4, pi5, pi6, pi7, pl1, pi8, pi9, pl3, pi10, pi11, pb1, pl2] at hp
  obtain ⟨p1, p2, p3, p4, p5, p6, p7⟩ := hp
  refine (show (Nu (ρ.z.rl 0) (ρ.i .i64 1003) (0 : Int) (0 : Int) (0 : Int) ∧ Tx (ρ.z.rl 0) 0 (ρ.i .i64 1003) ∧ (ρ.i .u64 1002) = rdV (ρ.z.rl 0) ∧ 1 ≤ (ρ.i .u64 1002) ∧ (rdV (ρ.z.rl 0) ≤ (ρ.i .i64 1) ∨ rdV (ρ.z.rl 0) ≤ 0) ∧ (ρ.z.rl 0).length ≤ 2000) ∧ ((12 * ((ρ.z.rl 0).length + 1 - (ρ.i .i64 1003).toNat) - 1 - (0 : Int).toNat : Nat) < 12 * ((ρ.z.rl 0).length + 1 - (ρ.i .i64 1003).toNat)) from ?_)
  obtain ⟨t, hn, h1, h2⟩ := hi
  have kr := tx_rng t
  exact ⟨⟨nu0 kr (by omega), t, hn, by omega, h1, h2⟩, by omega⟩
theorem vcliR2_2 : VC TTliR invliR msliR 2 tliR2 wliR2_2 := by
  intro ρ kn hi hp
  have hi : ivliR2 ρ := hi
  unfold ivliR2 at hi
  have hF : ρ.z.F = oct.Φ := kn.F
  simp only [h_nil, h_cons, d_le, d_eq, d_not, d_var, d_lit, d_cel, d_leq, d_fn, d_and, d_iff, IE.den, LE.den, AL.den, lenV, true_and, and_true, pcliR2_1, pcliR2_0, hF, pi2, pi3, pi4, pi5, pi6, pi7, pl1, pi8, pi9, pl3, pi10, pi11, pb1, pl2] at hp
  obtain ⟨p1, p2, p3, p4, p5, p6, p7⟩ := hp
  refine (show (Nu (ρ.z.rl 0) (ρ.i .i64 1003) (ρ.i .i64 1003) (0 : Int) (0 : Int) ∧ Tx (ρ.z.rl 0) 0 (ρ.i .i64 1003) ∧ (ρ.i .u64 1002) = rdV (ρ.z.rl 0) ∧ 1 ≤ (ρ.i .u64 1002) ∧ (rdV (ρ.z.rl 0) ≤ (ρ.i .i64 1) ∨ rdV (ρ.z.rl 0) ≤ 0) ∧ (ρ.z.rl 0).length ≤ 2000) ∧ ((12 * ((ρ.z.rl 0).length + 1 - (ρ.i .i64 1003).toNat) - 1 - (0 : Int).toNat : Nat) < 12 * ((ρ.z.rl 0).length + 1 - (ρ.i .i64 1003).toNat)) from ?_)
  obtain ⟨t, hn, h1, h2⟩ := hi
  have kr := tx_rng t
  exact ⟨⟨nu0 kr (by omega), t, hn, by omega, h1, h2⟩, by omega⟩
def ivliR3 (ρ : Rho) : Prop := 1 ≤ (ρ.i .i64 1010) ∧ Tx (ρ.z.rl 0) (ρ.i .i64 1010) (ρ.i .i64 1011) ∧ (ρ.l 1012) = txsT (ρ.z.rl 0) (ρ.i .i64 1010).toNat ∧ (ρ.i .u64 1009) + (ρ.i .i64 1010) = rdV (ρ.z.rl 0) ∧ (rdV (ρ.z.rl 0) ≤ (ρ.i .i64 1) ∨ rdV (ρ.z.rl 0) ≤ 0) ∧ (ρ.z.rl 0).length ≤ 2000
theorem vcliR3_0 : VC TTliR invliR msliR 3 tliR3 wliR3_0 := by
  intro ρ kn hi hp
  have hi : ivliR3 ρ := hi
  unfold ivliR3 at hi
  have hr2 : Typed [CK.str] (ρ.l 1012) ∧ (ρ.i .i64 1010) = (((ρ.l 1012)).length : Int) := kn.rows 2 _ _ _ _ _ _ rfl
  have hF : ρ.z.F = oct.Φ := kn.F
  simp only [h_nil, h_cons, d_le, d_eq, d_not, d_var, d_lit, d_cel, d_leq, d_fn, d_and, d_iff, IE.den, LE.den, AL.den, lenV, true_and, and_true, pcliR3_0, hF, pi2, pi3, pi4, pi5, pi6, pi7, pl1, pi8, pi9, pl3, pi10, pi11, pb1, pl2] at hp
  obtain ⟨p1, p2, p3, p4, p5, p6, p7, p8⟩ := hp
  refine all_cons (show (((ρ.z.F.l 2 [.lst (ρ.z.rl 0), .int .i64 (ρ.i .i64 1)]).length : Nat) : Int) = (ρ.i .i64 1010) from ?_) (all_cons (show (clampK .i64 (ρ.z.F.i 11 [.lst (ρ.z.rl 0), .int .i64 (ρ.i .i64 1)])) = (ρ.i .i64 1011) from ?_) (all_cons (show (ρ.z.F.l 2 [.lst (ρ.z.rl 0), .int .i64 (ρ.i .i64 1)]) = (ρ.l 1012) from ?_) (all_cons (show (((ρ.z.F.l 2 [.lst (ρ.z.rl 0), .int .i64 (ρ.i .i64 1)]).length : Nat) : Int) = (ρ.i .i64 1010) from ?_) (all_nil))))
  all_goals try simp only [hF, pi2, pi3, pi4, pi5, pi6, pi7, pl1, pi8, pi9, pl3, pi10, pi11, pb1, pl2]
  all_goals
    have hl := kn.ok.rl 0
    try simp only [rdE_in, rdN_in, rdV_in, txtE_in, txtN_ind hl, lsE_in, lsN_in hl] at *
    have hB' : lsB (ρ.z.rl 0) (ρ.i .i64 1) = true := by assumption
    obtain ⟨hj, t, hw, hn, h1, h2⟩ := hi
    have kr := tx_rng t
    have hr : Typed _ (ρ.l 1012) ∧ ρ.i .i64 1010 = ((ρ.l 1012).length : Int) := kn.rows 2 _ _ _ _ _ _ rfl
    have hu := u64_rng kn.ok 1009
    have q := tx_end (m := (ρ.i .i64 1)) t (by omega) h1
    have e : ρ.i .i64 1010 = rdV (ρ.z.rl 0) := by omega
    first
      | (rw [lsL_t hB', hw, e]; done)
      | (rw [lsL_t hB', txs_len]; omega)
      | omega
theorem vcliR3_1 : VC TTliR invliR msliR 3 tliR3 wliR3_1 := by
  intro ρ kn hi hp
  have hi : ivliR3 ρ := hi
  unfold ivliR3 at hi
  have hF : ρ.z.F = oct.Φ := kn.F
  simp only [h_nil, h_cons, d_le, d_eq, d_not, d_var, d_lit, d_cel, d_leq, d_fn, d_and, d_iff, IE.den, LE.den, AL.den, lenV, true_and, and_true, pcliR3_1, pcliR3_0, hF, pi2, pi3, pi4, pi5, pi6, pi7, pl1, pi8, pi9, pl3, pi10, pi11, pb1, pl2] at hp
  obtain ⟨p1, p2, p3, p4, p5, p6, p7, p8, p9⟩ := hp
  refine (show (1 ≤ (ρ.i .i64 1010) ∧ Nu (ρ.z.rl 0) (ρ.i .i64 1011) (0 : Int) (0 : Int) (0 : Int) ∧ Tx (ρ.z.rl 0) (ρ.i .i64 1010) (ρ.i .i64 1011) ∧ (ρ.l 1012) = txsT (ρ.z.rl 0) (ρ.i .i64 1010).toNat ∧ (ρ.i .u64 1009) + (ρ.i .i64 1010) = rdV (ρ.z.rl 0) ∧ 1 ≤ (ρ.i .u64 1009) ∧ (rdV (ρ.z.rl 0) ≤ (ρ.i .i64 1) ∨ rdV (ρ.z.rl 0) ≤ 0) ∧ (ρ.z.rl 0).length ≤ 2000) ∧ ((12 * ((ρ.z.rl 0).length + 1 - (ρ.i .i64 1011).toNat) - 1 - (0 : Int).toNat : Nat) < 12 * ((ρ.z.rl 0).length + 1 - (ρ.i .i64 1011).toNat)) from ?_)
  obtain ⟨hj, t, hw, hn, h1, h2⟩ := hi
  have kr := tx_rng t
  exact ⟨⟨hj, nu0 kr (by omega), t, hw, hn, by omega, h1, h2⟩, by omega⟩
theorem vcliR3_2 : VC TTliR invliR msliR 3 tliR3 wliR3_2 := by
  intro ρ kn hi hp
  have hi : ivliR3 ρ := hi
  unfold ivliR3 at hi
  have hF : ρ.z.F = oct.Φ := kn.F
  simp only [h_nil, h_cons, d_le, d_eq, d_not, d_var, d_lit, d_cel, d_leq, d_fn, d_and, d_iff, IE.den, LE.den, AL.den, lenV, true_and, and_true, pcliR3_1, pcliR3_0, hF, pi2, pi3, pi4, pi5, pi6, pi7, pl1, pi8, pi9, pl3, pi10, pi11, pb1, pl2] at hp
  obtain ⟨p1, p2, p3, p4, p5, p6, p7, p8, p9⟩ := hp
  refine (show (1 ≤ (ρ.i .i64 1010) ∧ Nu (ρ.z.rl 0) (ρ.i .i64 1011) (ρ.i .i64 1011) (0 : Int) (0 : Int) ∧ Tx (ρ.z.rl 0) (ρ.i .i64 1010) (ρ.i .i64 1011) ∧ (ρ.l 1012) = txsT (ρ.z.rl 0) (ρ.i .i64 1010).toNat ∧ (ρ.i .u64 1009) + (ρ.i .i64 1010) = rdV (ρ.z.rl 0) ∧ 1 ≤ (ρ.i .u64 1009) ∧ (rdV (ρ.z.rl 0) ≤ (ρ.i .i64 1) ∨ rdV (ρ.z.rl 0) ≤ 0) ∧ (ρ.z.rl 0).length ≤ 2000) ∧ ((12 * ((ρ.z.rl 0).length + 1 - (ρ.i .i64 1011).toNat) - 1 - (0 : Int).toNat : Nat) < 12 * ((ρ.z.rl 0).length + 1 - (ρ.i .i64 1011).toNat)) from ?_)
  obtain ⟨hj, t, hw, hn, h1, h2⟩ := hi
  have kr := tx_rng t
  exact ⟨⟨hj, nu0 kr (by omega), t, hw, hn, by omega, h1, h2⟩, by omega⟩
def ivliR4 (ρ : Rho) : Prop := Nu (ρ.z.rl 0) (ρ.i .i64 1003) (ρ.i .i64 1004) (ρ.i .i64 1007) (ρ.i .u64 1008) ∧ Tx (ρ.z.rl 0) 0 (ρ.i .i64 1003) ∧ (ρ.i .u64 1002) = rdV (ρ.z.rl 0) ∧ 1 ≤ (ρ.i .u64 1002) ∧ (rdV (ρ.z.rl 0) ≤ (ρ.i .i64 1) ∨ rdV (ρ.z.rl 0) ≤ 0) ∧ (ρ.z.rl 0).length ≤ 2000
theorem vcgliR4_0 : VC TTliR invliR msliR 4 tliR4 wliR4_0 ∧ VC TTliR invliR msliR 4 tliR4 wliR4_4 ∧ VC TTliR invliR msliR 4 tliR4 wliR4_5 ∧ VC TTliR invliR msliR 4 tliR4 wliR4_8 ∧ VC TTliR invliR msliR 4 tliR4 wliR4_9 ∧ VC TTliR invliR msliR 4 tliR4 wliR4_13 := by
  refine ⟨?_, ?_, ?_, ?_, ?_, ?_⟩
  all_goals
    intro ρ kn hi hp
    have hi : ivliR4 ρ := hi
    unfold ivliR4 at hi
    have hF : ρ.z.F = oct.Φ := kn.F
    simp only [h_nil, h_cons, d_le, d_eq, d_not, d_var, d_lit, d_cel, d_leq, d_fn, d_and, d_iff, IE.den, LE.den, AL.den, lenV, true_and, and_true, pcliR4_0, pcliR4_4, pcliR4_2, pcliR4_1, pcliR4_3, pcliR4_9, pcliR4_7, pcliR4_5, pcliR4_10, pcliR4_8, hF, pi2, pi3, pi4, pi5, pi6, pi7, pl1, pi8, pi9, pl3, pi10, pi11, pb1, pl2] at hp
    have p1 := And.left hp
    replace hp := And.right hp
    repeat (have _ := And.left hp; replace hp := And.right hp)
    exfalso
    have hB := lsB_t.1 (by assumption : lsB (ρ.z.rl 0) (ρ.i .i64 1) = true)
    obtain ⟨u, t, hn, h0, h1, h2⟩ := hi
    have kr := tx_rng t
    first
      | (have k := nu_end u (by omega) (by omega); have k4 := text_no (R := (ρ.z.rl 0)) (a := (ρ.i .i64 1003)) (by omega); have q := tx_err (m := (ρ.i .i64 1)) t (by omega) h1 (e := txtE (List.drop ((ρ.i .i64 1003)).toNat (ρ.z.rl 0))) rfl (by omega); omega)
      | (have k := nu_bad u (b := clampK .u8 (intV (celV (ρ.z.rl 0) ((ρ.i .i64 1004) + (ρ.i .i64 1007)) 0))) (by omega) (by omega) rfl (by omega); have k4 := text_no (R := (ρ.z.rl 0)) (a := (ρ.i .i64 1003)) (by omega); have q := tx_err (m := (ρ.i .i64 1)) t (by omega) h1 (e := txtE (List.drop ((ρ.i .i64 1003)).toNat (ρ.z.rl 0))) rfl (by omega); omega)
      | (have k := nu_read u (b := clampK .u8 (intV (celV (ρ.z.rl 0) ((ρ.i .i64 1004) + (ρ.i .i64 1007)) 0))) (by omega) (by omega) rfl (by omega) (by omega) (by omega); have k4 := text_long kr k.1 k.2.1 k.2.2 (by omega); have q := tx_err (m := (ρ.i .i64 1)) t (by omega) h1 (e := txtE (List.drop ((ρ.i .i64 1003)).toNat (ρ.z.rl 0))) rfl (by omega); omega)
theorem vcliR4_1 : VC TTliR invliR msliR 4 tliR4 wliR4_1 := by
  intro ρ kn hi hp
  have hi : ivliR4 ρ := hi
  unfold ivliR4 at hi
  have hF : ρ.z.F = oct.Φ := kn.F
  simp only [h_nil, h_cons, d_le, d_eq, d_not, d_var, d_lit, d_cel, d_leq, d_fn, d_and, d_iff, IE.den, LE.den, AL.den, lenV, true_and, and_true, pcliR4_2, pcliR4_1, pcliR4_0, hF, pi2, pi3, pi4, pi5, pi6, pi7, pl1, pi8, pi9, pl3, pi10, pi11, pb1, pl2] at hp
  obtain ⟨p1, p2, p3, p4, p5, p6, p7, p8, p9, p10, p11, p12, p13, p14⟩ := hp
  refine (show (Nu (ρ.z.rl 0) (ρ.i .i64 1003) (ρ.i .i64 1004) ((ρ.i .i64 1007) + (1 : Int)) (binI BinOp.or .u64 (ρ.i .u64 1008) (binI BinOp.shl .u64 (binI BinOp.and .u8 (clampK .u8 (intV (celV (ρ.z.rl 0) ((ρ.i .i64 1004) + (ρ.i .i64 1007)) 0))) (127 : Int)) ((7 : Int) * (ρ.i .i64 1007)))) ∧ Tx (ρ.z.rl 0) 0 (ρ.i .i64 1003) ∧ (ρ.i .u64 1002) = rdV (ρ.z.rl 0) ∧ 1 ≤ (ρ.i .u64 1002) ∧ (rdV (ρ.z.rl 0) ≤ (ρ.i .i64 1) ∨ rdV (ρ.z.rl 0) ≤ 0) ∧ (ρ.z.rl 0).length ≤ 2000) ∧ ((12 * ((ρ.z.rl 0).length + 1 - (ρ.i .i64 1003).toNat) - 1 - ((ρ.i .i64 1007) + (1 : Int)).toNat : Nat) < 12 * ((ρ.z.rl 0).length + 1 - (ρ.i .i64 1003).toNat) - 1 - (ρ.i .i64 1007).toNat) from ?_)
  obtain ⟨u, t, hn, h0, h1, h2⟩ := hi
  have kr := tx_rng t
  exact ⟨⟨nu_go u (b := clampK .u8 (intV (celV (ρ.z.rl 0) ((ρ.i .i64 1004) + (ρ.i .i64 1007)) 0))) (by omega) (by omega) rfl (by omega) (by omega) (by omega), t, hn, h0, h1, h2⟩, by omega⟩
theorem vcliR4_2 : VC TTliR invliR msliR 4 tliR4 wliR4_2 := by
  intro ρ kn hi hp
  have hi : ivliR4 ρ := hi
  unfold ivliR4 at hi
  have hF : ρ.z.F = oct.Φ := kn.F
  simp only [h_nil, h_cons, d_le, d_eq, d_not, d_var, d_lit, d_cel, d_leq, d_fn, d_and, d_iff, IE.den, LE.den, AL.den, lenV, true_and, and_true, pcliR4_6, pcliR4_4, pcliR4_2, pcliR4_1, pcliR4_0, hF, pi2, pi3, pi4, pi5, pi6, pi7, pl1, pi8, pi9, pl3, pi10, pi11, pb1, pl2] at hp
  obtain ⟨p1, p2, p3, p4, p5, p6, p7, p8, p9, p10, p11, p12, p13, p14, p15, p16⟩ := hp
  refine (show (1 ≤ (1 : Int) ∧ Tx (ρ.z.rl 0) (1 : Int) (((ρ.i .i64 1003) + ((ρ.i .i64 1007) + (1 : Int))) + (binI BinOp.or .u64 (ρ.i .u64 1008) (binI BinOp.shl .u64 (binI BinOp.and .u8 (clampK .u8 (intV (celV (ρ.z.rl 0) ((ρ.i .i64 1004) + (ρ.i .i64 1007)) 0))) (127 : Int)) ((7 : Int) * (ρ.i .i64 1007))))) ∧ ([[Go.Value.string (byteL ((ρ.z.rl 0).take (binI BinOp.or .u64 (ρ.i .u64 1008) (binI BinOp.shl .u64 (binI BinOp.and .u8 (clampK .u8 (intV (celV (ρ.z.rl 0) ((ρ.i .i64 1004) + (ρ.i .i64 1007)) 0))) (127 : Int)) ((7 : Int) * (ρ.i .i64 1007)))).toNat))]] : LV) = txsT (ρ.z.rl 0) (1 : Int).toNat ∧ ((ρ.i .u64 1002) - (1 : Int)) + (1 : Int) = rdV (ρ.z.rl 0) ∧ (rdV (ρ.z.rl 0) ≤ (ρ.i .i64 1) ∨ rdV (ρ.z.rl 0) ≤ 0) ∧ (ρ.z.rl 0).length ≤ 2000) ∧ ((12 * ((ρ.z.rl 0).length + 1 - (((ρ.i .i64 1003) + ((ρ.i .i64 1007) + (1 : Int))) + (binI BinOp.or .u64 (ρ.i .u64 1008) (binI BinOp.shl .u64 (binI BinOp.and .u8 (clampK .u8 (intV (celV (ρ.z.rl 0) ((ρ.i .i64 1004) + (ρ.i .i64 1007)) 0))) (127 : Int)) ((7 : Int) * (ρ.i .i64 1007))))).toNat) : Nat) < 12 * ((ρ.z.rl 0).length + 1 - (ρ.i .i64 1003).toNat) - 1 - (ρ.i .i64 1007).toNat) from ?_)
  obtain ⟨u, t, hn, h0, h1, h2⟩ := hi
  have kr := tx_rng t
  obtain ⟨k1, k2, k3⟩ := nu_read u (b := clampK .u8 (intV (celV (ρ.z.rl 0) ((ρ.i .i64 1004) + (ρ.i .i64 1007)) 0))) (by omega) (by omega) rfl (by omega) (by omega) (by omega)
  have kv := rdV_rng (List.drop ((ρ.i .i64 1003)).toNat (ρ.z.rl 0))
  rw [k3] at kv
  have hT := kn.rom 0 _ _ rfl
  obtain ⟨e1, e2, e3⟩ := text_ok hT kr k1 k2 k3 (by omega) (by omega)
  have t2 := txs t e1
  have w2 := txs_s t (W := []) rfl
  rw [e2, ← Int.add_assoc] at t2
  rw [e3] at w2
  refine ⟨⟨by omega, t2, ?_, by omega, h1, h2⟩, by omega⟩
  first
    | exact w2
    | (rw [show ∀ x : Int, x = 0 → x.toNat = 0 from fun x h => by omega] at w2 ⊢
       · simp only [List.take_zero] at w2 ⊢
         exact w2
       all_goals omega)
theorem vcliR4_3 : VC TTliR invliR msliR 4 tliR4 wliR4_3 := by
  intro ρ kn hi hp
  have hi : ivliR4 ρ := hi
  unfold ivliR4 at hi
  have hF : ρ.z.F = oct.Φ := kn.F
  simp only [h_nil, h_cons, d_le, d_eq, d_not, d_var, d_lit, d_cel, d_leq, d_fn, d_and, d_iff, IE.den, LE.den, AL.den, lenV, true_and, and_true, pcliR4_6, pcliR4_4, pcliR4_2, pcliR4_1, pcliR4_0, hF, pi2, pi3, pi4, pi5, pi6, pi7, pl1, pi8, pi9, pl3, pi10, pi11, pb1, pl2] at hp
  obtain ⟨p1, p2, p3, p4, p5, p6, p7, p8, p9, p10, p11, p12, p13, p14, p15, p16⟩ := hp
  refine (show (1 ≤ (1 : Int) ∧ Tx (ρ.z.rl 0) (1 : Int) (((ρ.i .i64 1003) + ((ρ.i .i64 1007) + (1 : Int))) + (binI BinOp.or .u64 (ρ.i .u64 1008) (binI BinOp.shl .u64 (binI BinOp.and .u8 (clampK .u8 (intV (celV (ρ.z.rl 0) ((ρ.i .i64 1004) + (ρ.i .i64 1007)) 0))) (127 : Int)) ((7 : Int) * (ρ.i .i64 1007))))) ∧ ([[Go.Value.string (byteL (((ρ.z.rl 0).drop ((ρ.i .i64 1003) + ((ρ.i .i64 1007) + (1 : Int))).toNat).take (binI BinOp.or .u64 (ρ.i .u64 1008) (binI BinOp.shl .u64 (binI BinOp.and .u8 (clampK .u8 (intV (celV (ρ.z.rl 0) ((ρ.i .i64 1004) + (ρ.i .i64 1007)) 0))) (127 : Int)) ((7 : Int) * (ρ.i .i64 1007)))).toNat))]] : LV) = txsT (ρ.z.rl 0) (1 : Int).toNat ∧ ((ρ.i .u64 1002) - (1 : Int)) + (1 : Int) = rdV (ρ.z.rl 0) ∧ (rdV (ρ.z.rl 0) ≤ (ρ.i .i64 1) ∨ rdV (ρ.z.rl 0) ≤ 0) ∧ (ρ.z.rl 0).length ≤ 2000) ∧ ((12 * ((ρ.z.rl 0).length + 1 - (((ρ.i .i64 1003) + ((ρ.i .i64 1007) + (1 : Int))) + (binI BinOp.or .u64 (ρ.i .u64 1008) (binI BinOp.shl .u64 (binI BinOp.and .u8 (clampK .u8 (intV (celV (ρ.z.rl 0) ((ρ.i .i64 1004) + (ρ.i .i64 1007)) 0))) (127 : Int)) ((7 : Int) * (ρ.i .i64 1007))))).toNat) : Nat) < 12 * ((ρ.z.rl 0).length + 1 - (ρ.i .i64 1003).toNat) - 1 - (ρ.i .i64 1007).toNat) from ?_)
  obtain ⟨u, t, hn, h0, h1, h2⟩ := hi
  have kr := tx_rng t
  obtain ⟨k1, k2, k3⟩ := nu_read u (b := clampK .u8 (intV (celV (ρ.z.rl 0) ((ρ.i .i64 1004) + (ρ.i .i64 1007)) 0))) (by omega) (by omega) rfl (by omega) (by omega) (by omega)
  have kv := rdV_rng (List.drop ((ρ.i .i64 1003)).toNat (ρ.z.rl 0))
  rw [k3] at kv
  have hT := kn.rom 0 _ _ rfl
  obtain ⟨e1, e2, e3⟩ := text_ok hT kr k1 k2 k3 (by omega) (by omega)
  have t2 := txs t e1
  have w2 := txs_s t (W := []) rfl
  rw [e2, ← Int.add_assoc] at t2
  rw [e3] at w2
  refine ⟨⟨by omega, t2, ?_, by omega, h1, h2⟩, by omega⟩
  first
    | exact w2
    | (rw [show ∀ x : Int, x = 0 → x.toNat = 0 from fun x h => by omega] at w2 ⊢
       · simp only [List.take_zero] at w2 ⊢
         exact w2
       all_goals omega)
theorem vcliR4_6 : VC TTliR invliR msliR 4 tliR4 wliR4_6 := by
  intro ρ kn hi hp
  have hi : ivliR4 ρ := hi
  unfold ivliR4 at hi
  have hF : ρ.z.F = oct.Φ := kn.F
  simp only [h_nil, h_cons, d_le, d_eq, d_not, d_var, d_lit, d_cel, d_leq, d_fn, d_and, d_iff, IE.den, LE.den, AL.den, lenV, true_and, and_true, pcliR4_11, pcliR4_9, pcliR4_7, pcliR4_5, pcliR4_3, pcliR4_1, pcliR4_0, hF, pi2, pi3, pi4, pi5, pi6, pi7, pl1, pi8, pi9, pl3, pi10, pi11, pb1, pl2] at hp
  obtain ⟨p1, p2, p3, p4, p5, p6, p7, p8, p9, p10, p11, p12, p13, p14, p15, p16, p17, p18⟩ := hp
  refine (show (1 ≤ (1 : Int) ∧ Tx (ρ.z.rl 0) (1 : Int) (((ρ.i .i64 1003) + ((ρ.i .i64 1007) + (1 : Int))) + (binI BinOp.or .u64 (ρ.i .u64 1008) (binI BinOp.shl .u64 (binI BinOp.and .u8 (clampK .u8 (intV (celV (ρ.z.rl 0) ((ρ.i .i64 1004) + (ρ.i .i64 1007)) 0))) (127 : Int)) ((7 : Int) * (ρ.i .i64 1007))))) ∧ ([[Go.Value.string (byteL ((ρ.z.rl 0).take (binI BinOp.or .u64 (ρ.i .u64 1008) (binI BinOp.shl .u64 (binI BinOp.and .u8 (clampK .u8 (intV (celV (ρ.z.rl 0) ((ρ.i .i64 1004) + (ρ.i .i64 1007)) 0))) (127 : Int)) ((7 : Int) * (ρ.i .i64 1007)))).toNat))]] : LV) = txsT (ρ.z.rl 0) (1 : Int).toNat ∧ ((ρ.i .u64 1002) - (1 : Int)) + (1 : Int) = rdV (ρ.z.rl 0) ∧ (rdV (ρ.z.rl 0) ≤ (ρ.i .i64 1) ∨ rdV (ρ.z.rl 0) ≤ 0) ∧ (ρ.z.rl 0).length ≤ 2000) ∧ ((12 * ((ρ.z.rl 0).length + 1 - (((ρ.i .i64 1003) + ((ρ.i .i64 1007) + (1 : Int))) + (binI BinOp.or .u64 (ρ.i .u64 1008) (binI BinOp.shl .u64 (binI BinOp.and .u8 (clampK .u8 (intV (celV (ρ.z.rl 0) ((ρ.i .i64 1004) + (ρ.i .i64 1007)) 0))) (127 : Int)) ((7 : Int) * (ρ.i .i64 1007))))).toNat) : Nat) < 12 * ((ρ.z.rl 0).length + 1 - (ρ.i .i64 1003).toNat) - 1 - (ρ.i .i64 1007).toNat) from ?_)
  obtain ⟨u, t, hn, h0, h1, h2⟩ := hi
  have kr := tx_rng t
  obtain ⟨k1, k2, k3⟩ := nu_read u (b := clampK .u8 (intV (celV (ρ.z.rl 0) ((ρ.i .i64 1004) + (ρ.i .i64 1007)) 0))) (by omega) (by omega) rfl (by omega) (by omega) (by omega)
  have kv := rdV_rng (List.drop ((ρ.i .i64 1003)).toNat (ρ.z.rl 0))
  rw [k3] at kv
  have hT := kn.rom 0 _ _ rfl
  obtain ⟨e1, e2, e3⟩ := text_ok hT kr k1 k2 k3 (by omega) (by omega)
  have t2 := txs t e1
  have w2 := txs_s t (W := []) rfl
  rw [e2, ← Int.add_assoc] at t2
  rw [e3] at w2
  refine ⟨⟨by omega, t2, ?_, by omega, h1, h2⟩, by omega⟩
  first
    | exact w2
    | (rw [show ∀ x : Int, x = 0 → x.toNat = 0 from fun x h => by omega] at w2 ⊢
       · simp only [List.take_zero] at w2 ⊢
         exact w2
       all_goals omega)
theorem vcliR4_7 : VC TTliR invliR msliR 4 tliR4 wliR4_7 := by
  intro ρ kn hi hp
  have hi : ivliR4 ρ := hi
  unfold ivliR4 at hi
  have hF : ρ.z.F = oct.Φ := kn.F
  simp only [h_nil, h_cons, d_le, d_eq, d_not, d_var, d_lit, d_cel, d_leq, d_fn, d_and, d_iff, IE.den, LE.den, AL.den, lenV, true_and, and_true, pcliR4_11, pcliR4_9, pcliR4_7, pcliR4_5, pcliR4_3, pcliR4_1, pcliR4_0, hF, pi2, pi3, pi4, pi5, pi6, pi7, pl1, pi8, pi9, pl3, pi10, pi11, pb1, pl2] at hp
  obtain ⟨p1, p2, p3, p4, p5, p6, p7, p8, p9, p10, p11, p12, p13, p14, p15, p16, p17, p18⟩ := hp
  refine (show (1 ≤ (1 : Int) ∧ Tx (ρ.z.rl 0) (1 : Int) (((ρ.i .i64 1003) + ((ρ.i .i64 1007) + (1 : Int))) + (binI BinOp.or .u64 (ρ.i .u64 1008) (binI BinOp.shl .u64 (binI BinOp.and .u8 (clampK .u8 (intV (celV (ρ.z.rl 0) ((ρ.i .i64 1004) + (ρ.i .i64 1007)) 0))) (127 : Int)) ((7 : Int) * (ρ.i .i64 1007))))) ∧ ([[Go.Value.string (byteL (((ρ.z.rl 0).drop ((ρ.i .i64 1003) + ((ρ.i .i64 1007) + (1 : Int))).toNat).take (binI BinOp.or .u64 (ρ.i .u64 1008) (binI BinOp.shl .u64 (binI BinOp.and .u8 (clampK .u8 (intV (celV (ρ.z.rl 0) ((ρ.i .i64 1004) + (ρ.i .i64 1007)) 0))) (127 : Int)) ((7 : Int) * (ρ.i .i64 1007)))).toNat))]] : LV) = txsT (ρ.z.rl 0) (1 : Int).toNat ∧ ((ρ.i .u64 1002) - (1 : Int)) + (1 : Int) = rdV (ρ.z.rl 0) ∧ (rdV (ρ.z.rl 0) ≤ (ρ.i .i64 1) ∨ rdV (ρ.z.rl 0) ≤ 0) ∧ (ρ.z.rl 0).length ≤ 2000) ∧ ((12 * ((ρ.z.rl 0).length + 1 - (((ρ.i .i64 1003) + ((ρ.i .i64 1007) + (1 : Int))) + (binI BinOp.or .u64 (ρ.i .u64 1008) (binI BinOp.shl .u64 (binI BinOp.and .u8 (clampK .u8 (intV (celV (ρ.z.rl 0) ((ρ.i .i64 1004) + (ρ.i .i64 1007)) 0))) (127 : Int)) ((7 : Int) * (ρ.i .i64 1007))))).toNat) : Nat) < 12 * ((ρ.z.rl 0).length + 1 - (ρ.i .i64 1003).toNat) - 1 - (ρ.i .i64 1007).toNat) from ?_)
  obtain ⟨u, t, hn, h0, h1, h2⟩ := hi
  have kr := tx_rng t
  obtain ⟨k1, k2, k3⟩ := nu_read u (b := clampK .u8 (intV (celV (ρ.z.rl 0) ((ρ.i .i64 1004) + (ρ.i .i64 1007)) 0))) (by omega) (by omega) rfl (by omega) (by omega) (by omega)
  have kv := rdV_rng (List.drop ((ρ.i .i64 1003)).toNat (ρ.z.rl 0))
  rw [k3] at kv
  have hT := kn.rom 0 _ _ rfl
  obtain ⟨e1, e2, e3⟩ := text_ok hT kr k1 k2 k3 (by omega) (by omega)
  have t2 := txs t e1
  have w2 := txs_s t (W := []) rfl
  rw [e2, ← Int.add_assoc] at t2
  rw [e3] at w2
  refine ⟨⟨by omega, t2, ?_, by omega, h1, h2⟩, by omega⟩
  first
    | exact w2
    | (rw [show ∀ x : Int, x = 0 → x.toNat = 0 from fun x h => by omega] at w2 ⊢
       · simp only [List.take_zero] at w2 ⊢
         exact w2
       all_goals omega)
theorem vcliR4_10 : VC TTliR invliR msliR 4 tliR4 wliR4_10 := by
  intro ρ kn hi hp
  have hi : ivliR4 ρ := hi
  unfold ivliR4 at hi
  have hF : ρ.z.F = oct.Φ := kn.F
  simp only [h_nil, h_cons, d_le, d_eq, d_not, d_var, d_lit, d_cel, d_leq, d_fn, d_and, d_iff, IE.den, LE.den, AL.den, lenV, true_and, and_true, pcliR4_8, pcliR4_5, pcliR4_3, pcliR4_1, pcliR4_0, hF, pi2, pi3, pi4, pi5, pi6, pi7, pl1, pi8, pi9, pl3, pi10, pi11, pb1, pl2] at hp
  obtain ⟨p1, p2, p3, p4, p5, p6, p7, p8, p9, p10, p11, p12, p13, p14, p15, p16⟩ := hp
  refine (show (Nu (ρ.z.rl 0) (ρ.i .i64 1003) (ρ.i .i64 1004) ((ρ.i .i64 1007) + (1 : Int)) (binI BinOp.or .u64 (ρ.i .u64 1008) (binI BinOp.shl .u64 (binI BinOp.and .u8 (clampK .u8 (intV (celV (ρ.z.rl 0) ((ρ.i .i64 1004) + (ρ.i .i64 1007)) 0))) (127 : Int)) ((7 : Int) * (ρ.i .i64 1007)))) ∧ Tx (ρ.z.rl 0) 0 (ρ.i .i64 1003) ∧ (ρ.i .u64 1002) = rdV (ρ.z.rl 0) ∧ 1 ≤ (ρ.i .u64 1002) ∧ (rdV (ρ.z.rl 0) ≤ (ρ.i .i64 1) ∨ rdV (ρ.z.rl 0) ≤ 0) ∧ (ρ.z.rl 0).length ≤ 2000) ∧ ((12 * ((ρ.z.rl 0).length + 1 - (ρ.i .i64 1003).toNat) - 1 - ((ρ.i .i64 1007) + (1 : Int)).toNat : Nat) < 12 * ((ρ.z.rl 0).length + 1 - (ρ.i .i64 1003).toNat) - 1 - (ρ.i .i64 1007).toNat) from ?_)
  obtain ⟨u, t, hn, h0, h1, h2⟩ := hi
  have kr := tx_rng t
  exact ⟨⟨nu_go u (b := clampK .u8 (intV (celV (ρ.z.rl 0) ((ρ.i .i64 1004) + (ρ.i .i64 1007)) 0))) (by omega) (by omega) rfl (by omega) (by omega) (by omega), t, hn, h0, h1, h2⟩, by omega⟩
theorem vcliR4_11 : VC TTliR invliR msliR 4 tliR4 wliR4_11 := by
  intro ρ kn hi hp
  have hi : ivliR4 ρ := hi
  unfold ivliR4 at hi
  have hF : ρ.z.F = oct.Φ := kn.F
  simp only [h_nil, h_cons, d_le, d_eq, d_not, d_var, d_lit, d_cel, d_leq, d_fn, d_and, d_iff, IE.den, LE.den, AL.den, lenV, true_and, and_true, pcliR4_12, pcliR4_10, pcliR4_8, pcliR4_5, pcliR4_3, pcliR4_1, pcliR4_0, hF, pi2, pi3, pi4, pi5, pi6, pi7, pl1, pi8, pi9, pl3, pi10, pi11, pb1, pl2] at hp
  obtain ⟨p1, p2, p3, p4, p5, p6, p7, p8, p9, p10, p11, p12, p13, p14, p15, p16, p17, p18⟩ := hp
  refine (show (1 ≤ (1 : Int) ∧ Tx (ρ.z.rl 0) (1 : Int) (((ρ.i .i64 1003) + ((ρ.i .i64 1007) + (1 : Int))) + (binI BinOp.or .u64 (ρ.i .u64 1008) (binI BinOp.shl .u64 (binI BinOp.and .u8 (clampK .u8 (intV (celV (ρ.z.rl 0) ((ρ.i .i64 1004) + (ρ.i .i64 1007)) 0))) (127 : Int)) ((7 : Int) * (ρ.i .i64 1007))))) ∧ ([[Go.Value.string (byteL ((ρ.z.rl 0).take (binI BinOp.or .u64 (ρ.i .u64 1008) (binI BinOp.shl .u64 (binI BinOp.and .u8 (clampK .u8 (intV (celV (ρ.z.rl 0) ((ρ.i .i64 1004) + (ρ.i .i64 1007)) 0))) (127 : Int)) ((7 : Int) * (ρ.i .i64 1007)))).toNat))]] : LV) = txsT (ρ.z.rl 0) (1 : Int).toNat ∧ ((ρ.i .u64 1002) - (1 : Int)) + (1 : Int) = rdV (ρ.z.rl 0) ∧ (rdV (ρ.z.rl 0) ≤ (ρ.i .i64 1) ∨ rdV (ρ.z.rl 0) ≤ 0) ∧ (ρ.z.rl 0).length ≤ 2000) ∧ ((12 * ((ρ.z.rl 0).length + 1 - (((ρ.i .i64 1003) + ((ρ.i .i64 1007) + (1 : Int))) + (binI BinOp.or .u64 (ρ.i .u64 1008) (binI BinOp.shl .u64 (binI BinOp.and .u8 (clampK .u8 (intV (celV (ρ.z.rl 0) ((ρ.i .i64 1004) + (ρ.i .i64 1007)) 0))) (127 : Int)) ((7 : Int) * (ρ.i .i64 1007))))).toNat) : Nat) < 12 * ((ρ.z.rl 0).length + 1 - (ρ.i .i64 1003).toNat) - 1 - (ρ.i .i64 1007).toNat) from ?_)
  obtain ⟨u, t, hn, h0, h1, h2⟩ := hi
  have kr := tx_rng t
  obtain ⟨k1, k2, k3⟩ := nu_read u (b := clampK .u8 (intV (celV (ρ.z.rl 0) ((ρ.i .i64 1004) + (ρ.i .i64 1007)) 0))) (by omega) (by omega) rfl (by omega) (by omega) (by omega)
  have kv := rdV_rng (List.drop ((ρ.i .i64 1003)).toNat (ρ.z.rl 0))
  rw [k3] at kv
  have hT := kn.rom 0 _ _ rfl
  obtain ⟨e1, e2, e3⟩ := text_ok hT kr k1 k2 k3 (by omega) (by omega)
  have t2 := txs t e1
  have w2 := txs_s t (W := []) rfl
  rw [e2, ← Int.add_assoc] at t2
  rw [e3] at w2
  refine ⟨⟨by omega, t2, ?_, by omega, h1, h2⟩, by omega⟩
  first
    | exact w2
    | (rw [show ∀ x : Int, x = 0 → x.toNat = 0 from fun x h => by omega] at w2 ⊢
       · simp only [List.take_zero] at w2 ⊢
         exact w2
       all_goals omega)
theorem vcliR4_12 : VC TTliR invliR msliR 4 tliR4 wliR4_12 := by
  intro ρ kn hi hp
  have hi : ivliR4 ρ := hi
  unfold ivliR4 at hi
  have hF : ρ.z.F = oct.Φ := kn.F
  simp only [h_nil, h_cons, d_le, d_eq, d_not, d_var, d_lit, d_cel, d_leq, d_fn, d_and, d_iff, IE.den, LE.den, AL.den, lenV, true_and, and_true, pcliR4_12, pcliR4_10, pcliR4_8, pcliR4_5, pcliR4_3, pcliR4_1, pcliR4_0, hF, pi2, pi3, pi4, pi5, pi6, pi7, pl1, pi8, pi9, pl3, pi10, pi11, pb1, pl2] at hp
  obtain ⟨p1, p2, p3, p4, p5, p6, p7, p8, p9, p10, p11, p12, p13, p14, p15, p16, p17, p18⟩ := hp
  refine (show (1 ≤ (1 : Int) ∧ Tx (ρ.z.rl 0) (1 : Int) (((ρ.i .i64 1003) + ((ρ.i .i64 1007) + (1 : Int))) + (binI BinOp.or .u64 (ρ.i .u64 1008) (binI BinOp.shl .u64 (binI BinOp.and .u8 (clampK .u8 (intV (celV (ρ.z.rl 0) ((ρ.i .i64 1004) + (ρ.i .i64 1007)) 0))) (127 : Int)) ((7 : Int) * (ρ.i .i64 1007))))) ∧ ([[Go.Value.string (byteL (((ρ.z.rl 0).drop ((ρ.i .i64 1003) + ((ρ.i .i64 1007) + (1 : Int))).toNat).take (binI BinOp.or .u64 (ρ.i .u64 1008) (binI BinOp.shl .u64 (binI BinOp.and .u8 (clampK .u8 (intV (celV (ρ.z.rl 0) ((ρ.i .i64 1004) + (ρ.i .i64 1007)) 0))) (127 : Int)) ((7 : Int) * (ρ.i .i64 1007)))).toNat))]] : LV) = txsT (ρ.z.rl 0) (1 : Int).toNat ∧ ((ρ.i .u64 1002) - (1 : Int)) + (1 : Int) = rdV (ρ.z.rl 0) ∧ (rdV (ρ.z.rl 0) ≤ (ρ.i .i64 1) ∨ rdV (ρ.z.rl 0) ≤ 0) ∧ (ρ.z.rl 0).length ≤ 2000) ∧ ((12 * ((ρ.z.rl 0).length + 1 - (((ρ.i .i64 1003) + ((ρ.i .i64 1007) + (1 : Int))) + (binI BinOp.or .u64 (ρ.i .u64 1008) (binI BinOp.shl .u64 (binI BinOp.and .u8 (clampK .u8 (intV (celV (ρ.z.rl 0) ((ρ.i .i64 1004) + (ρ.i .i64 1007)) 0))) (127 : Int)) ((7 : Int) * (ρ.i .i64 1007))))).toNat) : Nat) < 12 * ((ρ.z.rl 0).length + 1 - (ρ.i .i64 1003).toNat) - 1 - (ρ.i .i64 1007).toNat) from ?_)
  obtain ⟨u, t, hn, h0, h1, h2⟩ := hi
  have kr := tx_rng t
  obtain ⟨k1, k2, k3⟩ := nu_read u (b := clampK .u8 (intV (celV (ρ.z.rl 0) ((ρ.i .i64 1004) + (ρ.i .i64 1007)) 0))) (by omega) (by omega) rfl (by omega) (by omega) (by omega)
  have kv := rdV_rng (List.drop ((ρ.i .i64 1003)).toNat (ρ.z.rl 0))
  rw [k3] at kv
  have hT := kn.rom 0 _ _ rfl
  obtain ⟨e1, e2, e3⟩ := text_ok hT kr k1 k2 k3 (by omega) (by omega)
  have t2 := txs t e1
  have w2 := txs_s t (W := []) rfl
  rw [e2, ← Int.add_assoc] at t2
  rw [e3] at w2
  refine ⟨⟨by omega, t2, ?_, by omega, h1, h2⟩, by omega⟩
  first
    | exact w2
    | (rw [show ∀ x : Int, x = 0 → x.toNat = 0 from fun x h => by omega] at w2 ⊢
       · simp only [List.take_zero] at w2 ⊢
         exact w2
       all_goals omega)
def ivliR5 (ρ : Rho) : Prop := 1 ≤ (ρ.i .i64 1010) ∧ Nu (ρ.z.rl 0) (ρ.i .i64 1011) (ρ.i .i64 1013) (ρ.i .i64 1016) (ρ.i .u64 1017) ∧ Tx (ρ.z.rl 0) (ρ.i .i64 1010) (ρ.i .i64 1011) ∧ (ρ.l 1012) = txsT (ρ.z.rl 0) (ρ.i .i64 1010).toNat ∧ (ρ.i .u64 1009) + (ρ.i .i64 1010) = rdV (ρ.z.rl 0) ∧ 1 ≤ (ρ.i .u64 1009) ∧ (rdV (ρ.z.rl 0) ≤ (ρ.i .i64 1) ∨ rdV (ρ.z.rl 0) ≤ 0) ∧ (ρ.z.rl 0).length ≤ 2000
theorem vcgliR5_0 : VC TTliR invliR msliR 5 tliR5 wliR5_0 ∧ VC TTliR invliR msliR 5 tliR5 wliR5_4 ∧ VC TTliR invliR msliR 5 tliR5 wliR5_5 ∧ VC TTliR invliR msliR 5 tliR5 wliR5_8 ∧ VC TTliR invliR msliR 5 tliR5 wliR5_9 ∧ VC TTliR invliR msliR 5 tliR5 wliR5_13 := by
  refine ⟨?_, ?_, ?_, ?_, ?_, ?_⟩
  all_goals
    intro ρ kn hi hp
    have hi : ivliR5 ρ := hi
    unfold ivliR5 at hi
    have hF : ρ.z.F = oct.Φ := kn.F
    simp only [h_nil, h_cons, d_le, d_eq, d_not, d_var, d_lit, d_cel, d_leq, d_fn, d_and, d_iff, IE.den, LE.den, AL.den, lenV, true_and, and_true, pcliR5_0, pcliR5_4, pcliR5_2, pcliR5_1, pcliR5_3, pcliR5_9, pcliR5_7, pcliR5_5, pcliR5_10, pcliR5_8, hF, pi2, pi3, pi4, pi5, pi6, pi7, pl1, pi8, pi9, pl3, pi10, pi11, pb1, pl2] at hp
    have p1 := And.left hp
    replace hp := And.right hp
    repeat (have _ := And.left hp; replace hp := And.right hp)
    exfalso
    have hB := lsB_t.1 (by assumption : lsB (ρ.z.rl 0) (ρ.i .i64 1) = true)
    obtain ⟨hj, u, t, hw, hn, h0, h1, h2⟩ := hi
    have kr := tx_rng t
    first
      | (have k := nu_end u (by omega) (by omega); have k4 := text_no (R := (ρ.z.rl 0)) (a := (ρ.i .i64 1011)) (by omega); have q := tx_err (m := (ρ.i .i64 1)) t (by omega) h1 (e := txtE (List.drop ((ρ.i .i64 1011)).toNat (ρ.z.rl 0))) rfl (by omega); omega)
      | (have k := nu_bad u (b := clampK .u8 (intV (celV (ρ.z.rl 0) ((ρ.i .i64 1013) + (ρ.i .i64 1016)) 0))) (by omega) (by omega) rfl (by omega); have k4 := text_no (R := (ρ.z.rl 0)) (a := (ρ.i .i64 1011)) (by omega); have q := tx_err (m := (ρ.i .i64 1)) t (by omega) h1 (e := txtE (List.drop ((ρ.i .i64 1011)).toNat (ρ.z.rl 0))) rfl (by omega); omega)
      | (have k := nu_read u (b := clampK .u8 (intV (celV (ρ.z.rl 0) ((ρ.i .i64 1013) + (ρ.i .i64 1016)) 0))) (by omega) (by omega) rfl (by omega) (by omega) (by omega); have k4 := text_long kr k.1 k.2.1 k.2.2 (by omega); have q := tx_err (m := (ρ.i .i64 1)) t (by omega) h1 (e := txtE (List.drop ((ρ.i .i64 1011)).toNat (ρ.z.rl 0))) rfl (by omega); omega)
theorem vcliR5_1 : VC TTliR invliR msliR 5 tliR5 wliR5_1 := by
  intro ρ kn hi hp
  have hi : ivliR5 ρ := hi
  unfold ivliR5 at hi
  have hF : ρ.z.F = oct.Φ := kn.F
  simp only [h_nil, h_cons, d_le, d_eq, d_not, d_var, d_lit, d_cel, d_leq, d_fn, d_and, d_iff, IE.den, LE.den, AL.den, lenV, true_and, and_true, pcliR5_2, pcliR5_1, pcliR5_0, hF, pi2, pi3, pi4, pi5, pi6, pi7, pl1, pi8, pi9, pl3, pi10, pi11, pb1, pl2] at hp
  obtain ⟨p1, p2, p3, p4, p5, p6, p7, p8, p9, p10, p11, p12, p13, p14, p15, p16, p17⟩ := hp
  refine (show (1 ≤ (ρ.i .i64 1010) ∧ Nu (ρ.z.rl 0) (ρ.i .i64 1011) (ρ.i .i64 1013) ((ρ.i .i64 1016) + (1 : Int)) (binI BinOp.or .u64 (ρ.i .u64 1017) (binI BinOp.shl .u64 (binI BinOp.and .u8 (clampK .u8 (intV (celV (ρ.z.rl 0) ((ρ.i .i64 1013) + (ρ.i .i64 1016)) 0))) (127 : Int)) ((7 : Int) * (ρ.i .i64 1016)))) ∧ Tx (ρ.z.rl 0) (ρ.i .i64 1010) (ρ.i .i64 1011) ∧ (ρ.l 1012) = txsT (ρ.z.rl 0) (ρ.i .i64 1010).toNat ∧ (ρ.i .u64 1009) + (ρ.i .i64 1010) = rdV (ρ.z.rl 0) ∧ 1 ≤ (ρ.i .u64 1009) ∧ (rdV (ρ.z.rl 0) ≤ (ρ.i .i64 1) ∨ rdV (ρ.z.rl 0) ≤ 0) ∧ (ρ.z.rl 0).length ≤ 2000) ∧ ((12 * ((ρ.z.rl 0).length + 1 - (ρ.i .i64 1011).toNat) - 1 - ((ρ.i .i64 1016) + (1 : Int)).toNat : Nat) < 12 * ((ρ.z.rl 0).length + 1 - (ρ.i .i64 1011).toNat) - 1 - (ρ.i .i64 1016).toNat) from ?_)
  obtain ⟨hj, u, t, hw, hn, h0, h1, h2⟩ := hi
  have kr := tx_rng t
  exact ⟨⟨hj, nu_go u (b := clampK .u8 (intV (celV (ρ.z.rl 0) ((ρ.i .i64 1013) + (ρ.i .i64 1016)) 0))) (by omega) (by omega) rfl (by omega) (by omega) (by omega), t, hw, hn, h0, h1, h2⟩, by omega⟩
theorem vcliR5_2 : VC TTliR invliR msliR 5 tliR5 wliR5_2 := by
  intro ρ kn hi hp
  have hi : ivliR5 ρ := hi
  unfold ivliR5 at hi
  have hF : ρ.z.F = oct.Φ := kn.F
  simp only [h_nil, h_cons, d_le, d_eq, d_not, d_var, d_lit, d_cel, d_leq, d_fn, d_and, d_iff, IE.den, LE.den, AL.den, lenV, true_and, and_true, pcliR5_6, pcliR5_4, pcliR5_2, pcliR5_1, pcliR5_0, hF, pi2, pi3, pi4, pi5, pi6, pi7, pl1, pi8, pi9, pl3, pi10, pi11, pb1, pl2] at hp
  obtain ⟨p1, p2, p3, p4, p5, p6, p7, p8, p9, p10, p11, p12, p13, p14, p15, p16, p17, p18, p19⟩ := hp
  refine (show (1 ≤ ((ρ.i .i64 1010) + (1 : Int)) ∧ Tx (ρ.z.rl 0) ((ρ.i .i64 1010) + (1 : Int)) (((ρ.i .i64 1011) + ((ρ.i .i64 1016) + (1 : Int))) + (binI BinOp.or .u64 (ρ.i .u64 1017) (binI BinOp.shl .u64 (binI BinOp.and .u8 (clampK .u8 (intV (celV (ρ.z.rl 0) ((ρ.i .i64 1013) + (ρ.i .i64 1016)) 0))) (127 : Int)) ((7 : Int) * (ρ.i .i64 1016))))) ∧ ((ρ.l 1012) ++ ([[Go.Value.string (byteL ((ρ.z.rl 0).take (binI BinOp.or .u64 (ρ.i .u64 1017) (binI BinOp.shl .u64 (binI BinOp.and .u8 (clampK .u8 (intV (celV (ρ.z.rl 0) ((ρ.i .i64 1013) + (ρ.i .i64 1016)) 0))) (127 : Int)) ((7 : Int) * (ρ.i .i64 1016)))).toNat))]] : LV)) = txsT (ρ.z.rl 0) ((ρ.i .i64 1010) + (1 : Int)).toNat ∧ ((ρ.i .u64 1009) - (1 : Int)) + ((ρ.i .i64 1010) + (1 : Int)) = rdV (ρ.z.rl 0) ∧ (rdV (ρ.z.rl 0) ≤ (ρ.i .i64 1) ∨ rdV (ρ.z.rl 0) ≤ 0) ∧ (ρ.z.rl 0).length ≤ 2000) ∧ ((12 * ((ρ.z.rl 0).length + 1 - (((ρ.i .i64 1011) + ((ρ.i .i64 1016) + (1 : Int))) + (binI BinOp.or .u64 (ρ.i .u64 1017) (binI BinOp.shl .u64 (binI BinOp.and .u8 (clampK .u8 (intV (celV (ρ.z.rl 0) ((ρ.i .i64 1013) + (ρ.i .i64 1016)) 0))) (127 : Int)) ((7 : Int) * (ρ.i .i64 1016))))).toNat) : Nat) < 12 * ((ρ.z.rl 0).length + 1 - (ρ.i .i64 1011).toNat) - 1 - (ρ.i .i64 1016).toNat) from ?_)
  obtain ⟨hj, u, t, hw, hn, h0, h1, h2⟩ := hi
  have kr := tx_rng t
  obtain ⟨k1, k2, k3⟩ := nu_read u (b := clampK .u8 (intV (celV (ρ.z.rl 0) ((ρ.i .i64 1013) + (ρ.i .i64 1016)) 0))) (by omega) (by omega) rfl (by omega) (by omega) (by omega)
  have kv := rdV_rng (List.drop ((ρ.i .i64 1011)).toNat (ρ.z.rl 0))
  rw [k3] at kv
  have hT := kn.rom 0 _ _ rfl
  obtain ⟨e1, e2, e3⟩ := text_ok hT kr k1 k2 k3 (by omega) (by omega)
  have t2 := txs t e1
  have w2 := txs_s t (W := ρ.l 1012) hw
  rw [e2, ← Int.add_assoc] at t2
  rw [e3] at w2
  refine ⟨⟨by omega, t2, ?_, by omega, h1, h2⟩, by omega⟩
  first
    | exact w2
    | (rw [show ∀ x : Int, x = 0 → x.toNat = 0 from fun x h => by omega] at w2 ⊢
       · simp only [List.take_zero] at w2 ⊢
         exact w2
       all_goals omega)
theorem vcliR5_3 : VC TTliR invliR msliR 5 tliR5 wliR5_3 := by
  intro ρ kn hi hp
  have hi : ivliR5 ρ := hi
  unfold ivliR5 at hi
  have hF : ρ.z.F = oct.Φ := kn.F
  simp only [h_nil, h_cons, d_le, d_eq, d_not, d_var, d_lit, d_cel, d_leq, d_fn, d_and, d_iff, IE.den, LE.den, AL.den, lenV, true_and, and_true, pcliR5_6, pcliR5_4, pcliR5_2, pcliR5_1, pcliR5_0, hF, pi2, pi3, pi4, pi5, pi6, pi7, pl1, pi8, pi9, pl3, pi10, pi11, pb1, pl2] at hp
  obtain ⟨p1, p2, p3, p4, p5, p6, p7, p8, p9, p10, p11, p12, p13, p14, p15, p16, p17, p18, p19⟩ := hp
  refine (show (1 ≤ ((ρ.i .i64 1010) + (1 : Int)) ∧ Tx (ρ.z.rl 0) ((ρ.i .i64 1010) + (1 : Int)) (((ρ.i .i64 1011) + ((ρ.i .i64 1016) + (1 : Int))) + (binI BinOp.or .u64 (ρ.i .u64 1017) (binI BinOp.shl .u64 (binI BinOp.and .u8 (clampK .u8 (intV (celV (ρ.z.rl 0) ((ρ.i .i64 1013) + (ρ.i .i64 1016)) 0))) (127 : Int)) ((7 : Int) * (ρ.i .i64 1016))))) ∧ ((ρ.l 1012) ++ ([[Go.Value.string (byteL (((ρ.z.rl 0).drop ((ρ.i .i64 1011) + ((ρ.i .i64 1016) + (1 : Int))).toNat).take (binI BinOp.or .u64 (ρ.i .u64 1017) (binI BinOp.shl .u64 (binI BinOp.and .u8 (clampK .u8 (intV (celV (ρ.z.rl 0) ((ρ.i .i64 1013) + (ρ.i .i64 1016)) 0))) (127 : Int)) ((7 : Int) * (ρ.i .i64 1016)))).toNat))]] : LV)) = txsT (ρ.z.rl 0) ((ρ.i .i64 1010) + (1 : Int)).toNat ∧ ((ρ.i .u64 1009) - (1 : Int)) + ((ρ.i .i64 1010) + (1 : Int)) = rdV (ρ.z.rl 0) ∧ (rdV (ρ.z.rl 0) ≤ (ρ.i .i64 1) ∨ rdV (ρ.z.rl 0) ≤ 0) ∧ (ρ.z.rl 0).length ≤ 2000) ∧ ((12 * ((ρ.z.rl 0).length + 1 - (((ρ.i .i64 1011) + ((ρ.i .i64 1016) + (1 : Int))) + (binI BinOp.or .u64 (ρ.i .u64 1017) (binI BinOp.shl .u64 (binI BinOp.and .u8 (clampK .u8 (intV (celV (ρ.z.rl 0) ((ρ.i .i64 1013) + (ρ.i .i64 1016)) 0))) (127 : Int)) ((7 : Int) * (ρ.i .i64 1016))))).toNat) : Nat) < 12 * ((ρ.z.rl 0).length + 1 - (ρ.i .i64 1011).toNat) - 1 - (ρ.i .i64 1016).toNat) from ?_)
  obtain ⟨hj, u, t, hw, hn, h0, h1, h2⟩ := hi
  have kr := tx_rng t
  obtain ⟨k1, k2, k3⟩ := nu_read u (b := clampK .u8 (intV (celV (ρ.z.rl 0) ((ρ.i .i64 1013) + (ρ.i .i64 1016)) 0))) (by omega) (by omega) rfl (by omega) (by omega) (by omega)
  have kv := rdV_rng (List.drop ((ρ.i .i64 1011)).toNat (ρ.z.rl 0))
  rw [k3] at kv
  have hT := kn.rom 0 _ _ rfl
  obtain ⟨e1, e2, e3⟩ := text_ok hT kr k1 k2 k3 (by omega) (by omega)
  have t2 := txs t e1
  have w2 := txs_s t (W := ρ.l 1012) hw
  rw [e2, ← Int.add_assoc] at t2
  rw [e3] at w2
  refine ⟨⟨by omega, t2, ?_, by omega, h1, h2⟩, by omega⟩
  first
    | exact w2
    | (rw [show ∀ x : Int, x = 0 → x.toNat = 0 from fun x h => by omega] at w2 ⊢
       · simp only [List.take_zero] at w2 ⊢
         exact w2
       all_goals omega)
theorem vcliR5_6 : VC TTliR invliR msliR 5 tliR5 wliR5_6 := by
  intro ρ kn hi hp
  have hi : ivliR5 ρ := hi
  unfold ivliR5 at hi
  have hF : ρ.z.F = oct.Φ := kn.F
  simp only [h_nil, h_cons, d_le, d_eq, d_not, d_var, d_lit, d_cel, d_leq, d_fn, d_and, d_iff, IE.den, LE.den, AL.den, lenV, true_and, and_true, pcliR5_11, pcliR5_9, pcliR5_7, pcliR5_5, pcliR5_3, pcliR5_1, pcliR5_0, hF, pi2, pi3, pi4, pi5, pi6, pi7, pl1, pi8, pi9, pl3, pi10, pi11, pb1, pl2] at hp
  obtain ⟨p1, p2, p3, p4, p5, p6, p7, p8, p9, p10, p11, p12, p13, p14, p15, p16, p17, p18, p19, p20, p21⟩ := hp
  refine (show (1 ≤ ((ρ.i .i64 1010) + (1 : Int)) ∧ Tx (ρ.z.rl 0) ((ρ.i .i64 1010) + (1 : Int)) (((ρ.i .i64 1011) + ((ρ.i .i64 1016) + (1 : Int))) + (binI BinOp.or .u64 (ρ.i .u64 1017) (binI BinOp.shl .u64 (binI BinOp.and .u8 (clampK .u8 (intV (celV (ρ.z.rl 0) ((ρ.i .i64 1013) + (ρ.i .i64 1016)) 0))) (127 : Int)) ((7 : Int) * (ρ.i .i64 1016))))) ∧ ((ρ.l 1012) ++ ([[Go.Value.string (byteL ((ρ.z.rl 0).take (binI BinOp.or .u64 (ρ.i .u64 1017) (binI BinOp.shl .u64 (binI BinOp.and .u8 (clampK .u8 (intV (celV (ρ.z.rl 0) ((ρ.i .i64 1013) + (ρ.i .i64 1016)) 0))) (127 : Int)) ((7 : Int) * (ρ.i .i64 1016)))).toNat))]] : LV)) = txsT (ρ.z.rl 0) ((ρ.i .i64 1010) + (1 : Int)).toNat ∧ ((ρ.i .u64 1009) - (1 : Int)) + ((ρ.i .i64 1010) + (1 : Int)) = rdV (ρ.z.rl 0) ∧ (rdV (ρ.z.rl 0) ≤ (ρ.i .i64 1) ∨ rdV (ρ.z.rl 0) ≤ 0) ∧ (ρ.z.rl 0).length ≤ 2000) ∧ ((12 * ((ρ.z.rl 0).length + 1 - (((ρ.i .i64 1011) + ((ρ.i .i64 1016) + (1 : Int))) + (binI BinOp.or .u64 (ρ.i .u64 1017) (binI BinOp.shl .u64 (binI BinOp.and .u8 (clampK .u8 (intV (celV (ρ.z.rl 0) ((ρ.i .i64 1013) + (ρ.i .i64 1016)) 0))) (127 : Int)) ((7 : Int) * (ρ.i .i64 1016))))).toNat) : Nat) < 12 * ((ρ.z.rl 0).length + 1 - (ρ.i .i64 1011).toNat) - 1 - (ρ.i .i64 1016).toNat) from ?_)
  obtain ⟨hj, u, t, hw, hn, h0, h1, h2⟩ := hi
  have kr := tx_rng t
  obtain ⟨k1, k2, k3⟩ := nu_read u (b := clampK .u8 (intV (celV (ρ.z.rl 0) ((ρ.i .i64 1013) + (ρ.i .i64 1016)) 0))) (by omega) (by omega) rfl (by omega) (by omega) (by omega)
  have kv := rdV_rng (List.drop ((ρ.i .i64 1011)).toNat (ρ.z.rl 0))
  rw [k3] at kv
  have hT := kn.rom 0 _ _ rfl
  obtain ⟨e1, e2, e3⟩ := text_ok hT kr k1 k2 k3 (by omega) (by omega)
  have t2 := txs t e1
  have w2 := txs_s t (W := ρ.l 1012) hw
  rw [e2, ← Int.add_assoc] at t2
  rw [e3] at w2
  refine ⟨⟨by omega, t2, ?_, by omega, h1, h2⟩, by omega⟩
  first
    | exact w2
    | (rw [show ∀ x : Int, x = 0 → x.toNat = 0 from fun x h => by omega] at w2 ⊢
       · simp only [List.take_zero] at w2 ⊢
         exact w2
       all_goals omega)
theorem vcliR5_7 : VC TTliR invliR msliR 5 tliR5 wliR5_7 := by
  intro ρ kn hi hp
  have hi : ivliR5 ρ := hi
  unfold ivliR5 at hi
  have hF : ρ.z.F = oct.Φ := kn.F
  simp only [h_nil, h_cons, d_le, d_eq, d_not, d_var, d_lit, d_cel, d_leq, d_fn, d_and, d_iff, IE.den, LE.den, AL.den, lenV, true_and, and_true, pcliR5_11, pcliR5_9, pcliR5_7, pcliR5_5, pcliR5_3, pcliR5_1, pcliR5_0, hF, pi2, pi3, pi4, pi5, pi6, pi7, pl1, pi8, pi9, pl3, pi10, pi11, pb1, pl2] at hp
  obtain ⟨p1, p2, p3, p4, p5, p6, p7, p8, p9, p10, p11, p12, p13, p14, p15, p16, p17, p18, p19, p20, p21⟩ := hp
  refine (show (1 ≤ ((ρ.i .i64 1010) + (1 : Int)) ∧ Tx (ρ.z.rl 0) ((ρ.i .i64 1010) + (1 : Int)) (((ρ.i .i64 1011) + ((ρ.i .i64 1016) + (1 : Int))) + (binI BinOp.or .u64 (ρ.i .u64 1017) (binI BinOp.shl .u64 (binI BinOp.and .u8 (clampK .u8 (intV (celV (ρ.z.rl 0) ((ρ.i .i64 1013) + (ρ.i .i64 1016)) 0))) (127 : Int)) ((7 : Int) * (ρ.i .i64 1016))))) ∧ ((ρ.l 1012) ++ ([[Go.Value.string (byteL (((ρ.z.rl 0).drop ((ρ.i .i64 1011) + ((ρ.i .i64 1016) + (1 : Int))).toNat).take (binI BinOp.or .u64 (ρ.i .u64 1017) (binI BinOp.shl .u64 (binI BinOp.and .u8 (clampK .u8 (intV (celV (ρ.z.rl 0) ((ρ.i .i64 1013) + (ρ.i .i64 1016)) 0))) (127 : Int)) ((7 : Int) * (ρ.i .i64 1016)))).toNat))]] : LV)) = txsT (ρ.z.rl 0) ((ρ.i .i64 1010) + (1 : Int)).toNat ∧ ((ρ.i .u64 1009) - (1 : Int)) + ((ρ.i .i64 1010) + (1 : Int)) = rdV (ρ.z.rl 0) ∧ (rdV (ρ.z.rl 0) ≤ (ρ.i .i64 1) ∨ rdV (ρ.z.rl 0) ≤ 0) ∧ (ρ.z.rl 0).length ≤ 2000) ∧ ((12 * ((ρ.z.rl 0).length + 1 - (((ρ.i .i64 1011) + ((ρ.i .i64 1016) + (1 : Int))) + (binI BinOp.or .u64 (ρ.i .u64 1017) (binI BinOp.shl .u64 (binI BinOp.and .u8 (clampK .u8 (intV (celV (ρ.z.rl 0) ((ρ.i .i64 1013) + (ρ.i .i64 1016)) 0))) (127 : Int)) ((7 : Int) * (ρ.i .i64 1016))))).toNat) : Nat) < 12 * ((ρ.z.rl 0).length + 1 - (ρ.i .i64 1011).toNat) - 1 - (ρ.i .i64 1016).toNat) from ?_)
  obtain ⟨hj, u, t, hw, hn, h0, h1, h2⟩ := hi
  have kr := tx_rng t
  obtain ⟨k1, k2, k3⟩ := nu_read u (b := clampK .u8 (intV (celV (ρ.z.rl 0) ((ρ.i .i64 1013) + (ρ.i .i64 1016)) 0))) (by omega) (by omega) rfl (by omega) (by omega) (by omega)
  have kv := rdV_rng (List.drop ((ρ.i .i64 1011)).toNat (ρ.z.rl 0))
  rw [k3] at kv
  have hT := kn.rom 0 _ _ rfl
  obtain ⟨e1, e2, e3⟩ := text_ok hT kr k1 k2 k3 (by omega) (by omega)
  have t2 := txs t e1
  have w2 := txs_s t (W := ρ.l 1012) hw
  rw [e2, ← Int.add_assoc] at t2
  rw [e3] at w2
  refine ⟨⟨by omega, t2, ?_, by omega, h1, h2⟩, by omega⟩
  first
    | exact w2
    | (rw [show ∀ x : Int, x = 0 → x.toNat = 0 from fun x h => by omega] at w2 ⊢
       · simp only [List.take_zero] at w2 ⊢
         exact w2
       all_goals omega)
theorem vcliR5_10 : VC TTliR invliR msliR 5 tliR5 wliR5_10 := by
  intro ρ kn hi hp
  have hi : ivliR5 ρ := hi
  unfold ivliR5 at hi
  have hF : ρ.z.F = oct.Φ := kn.F
  simp only [h_nil, h_cons, d_le, d_eq, d_not, d_var, d_lit, d_cel, d_leq, d_fn, d_and, d_iff, IE.den, LE.den, AL.den, lenV, true_and, and_true, pcliR5_8, pcliR5_5, pcliR5_3, pcliR5_1, pcliR5_0, hF, pi2, pi3, pi4, pi5, pi6, pi7, pl1, pi8, pi9, pl3, pi10, pi11, pb1, pl2] at hp
  obtain ⟨p1, p2, p3, p4, p5, p6, p7, p8, p9, p10, p11, p12, p13, p14, p15, p16, p17, p18, p19⟩ := hp
  refine (show (1 ≤ (ρ.i .i64 1010) ∧ Nu (ρ.z.rl 0) (ρ.i .i64 1011) (ρ.i .i64 1013) ((ρ.i .i64 1016) + (1 : Int)) (binI BinOp.or .u64 (ρ.i .u64 1017) (binI BinOp.shl .u64 (binI BinOp.and .u8 (clampK .u8 (intV (celV (ρ.z.rl 0) ((ρ.i .i64 1013) + (ρ.i .i64 1016)) 0))) (127 : Int)) ((7 : Int) * (ρ.i .i64 1016)))) ∧ Tx (ρ.z.rl 0) (ρ.i .i64 1010) (ρ.i .i64 1011) ∧ (ρ.l 1012) = txsT (ρ.z.rl 0) (ρ.i .i64 1010).toNat ∧ (ρ.i .u64 1009) + (ρ.i .i64 1010) = rdV (ρ.z.rl 0) ∧ 1 ≤ (ρ.i .u64 1009) ∧ (rdV (ρ.z.rl 0) ≤ (ρ.i .i64 1) ∨ rdV (ρ.z.rl 0) ≤ 0) ∧ (ρ.z.rl 0).length ≤ 2000) ∧ ((12 * ((ρ.z.rl 0).length + 1 - (ρ.i .i64 1011).toNat) - 1 - ((ρ.i .i64 1016) + (1 : Int)).toNat : Nat) < 12 * ((ρ.z.rl 0).length + 1 - (ρ.i .i64 1011).toNat) - 1 - (ρ.i .i64 1016).toNat) from ?_)
  obtain ⟨hj, u, t, hw, hn, h0, h1, h2⟩ := hi
  have kr := tx_rng t
  exact ⟨⟨hj, nu_go u (b := clampK .u8 (intV (celV (ρ.z.rl 0) ((ρ.i .i64 1013) + (ρ.i .i64 1016)) 0))) (by omega) (by omega) rfl (by omega) (by omega) (by omega), t, hw, hn, h0, h1, h2⟩, by omega⟩
theorem vcliR5_11 : VC TTliR invliR msliR 5 tliR5 wliR5_11 := by
  intro ρ kn hi hp
  have hi : ivliR5 ρ := hi
  unfold ivliR5 at hi
  have hF : ρ.z.F = oct.Φ := kn.F
  simp only [h_nil, h_cons, d_le, d_eq, d_not, d_var, d_lit, d_cel, d_leq, d_fn, d_and, d_iff, IE.den, LE.den, AL.den, lenV, true_and, and_true, pcliR5_12, pcliR5_10, pcliR5_8, pcliR5_5, pcliR5_3, pcliR5_1, pcliR5_0, hF, pi2, pi3, pi4, pi5, pi6, pi7, pl1, pi8, pi9, pl3, pi10, pi11, pb1, pl2] at hp
  obtain ⟨p1, p2, p3, p4, p5, p6, p7, p8, p9, p10, p11, p12, p13, p14, p15, p16, p17, p18, p19, p20, p21⟩ := hp
  refine (show (1 ≤ ((ρ.i .i64 1010) + (1 : Int)) ∧ Tx (ρ.z.rl 0) ((ρ.i .i64 1010) + (1 : Int)) (((ρ.i .i64 1011) + ((ρ.i .i64 1016) + (1 : Int))) + (binI BinOp.or .u64 (ρ.i .u64 1017) (binI BinOp.shl .u64 (binI BinOp.and .u8 (clampK .u8 (intV (celV (ρ.z.rl 0) ((ρ.i .i64 1013) + (ρ.i .i64 1016)) 0))) (127 : Int)) ((7 : Int) * (ρ.i .i64 1016))))) ∧ ((ρ.l 1012) ++ ([[Go.Value.string (byteL ((ρ.z.rl 0).take (binI BinOp.or .u64 (ρ.i .u64 1017) (binI BinOp.shl .u64 (binI BinOp.and .u8 (clampK .u8 (intV (celV (ρ.z.rl 0) ((ρ.i .i64 1013) + (ρ.i .i64 1016)) 0))) (127 : Int)) ((7 : Int) * (ρ.i .i64 1016)))).toNat))]] : LV)) = txsT (ρ.z.rl 0) ((ρ.i .i64 1010) + (1 : Int)).toNat ∧ ((ρ.i .u64 1009) - (1 : Int)) + ((ρ.i .i64 1010) + (1 : Int)) = rdV (ρ.z.rl 0) ∧ (rdV (ρ.z.rl 0) ≤ (ρ.i .i64 1) ∨ rdV (ρ.z.rl 0) ≤ 0) ∧ (ρ.z.rl 0).length ≤ 2000) ∧ ((12 * ((ρ.z.rl 0).length + 1 - (((ρ.i .i64 1011) + ((ρ.i .i64 1016) + (1 : Int))) + (binI BinOp.or .u64 (ρ.i .u64 1017) (binI BinOp.shl .u64 (binI BinOp.and .u8 (clampK .u8 (intV (celV (ρ.z.rl 0) ((ρ.i .i64 1013) + (ρ.i .i64 1016)) 0))) (127 : Int)) ((7 : Int) * (ρ.i .i64 1016))))).toNat) : Nat) < 12 * ((ρ.z.rl 0).length + 1 - (ρ.i .i64 1011).toNat) - 1 - (ρ.i .i64 1016).toNat) from ?_)
  obtain ⟨hj, u, t, hw, hn, h0, h1, h2⟩ := hi
  have kr := tx_rng t
  obtain ⟨k1, k2, k3⟩ := nu_read u (b := clampK .u8 (intV (celV (ρ.z.rl 0) ((ρ.i .i64 1013) + (ρ.i .i64 1016)) 0))) (by omega) (by omega) rfl (by omega) (by omega) (by omega)
  have kv := rdV_rng (List.drop ((ρ.i .i64 1011)).toNat (ρ.z.rl 0))
  rw [k3] at kv
  have hT := kn.rom 0 _ _ rfl
  obtain ⟨e1, e2, e3⟩ := text_ok hT kr k1 k2 k3 (by omega) (by omega)
  have t2 := txs t e1
  have w2 := txs_s t (W := ρ.l 1012) hw
  rw [e2, ← Int.add_assoc] at t2
  rw [e3] at w2
  refine ⟨⟨by omega, t2, ?_, by omega, h1, h2⟩, by omega⟩
  first
    | exact w2
    | (rw [show ∀ x : Int, x = 0 → x.toNat = 0 from fun x h => by omega] at w2 ⊢
       · simp only [List.take_zero] at w2 ⊢
         exact w2
       all_goals omega)
theorem vcliR5_12 : VC TTliR invliR msliR 5 tliR5 wliR5_12 := by
  intro ρ kn hi hp
  have hi : ivliR5 ρ := hi
  unfold ivliR5 at hi
  have hF : ρ.z.F = oct.Φ := kn.F
  simp only [h_nil, h_cons, d_le, d_eq, d_not, d_var, d_lit, d_cel, d_leq, d_fn, d_and, d_iff, IE.den, LE.den, AL.den, lenV, true_and, and_true, pcliR5_12, pcliR5_10, pcliR5_8, pcliR5_5, pcliR5_3, pcliR5_1, pcliR5_0, hF, pi2, pi3, pi4, pi5, pi6, pi7, pl1, pi8, pi9, pl3, pi10, pi11, pb1, pl2] at hp
  obtain ⟨p1, p2, p3, p4, p5, p6, p7, p8, p9, p10, p11, p12, p13, p14, p15, p16, p17, p18, p19, p20, p21⟩ := hp
  refine (show (1 ≤ ((ρ.i .i64 1010) + (1 : Int)) ∧ Tx (ρ.z.rl 0) ((ρ.i .i64 1010) + (1 : Int)) (((ρ.i .i64 1011) + ((ρ.i .i64 1016) + (1 : Int))) + (binI BinOp.or .u64 (ρ.i .u64 1017) (binI BinOp.shl .u64 (binI BinOp.and .u8 (clampK .u8 (intV (celV (ρ.z.rl 0) ((ρ.i .i64 1013) + (ρ.i .i64 1016)) 0))) (127 : Int)) ((7 : Int) * (ρ.i .i64 1016))))) ∧ ((ρ.l 1012) ++ ([[Go.Value.string (byteL (((ρ.z.rl 0).drop ((ρ.i .i64 1011) + ((ρ.i .i64 1016) + (1 : Int))).toNat).take (binI BinOp.or .u64 (ρ.i .u64 1017) (binI BinOp.shl .u64 (binI BinOp.and .u8 (clampK .u8 (intV (celV (ρ.z.rl 0) ((ρ.i .i64 1013) + (ρ.i .i64 1016)) 0))) (127 : Int)) ((7 : Int) * (ρ.i .i64 1016)))).toNat))]] : LV)) = txsT (ρ.z.rl 0) ((ρ.i .i64 1010) + (1 : Int)).toNat ∧ ((ρ.i .u64 1009) - (1 : Int)) + ((ρ.i .i64 1010) + (1 : Int)) = rdV (ρ.z.rl 0) ∧ (rdV (ρ.z.rl 0) ≤ (ρ.i .i64 1) ∨ rdV (ρ.z.rl 0) ≤ 0) ∧ (ρ.z.rl 0).length ≤ 2000) ∧ ((12 * ((ρ.z.rl 0).length + 1 - (((ρ.i .i64 1011) + ((ρ.i .i64 1016) + (1 : Int))) + (binI BinOp.or .u64 (ρ.i .u64 1017) (binI BinOp.shl .u64 (binI BinOp.and .u8 (clampK .u8 (intV (celV (ρ.z.rl 0) ((ρ.i .i64 1013) + (ρ.i .i64 1016)) 0))) (127 : Int)) ((7 : Int) * (ρ.i .i64 1016))))).toNat) : Nat) < 12 * ((ρ.z.rl 0).length + 1 - (ρ.i .i64 1011).toNat) - 1 - (ρ.i .i64 1016).toNat) from ?_)
  obtain ⟨hj, u, t, hw, hn, h0, h1, h2⟩ := hi
  have kr := tx_rng t
  obtain ⟨k1, k2, k3⟩ := nu_read u (b := clampK .u8 (intV (celV (ρ.z.rl 0) ((ρ.i .i64 1013) + (ρ.i .i64 1016)) 0))) (by omega) (by omega) rfl (by omega) (by omega) (by omega)
  have kv := rdV_rng (List.drop ((ρ.i .i64 1011)).toNat (ρ.z.rl 0))
  rw [k3] at kv
  have hT := kn.rom 0 _ _ rfl
  obtain ⟨e1, e2, e3⟩ := text_ok hT kr k1 k2 k3 (by omega) (by omega)
  have t2 := txs t e1
  have w2 := txs_s t (W := ρ.l 1012) hw
  rw [e2, ← Int.add_assoc] at t2
  rw [e3] at w2
  refine ⟨⟨by omega, t2, ?_, by omega, h1, h2⟩, by omega⟩
  first
    | exact w2
    | (rw [show ∀ x : Int, x = 0 → x.toNat = 0 from fun x h => by omega] at w2 ⊢
       · simp only [List.take_zero] at w2 ⊢
         exact w2
       all_goals omega)
theorem vcsliR0 : ∀ v ∈ vwliR 0, VC TTliR invliR msliR 0 (startF 33 cListR.pat (.lit true :: cListR.pre)) v := all_cons vcliR0_0 (all_nil)
theorem okliR0 : cfgOk (startF 33 cListR.pat (.lit true :: cListR.pre)) = true := by kernel_rfl
theorem sgliR0 : segL cListR.roms cListR (seg TTliR selliR 400 tmliR (startF 33 cListR.pat (.lit true :: cListR.pre))) = (true, codesR tmliR (views (seg TTliR selliR 400 tmliR (startF 33 cListR.pat (.lit true :: cListR.pre)))), vwliR 0) := by kernel_rfl
theorem vcsliR1 : ∀ v ∈ vwliR 1, VC TTliR invliR msliR 1 tliR1 v := all_cons vcgliR1_0.1 (all_cons vcliR1_1 (all_cons vcliR1_2 (all_cons vcgliR1_0.2.1 (all_cons vcliR1_4 (all_cons vcgliR1_0.2.2.1 (all_cons vcgliR1_0.2.2.2.1 (all_cons vcliR1_7 (all_cons vcgliR1_0.2.2.2.2.1 (all_cons vcliR1_9 (all_cons vcgliR1_0.2.2.2.2.2.1 (all_cons vcgliR1_0.2.2.2.2.2.2.1 (all_cons vcliR1_12 (all_cons vcliR1_13 (all_cons vcgliR1_0.2.2.2.2.2.2.2.1 (all_cons vcliR1_15 (all_cons vcgliR1_0.2.2.2.2.2.2.2.2 (all_nil)))))))))))))))))
theorem okliR1 : cfgOk tliR1 = true := by kernel_rfl
theorem sgliR1 : segL cListR.roms cListR (seg TTliR selliR 400 tmliR tliR1) = (true, codesR tmliR (views (seg TTliR selliR 400 tmliR tliR1)), vwliR 1) := by kernel_rfl
theorem vcsliR2 : ∀ v ∈ vwliR 2, VC TTliR invliR msliR 2 tliR2 v := all_cons vcliR2_0 (all_cons vcliR2_1 (all_cons vcliR2_2 (all_nil)))
theorem okliR2 : cfgOk tliR2 = true := by kernel_rfl
theorem sgliR2 : segL cListR.roms cListR (seg TTliR selliR 400 tmliR tliR2) = (true, codesR tmliR (views (seg TTliR selliR 400 tmliR tliR2)), vwliR 2) := by kernel_rfl
theorem vcsliR3 : ∀ v ∈ vwliR 3, VC TTliR invliR msliR 3 tliR3 v := all_cons vcliR3_0 (all_cons vcliR3_1 (all_cons vcliR3_2 (all_nil)))
theorem okliR3 : cfgOk tliR3 = true := by kernel_rfl
theorem sgliR3 : segL cListR.roms cListR (seg TTliR selliR 400 tmliR tliR3) = (true, codesR tmliR (views (seg TTliR selliR 400 tmliR tliR3)), vwliR 3) := by kernel_rfl
theorem vcsliR4 : ∀ v ∈ vwliR 4, VC TTliR invliR msliR 4 tliR4 v := all_cons vcgliR4_0.1 (all_cons vcliR4_1 (all_cons vcliR4_2 (all_cons vcliR4_3 (all_cons vcgliR4_0.2.1 (all_cons vcgliR4_0.2.2.1 (all_cons vcliR4_6 (all_cons vcliR4_7 (all_cons vcgliR4_0.2.2.2.1 (all_cons vcgliR4_0.2.2.2.2.1 (all_cons vcliR4_10 (all_cons vcliR4_11 (all_cons vcliR4_12 (all_cons vcgliR4_0.2.2.2.2.2 (all_nil))))))))))))))
theorem okliR4 : cfgOk tliR4 = true := by kernel_rfl
theorem sgliR4 : segL cListR.roms cListR (seg TTliR selliR 400 tmliR tliR4) = (true, codesR tmliR (views (seg TTliR selliR 400 tmliR tliR4)), vwliR 4) := by kernel_rfl
theorem vcsliR5 : ∀ v ∈ vwliR 5, VC TTliR invliR msliR 5 tliR5 v := all_cons vcgliR5_0.1 (all_cons vcliR5_1 (all_cons vcliR5_2 (all_cons vcliR5_3 (all_cons vcgliR5_0.2.1 (all_cons vcgliR5_0.2.2.1 (all_cons vcliR5_6 (all_cons vcliR5_7 (all_cons vcgliR5_0.2.2.2.1 (all_cons vcgliR5_0.2.2.2.2.1 (all_cons vcliR5_10 (all_cons vcliR5_11 (all_cons vcliR5_12 (all_cons vcgliR5_0.2.2.2.2.2 (all_nil))))))))))))))
theorem okliR5 : cfgOk tliR5 = true := by kernel_rfl
theorem sgliR5 : segL cListR.roms cListR (seg TTliR selliR 400 tmliR tliR5) = (true, codesR tmliR (views (seg TTliR selliR 400 tmliR tliR5)), vwliR 5) := by kernel_rfl
theorem lnliR0 : ∀ ρ, Known TTliR (startF 33 cListR.pat (.lit true :: cListR.pre)) ρ → invliR 0 ρ.lt → Holds ρ (leanOf (Cfg.pc (startF 33 cListR.pat (.lit true :: cListR.pre)))) := by
  intro ρ _ _
  exact (show Holds ρ [] from fun p hp => by cases hp)
theorem lnliR1 : ∀ ρ, Known TTliR tliR1 ρ → invliR 1 ρ.lt → Holds ρ (leanOf (Cfg.pc tliR1)) := by
  intro ρ kn hi
  refine (show Holds ρ [.le (.var .i64 1001) (.lit 9)] from ?_)
  have hi : Nu (ρ.z.rl 0) 0 0 (ρ.i .i64 1001) (ρ.i .u64 1000) ∧ (ρ.z.rl 0).length ≤ 2000 := hi
  have hF : ρ.z.F = oct.Φ := kn.F
  simp only [h_nil, h_cons, d_le, d_eq, d_not, d_var, d_lit, d_cel, d_leq, d_fn, d_and, d_iff, IE.den, LE.den, AL.den, lenV, true_and, and_true, hF, pi2, pi3, pi4, pi5, pi6, pi7, pl1, pi8, pi9, pl3, pi10, pi11, pb1, pl2]
  have h9 := nu9 hi.1
  omega
theorem lnliR2 : ∀ ρ, Known TTliR tliR2 ρ → invliR 2 ρ.lt → Holds ρ (leanOf (Cfg.pc tliR2)) := by
  intro ρ _ _
  exact (show Holds ρ [] from fun p hp => by cases hp)
theorem lnliR3 : ∀ ρ, Known TTliR tliR3 ρ → invliR 3 ρ.lt → Holds ρ (leanOf (Cfg.pc tliR3)) := by
  intro ρ kn hi
  refine (show Holds ρ [.le (.var .i64 1010) (.lit 2000)] from ?_)
  have hi : 1 ≤ (ρ.i .i64 1010) ∧ Tx (ρ.z.rl 0) (ρ.i .i64 1010) (ρ.i .i64 1011) ∧ (ρ.l 1012) = txsT (ρ.z.rl 0) (ρ.i .i64 1010).toNat ∧ (ρ.i .u64 1009) + (ρ.i .i64 1010) = rdV (ρ.z.rl 0) ∧ (rdV (ρ.z.rl 0) ≤ (ρ.i .i64 1) ∨ rdV (ρ.z.rl 0) ≤ 0) ∧ (ρ.z.rl 0).length ≤ 2000 := hi
  have hF : ρ.z.F = oct.Φ := kn.F
  simp only [h_nil, h_cons, d_le, d_eq, d_not, d_var, d_lit, d_cel, d_leq, d_fn, d_and, d_iff, IE.den, LE.den, AL.den, lenV, true_and, and_true, hF, pi2, pi3, pi4, pi5, pi6, pi7, pl1, pi8, pi9, pl3, pi10, pi11, pb1, pl2]
  obtain ⟨hj, t, hw, hn, h1, h2⟩ := hi
  have k1 := tx_le t
  have k2 := tx_rng t
  omega
theorem lnliR4 : ∀ ρ, Known TTliR tliR4 ρ → invliR 4 ρ.lt → Holds ρ (leanOf (Cfg.pc tliR4)) := by
  intro ρ kn hi
  refine (show Holds ρ [.le (.var .i64 1007) (.lit 9)] from ?_)
  have hi : Nu (ρ.z.rl 0) (ρ.i .i64 1003) (ρ.i .i64 1004) (ρ.i .i64 1007) (ρ.i .u64 1008) ∧ Tx (ρ.z.rl 0) 0 (ρ.i .i64 1003) ∧ (ρ.i .u64 1002) = rdV (ρ.z.rl 0) ∧ 1 ≤ (ρ.i .u64 1002) ∧ (rdV (ρ.z.rl 0) ≤ (ρ.i .i64 1) ∨ rdV (ρ.z.rl 0) ≤ 0) ∧ (ρ.z.rl 0).length ≤ 2000 := hi
  have hF : ρ.z.F = oct.Φ := kn.F
  simp only [h_nil, h_cons, d_le, d_eq, d_not, d_var, d_lit, d_cel, d_leq, d_fn, d_and, d_iff, IE.den, LE.den, AL.den, lenV, true_and, and_true, hF, pi2, pi3, pi4, pi5, pi6, pi7, pl1, pi8, pi9, pl3, pi10, pi11, pb1, pl2]
  have h9 := nu9 hi.1
  omega
theorem lnliR5 : ∀ ρ, Known TTliR tliR5 ρ → invliR 5 ρ.lt → Holds ρ (leanOf (Cfg.pc tliR5)) := by
  intro ρ kn hi
  refine (show Holds ρ [.le (.var .i64 1016) (.lit 9), .le (.var .i64 1010) (.lit 2000)] from ?_)
  have hi : 1 ≤ (ρ.i .i64 1010) ∧ Nu (ρ.z.rl 0) (ρ.i .i64 1011) (ρ.i .i64 1013) (ρ.i .i64 1016) (ρ.i .u64 1017) ∧ Tx (ρ.z.rl 0) (ρ.i .i64 1010) (ρ.i .i64 1011) ∧ (ρ.l 1012) = txsT (ρ.z.rl 0) (ρ.i .i64 1010).toNat ∧ (ρ.i .u64 1009) + (ρ.i .i64 1010) = rdV (ρ.z.rl 0) ∧ 1 ≤ (ρ.i .u64 1009) ∧ (rdV (ρ.z.rl 0) ≤ (ρ.i .i64 1) ∨ rdV (ρ.z.rl 0) ≤ 0) ∧ (ρ.z.rl 0).length ≤ 2000 := hi
  have hF : ρ.z.F = oct.Φ := kn.F
  simp only [h_nil, h_cons, d_le, d_eq, d_not, d_var, d_lit, d_cel, d_leq, d_fn, d_and, d_iff, IE.den, LE.den, AL.den, lenV, true_and, and_true, hF, pi2, pi3, pi4, pi5, pi6, pi7, pl1, pi8, pi9, pl3, pi10, pi11, pb1, pl2]
  obtain ⟨hj, u, t, hw, hn, h0, h1, h2⟩ := hi
  have h9 := nu9 u
  have k1 := tx_le t
  have k2 := tx_rng t
  omega
theorem told_liR : Sx.Told oct.Φ cListR := by
  refine told_of (cs := []) (all_nil) (sel := selliR) 400 tmliR invliR msliR vwliR 0 (pc0 := (.lit true :: cListR.pre)) (by kernel_rfl) (by kernel_rfl) (by kernel_rfl) post_liR ?_ ?_ ?_ rfl (fun ρ _ h => h.cons (p := .lit true) (by simp only [BE.den])) (fun _ _ _ _ => trivial) ?_
  · intro k C h
    have := lk_mem h
    simp only [tmliR, List.mem_cons, Prod.mk.injEq, List.not_mem_nil, or_false] at this
    rcases this with ⟨rfl, rfl⟩ | ⟨rfl, rfl⟩ | ⟨rfl, rfl⟩ | ⟨rfl, rfl⟩ | ⟨rfl, rfl⟩ | ⟨rfl, rfl⟩
    · exact okliR0
    · exact okliR1
    · exact okliR2
    · exact okliR3
    · exact okliR4
    · exact okliR5
  · intro k C h
    have := lk_mem h
    simp only [tmliR, List.mem_cons, Prod.mk.injEq, List.not_mem_nil, or_false] at this
    rcases this with ⟨rfl, rfl⟩ | ⟨rfl, rfl⟩ | ⟨rfl, rfl⟩ | ⟨rfl, rfl⟩ | ⟨rfl, rfl⟩ | ⟨rfl, rfl⟩
    · exact sgliR0
    · exact sgliR1
    · exact sgliR2
    · exact sgliR3
    · exact sgliR4
    · exact sgliR5
  · intro k C h
    have := lk_mem h
    simp only [tmliR, List.mem_cons, Prod.mk.injEq, List.not_mem_nil, or_false] at this
    rcases this with ⟨rfl, rfl⟩ | ⟨rfl, rfl⟩ | ⟨rfl, rfl⟩ | ⟨rfl, rfl⟩ | ⟨rfl, rfl⟩ | ⟨rfl, rfl⟩
    · exact vcsliR0
    · exact vcsliR1
    · exact vcsliR2
    · exact vcsliR3
    · exact vcsliR4
    · exact vcsliR5
  · intro k C h
    have := lk_mem h
    simp only [tmliR, List.mem_cons, Prod.mk.injEq, List.not_mem_nil, or_false] at this
    rcases this with ⟨rfl, rfl⟩ | ⟨rfl, rfl⟩ | ⟨rfl, rfl⟩ | ⟨rfl, rfl⟩ | ⟨rfl, rfl⟩ | ⟨rfl, rfl⟩
    · exact lnliR0
    · exact lnliR1
    · exact lnliR2
    · exact lnliR3
    · exact lnliR4
    · exact lnliR5
noncomputable section
abbrev TTliN : Tab := T oct.Φ cListN.roms []
def tliN1 : Cfg := { top := ⟨60, over (opqS 10000 64) [(0, (SV.ptr 0 0)), (4, (SV.int .u64 (IE.var .u64 1000))), (5, (SV.int .i64 (IE.lit 110))), (21, (SV.rom 0 (IE.lit 0) (IE.len (LE.rom 0)) (some (IE.len (LE.rom 0))))), (22, (SV.int .i64 (IE.len (LE.rom 0)))), (23, (SV.int .i64 (IE.var .i64 1001)))], ogt (loopTodo (bodyOf (T oct.Φ [] []) 60) 0), [], false, none⟩, rest := [⟨33, over (opqS 30000 37) [(1, (SV.int .i64 (IE.var .i64 1))), (7, (SV.ptr 0 0))], ogt (callTodo (bodyOf (T oct.Φ [] []) 33) 2 [0, 1, 2, 3, 4, 5]), [], false, none⟩], heap := [(0, .cells [(SV.rom 0 (IE.lit 0) (IE.len (LE.rom 0)) none), (SV.int .i64 (IE.lit 0))] 110)], next := 1, pc := .lit true :: ([] ++ [(BE.le (IE.len (LE.rom 0)) (IE.lit 2000)), (BE.le (IE.lit 1) (IE.len (LE.rom 0))), (BE.not (BE.fn 1 (AL.lst (LE.rom 0) (AL.int .i64 (IE.var .i64 1) AL.nil)))), (BE.le (IE.lit 0) (IE.var .i64 1001)), (BE.le (IE.var .i64 1001) (IE.len (LE.rom 0)))] ++ (.and (.lit true) (.lit true)) :: [.le (.var .i64 1001) (.lit 9)]) }
def tliN2 : Cfg := { top := ⟨64, over (opqS 10000 26) [(0, (SV.int .u64 (IE.var .u64 1002))), (1, (SV.func (Go.Fn.func 65) [] [(SV.ptr 0 0)])), (6, (SV.const (Go.Value.slice none 0 0)))], ogt (loopTodo (bodyOf (T oct.Φ [] []) 64) 0), [], false, none⟩, rest := [⟨33, over (opqS 30000 37) [(7, (SV.ptr 0 0))], ogt (callTodo (bodyOf (T oct.Φ [] []) 33) 7 [2, 3, 4, 5, 6, 7]), [], false, none⟩], heap := [(0, .cells [(SV.rom 0 (IE.lit 0) (IE.len (LE.rom 0)) none), (SV.int .i64 (IE.var .i64 1003))] 110)], next := 1, pc := .lit true :: ([] ++ [(BE.not (BE.fn 1 (AL.lst (LE.rom 0) (AL.int .i64 (IE.var .i64 1) AL.nil)))), (BE.le (IE.lit 1) (IE.len (LE.rom 0))), (BE.le (IE.len (LE.rom 0)) (IE.lit 2000)), (BE.le (IE.lit 0) (IE.var .i64 1003)), (BE.le (IE.var .i64 1003) (IE.len (LE.rom 0)))]) }
def tliN3 : Cfg := { top := ⟨64, over (opqS 10000 26) [(0, (SV.int .u64 (IE.var .u64 1009))), (1, (SV.func (Go.Fn.func 65) [] [(SV.ptr 0 0)])), (6, (SV.sll 2 3 1 (IE.lit 0) (IE.var .i64 1010) none))], ogt (loopTodo (bodyOf (T oct.Φ [] []) 64) 0), [], false, none⟩, rest := [⟨33, over (opqS 30000 37) [(7, (SV.ptr 0 0))], ogt (callTodo (bodyOf (T oct.Φ [] []) 33) 7 [2, 3, 4, 5, 6, 7]), [], false, none⟩], heap := [(0, .cells [(SV.rom 0 (IE.lit 0) (IE.len (LE.rom 0)) none), (SV.int .i64 (IE.var .i64 1011))] 110), (2, .rowl (LE.var 1012) (IE.var .i64 1010) [CK.str] 9 3 1)], next := 4, pc := .lit true :: ([] ++ [(BE.not (BE.fn 1 (AL.lst (LE.rom 0) (AL.int .i64 (IE.var .i64 1) AL.nil)))), (BE.le (IE.lit 1) (IE.len (LE.rom 0))), (BE.le (IE.len (LE.rom 0)) (IE.lit 2000)), (BE.le (IE.lit 0) (IE.var .i64 1010)), (BE.le (IE.lit 0) (IE.var .i64 1011)), (BE.le (IE.var .i64 1011) (IE.len (LE.rom 0)))] ++ (.and (.lit true) (.lit true)) :: [.le (.var .i64 1010) (.lit 2000)]) }
def tliN4 : Cfg := { top := ⟨60, over (opqS 10000 64) [(0, (SV.ptr 0 0)), (4, (SV.int .u64 (IE.var .u64 1008))), (5, (SV.int .i64 (IE.lit 110))), (21, (SV.rom 0 (IE.var .i64 1004) (IE.sub (IE.len (LE.rom 0)) (IE.var .i64 1003)) (some (IE.var .i64 1006)))), (22, (SV.int .i64 (IE.sub (IE.len (LE.rom 0)) (IE.var .i64 1003)))), (23, (SV.int .i64 (IE.var .i64 1007)))], ogt (loopTodo (bodyOf (T oct.Φ [] []) 60) 0), [], false, none⟩, rest := [⟨62, over (opqS 30000 48) [(0, (SV.ptr 0 0))], ogt (callTodo (bodyOf (T oct.Φ [] []) 62) 1 [1, 2, 3, 4, 5, 6]), [], false, none⟩, ⟨65, over (opqS 50000 6) [], ogt (callTodo (bodyOf (T oct.Φ [] []) 65) 1 [0, 1, 2, 3, 4]), [], false, none⟩, ⟨64, over (opqS 70000 26) [(0, (SV.int .u64 (IE.var .u64 1002))), (1, (SV.func (Go.Fn.func 65) [] [(SV.ptr 0 0)])), (6, (SV.const (Go.Value.slice none 0 0)))], ogt (callTodo (bodyOf (T oct.Φ [] []) 64) 4 [1, 2, 3, 4, 5, 6]), [], false, none⟩, ⟨33, over (opqS 90000 37) [(7, (SV.ptr 0 0))], ogt (callTodo (bodyOf (T oct.Φ [] []) 33) 7 [2, 3, 4, 5, 6, 7]), [], false, none⟩], heap := [(0, .cells [(SV.rom 0 (IE.lit 0) (IE.len (LE.rom 0)) none), (SV.int .i64 (IE.var .i64 1003))] 110)], next := 1, pc := .lit true :: ([.le (.var .i64 1004) (.var .i64 1003)] ++ [(BE.le (IE.len (LE.rom 0)) (IE.lit 2000)), (BE.le (IE.lit 1) (IE.len (LE.rom 0))), (BE.not (BE.fn 1 (AL.lst (LE.rom 0) (AL.int .i64 (IE.var .i64 1) AL.nil)))), (BE.not (BE.le (IE.var .u64 1002) (IE.lit 0))), (BE.le (IE.lit 0) (IE.var .i64 1003)), (BE.le (IE.var .i64 1003) (IE.len (LE.rom 0))), (BE.le (IE.lit 0) (IE.var .i64 1004)), (BE.le (IE.lit 0) (IE.var .i64 1006)), (BE.le (IE.lit 0) (IE.var .i64 1007))] ++ (.and (.lit true) (.lit true)) :: [.le (.var .i64 1007) (.lit 9)]) }
def tliN5 : Cfg := { top := ⟨60, over (opqS 10000 64) [(0, (SV.ptr 0 0)), (4, (SV.int .u64 (IE.var .u64 1017))), (5, (SV.int .i64 (IE.lit 110))), (21, (SV.rom 0 (IE.var .i64 1013) (IE.sub (IE.len (LE.rom 0)) (IE.var .i64 1011)) (some (IE.var .i64 1015)))), (22, (SV.int .i64 (IE.sub (IE.len (LE.rom 0)) (IE.var .i64 1011)))), (23, (SV.int .i64 (IE.var .i64 1016)))], ogt (loopTodo (bodyOf (T oct.Φ [] []) 60) 0), [], false, none⟩, rest := [⟨62, over (opqS 30000 48) [(0, (SV.ptr 0 0))], ogt (callTodo (bodyOf (T oct.Φ [] []) 62) 1 [1, 2, 3, 4, 5, 6]), [], false, none⟩, ⟨65, over (opqS 50000 6) [], ogt (callTodo (bodyOf (T oct.Φ [] []) 65) 1 [0, 1, 2, 3, 4]), [], false, none⟩, ⟨64, over (opqS 70000 26) [(0, (SV.int .u64 (IE.var .u64 1009))), (1, (SV.func (Go.Fn.func 65) [] [(SV.ptr 0 0)])), (6, (SV.sll 2 3 1 (IE.lit 0) (IE.var .i64 1010) none))], ogt (callTodo (bodyOf (T oct.Φ [] []) 64) 4 [1, 2, 3, 4, 5, 6]), [], false, none⟩, ⟨33, over (opqS 90000 37) [(7, (SV.ptr 0 0))], ogt (callTodo (bodyOf (T oct.Φ [] []) 33) 7 [2, 3, 4, 5, 6, 7]), [], false, none⟩], heap := [(0, .cells [(SV.rom 0 (IE.lit 0) (IE.len (LE.rom 0)) none), (SV.int .i64 (IE.var .i64 1011))] 110), (2, .rowl (LE.var 1012) (IE.var .i64 1010) [CK.str] 9 3 1)], next := 4, pc := .lit true :: ([.le (.var .i64 1013) (.var .i64 1011)] ++ [(BE.le (IE.len (LE.rom 0)) (IE.lit 2000)), (BE.le (IE.lit 1) (IE.len (LE.rom 0))), (BE.not (BE.fn 1 (AL.lst (LE.rom 0) (AL.int .i64 (IE.var .i64 1) AL.nil)))), (BE.not (BE.le (IE.var .u64 1009) (IE.lit 0))), (BE.le (IE.lit 0) (IE.var .i64 1010)), (BE.le (IE.lit 0) (IE.var .i64 1011)), (BE.le (IE.var .i64 1011) (IE.len (LE.rom 0))), (BE.le (IE.var .i64 1010) (IE.lit 2000)), (BE.le (IE.lit 0) (IE.var .i64 1013)), (BE.le (IE.lit 0) (IE.var .i64 1015)), (BE.le (IE.lit 0) (IE.var .i64 1016))] ++ (.and (.lit true) (.lit true)) :: [.le (.var .i64 1016) (.lit 9), .le (.var .i64 1010) (.lit 2000)]) }
def tmliN : List (Nat × Cfg) := [(0, startF 33 cListN.pat (.lit true :: cListN.pre)), (1, tliN1), (2, tliN2), (3, tliN3), (4, tliN4), (5, tliN5)]
def selliN : Sel := [(60, 1, 1, 1), (64, 1, 769001, 2), (64, 1, 770001, 3), (60, 1, 99073004, 4), (60, 1, 99074004, 5)]
def wliN0_0 : VW := (VW.cut 1 [(BE.lit true), (BE.not (BE.fn 1 (AL.lst (LE.rom 0) (AL.int .i64 (IE.var .i64 1) AL.nil)))), (BE.le (IE.lit 1) (IE.len (LE.rom 0))), (BE.le (IE.len (LE.rom 0)) (IE.lit 2000))] (Sx.Sub.mk [(.i64, (1001, (IE.lit 0))), (.u64, (1000, (IE.lit 0)))] [] [] [] [] []))
def vwliN0 : List VW := [wliN0_0]
def pcliN1_0 : List BE := [(BE.lit true), (BE.le (IE.len (LE.rom 0)) (IE.lit 2000)), (BE.le (IE.lit 1) (IE.len (LE.rom 0))), (BE.not (BE.fn 1 (AL.lst (LE.rom 0) (AL.int .i64 (IE.var .i64 1) AL.nil)))), (BE.le (IE.lit 0) (IE.var .i64 1001)), (BE.le (IE.var .i64 1001) (IE.len (LE.rom 0))), (BE.and (BE.lit true) (BE.lit true)), (BE.le (IE.var .i64 1001) (IE.lit 9))]
def pcliN1_1 : List BE := ((BE.not (BE.le (IE.len (LE.rom 0)) (IE.var .i64 1001))) :: pcliN1_0)
def pcliN1_2 : List BE := ((BE.le (IE.var .i64 1001) (IE.lit 0)) :: pcliN1_1)
def pcliN1_3 : List BE := ((BE.not (BE.le (IE.var .i64 1001) (IE.lit 0))) :: pcliN1_1)
def pcliN1_4 : List BE := ((BE.not (BE.le (IE.lit 128) (IE.cel .u8 (LE.rom 0) (IE.var .i64 1001) 0))) :: pcliN1_2)
def pcliN1_5 : List BE := ((BE.not (BE.eq (IE.cel .u8 (LE.rom 0) (IE.var .i64 1001) 0) (IE.lit 0))) :: pcliN1_3)
def pcliN1_6 : List BE := ((BE.le (IE.var .i64 1) (IE.lit 0)) :: pcliN1_4)
def pcliN1_7 : List BE := ((BE.not (BE.le (IE.var .i64 1) (IE.lit 0))) :: pcliN1_4)
def pcliN1_8 : List BE := ((BE.eq (IE.var .i64 1001) (IE.lit 9)) :: pcliN1_5)
def pcliN1_9 : List BE := ((BE.not (BE.eq (IE.var .i64 1001) (IE.lit 9))) :: pcliN1_5)
def pcliN1_10 : List BE := ((BE.le (IE.cel .u8 (LE.rom 0) (IE.var .i64 1001) 0) (IE.lit 1)) :: pcliN1_8)
def pcliN1_11 : List BE := ((BE.not (BE.le (IE.lit 128) (IE.cel .u8 (LE.rom 0) (IE.var .i64 1001) 0))) :: pcliN1_9)
def pcliN1_12 : List BE := ((BE.le (IE.var .i64 1) (IE.lit 0)) :: pcliN1_10)
def pcliN1_13 : List BE := ((BE.not (BE.le (IE.var .i64 1) (IE.lit 0))) :: pcliN1_10)
def pcliN1_14 : List BE := ((BE.le (IE.var .i64 1) (IE.lit 0)) :: pcliN1_11)
def pcliN1_15 : List BE := ((BE.not (BE.le (IE.var .i64 1) (IE.lit 0))) :: pcliN1_11)
def wliN1_0 : VW := (VW.done ((BE.le (IE.len (LE.rom 0)) (IE.var .i64 1001)) :: pcliN1_0) (some [(G.i (IE.fn .i64 11 (AL.lst (LE.rom 0) (AL.int .i64 (IE.var .i64 1) AL.nil))) (IE.lit 0)), (G.i (IE.fn .i64 10 (AL.lst (LE.rom 0) (AL.int .i64 (IE.var .i64 1) AL.nil))) (IE.lit 110))]))
def wliN1_1 : VW := (VW.cut 1 ((BE.le (IE.lit 128) (IE.cel .u8 (LE.rom 0) (IE.var .i64 1001) 0)) :: pcliN1_2) (Sx.Sub.mk [(.i64, (1001, (IE.add (IE.var .i64 1001) (IE.lit 1)))), (.u64, (1000, (IE.bin BinOp.or .u64 (IE.var .u64 1000) (IE.bin BinOp.shl .u64 (IE.bin BinOp.and .u8 (IE.cel .u8 (LE.rom 0) (IE.var .i64 1001) 0) (IE.lit 127)) (IE.mul (IE.lit 7) (IE.var .i64 1001))))))] [] [] [] [] []))
def wliN1_2 : VW := (VW.cut 2 ((BE.le (IE.bin BinOp.or .u64 (IE.var .u64 1000) (IE.bin BinOp.shl .u64 (IE.bin BinOp.and .u8 (IE.cel .u8 (LE.rom 0) (IE.var .i64 1001) 0) (IE.lit 127)) (IE.mul (IE.lit 7) (IE.var .i64 1001)))) (IE.lit 0)) :: pcliN1_6) (Sx.Sub.mk [(.i64, (1003, (IE.add (IE.lit 0) (IE.add (IE.var .i64 1001) (IE.lit 1))))), (.u64, (1002, (IE.bin BinOp.or .u64 (IE.var .u64 1000) (IE.bin BinOp.shl .u64 (IE.bin BinOp.and .u8 (IE.cel .u8 (LE.rom 0) (IE.var .i64 1001) 0) (IE.lit 127)) (IE.mul (IE.lit 7) (IE.var .i64 1001))))))] [] [] [] [] []))
def wliN1_3 : VW := (VW.done ((BE.not (BE.le (IE.bin BinOp.or .u64 (IE.var .u64 1000) (IE.bin BinOp.shl .u64 (IE.bin BinOp.and .u8 (IE.cel .u8 (LE.rom 0) (IE.var .i64 1001) 0) (IE.lit 127)) (IE.mul (IE.lit 7) (IE.var .i64 1001)))) (IE.lit 0))) :: pcliN1_6) (some [(G.i (IE.fn .i64 11 (AL.lst (LE.rom 0) (AL.int .i64 (IE.var .i64 1) AL.nil))) (IE.lit 0)), (G.i (IE.fn .i64 10 (AL.lst (LE.rom 0) (AL.int .i64 (IE.var .i64 1) AL.nil))) (IE.lit 3))]))
def wliN1_4 : VW := (VW.cut 2 ((BE.le (IE.bin BinOp.or .u64 (IE.var .u64 1000) (IE.bin BinOp.shl .u64 (IE.bin BinOp.and .u8 (IE.cel .u8 (LE.rom 0) (IE.var .i64 1001) 0) (IE.lit 127)) (IE.mul (IE.lit 7) (IE.var .i64 1001)))) (IE.var .i64 1)) :: pcliN1_7) (Sx.Sub.mk [(.i64, (1003, (IE.add (IE.lit 0) (IE.add (IE.var .i64 1001) (IE.lit 1))))), (.u64, (1002, (IE.bin BinOp.or .u64 (IE.var .u64 1000) (IE.bin BinOp.shl .u64 (IE.bin BinOp.and .u8 (IE.cel .u8 (LE.rom 0) (IE.var .i64 1001) 0) (IE.lit 127)) (IE.mul (IE.lit 7) (IE.var .i64 1001))))))] [] [] [] [] []))
def wliN1_5 : VW := (VW.done ((BE.not (BE.le (IE.bin BinOp.or .u64 (IE.var .u64 1000) (IE.bin BinOp.shl .u64 (IE.bin BinOp.and .u8 (IE.cel .u8 (LE.rom 0) (IE.var .i64 1001) 0) (IE.lit 127)) (IE.mul (IE.lit 7) (IE.var .i64 1001)))) (IE.var .i64 1))) :: pcliN1_7) (some [(G.i (IE.fn .i64 11 (AL.lst (LE.rom 0) (AL.int .i64 (IE.var .i64 1) AL.nil))) (IE.lit 0)), (G.i (IE.fn .i64 10 (AL.lst (LE.rom 0) (AL.int .i64 (IE.var .i64 1) AL.nil))) (IE.lit 3))]))
def wliN1_6 : VW := (VW.done ((BE.eq (IE.cel .u8 (LE.rom 0) (IE.var .i64 1001) 0) (IE.lit 0)) :: pcliN1_3) (some [(G.i (IE.fn .i64 11 (AL.lst (LE.rom 0) (AL.int .i64 (IE.var .i64 1) AL.nil))) (IE.lit 0)), (G.i (IE.fn .i64 10 (AL.lst (LE.rom 0) (AL.int .i64 (IE.var .i64 1) AL.nil))) (IE.lit 111))]))
def wliN1_7 : VW := (VW.cut 2 ((BE.le (IE.bin BinOp.or .u64 (IE.var .u64 1000) (IE.bin BinOp.shl .u64 (IE.bin BinOp.and .u8 (IE.cel .u8 (LE.rom 0) (IE.var .i64 1001) 0) (IE.lit 127)) (IE.mul (IE.lit 7) (IE.var .i64 1001)))) (IE.lit 0)) :: pcliN1_12) (Sx.Sub.mk [(.i64, (1003, (IE.add (IE.lit 0) (IE.add (IE.var .i64 1001) (IE.lit 1))))), (.u64, (1002, (IE.bin BinOp.or .u64 (IE.var .u64 1000) (IE.bin BinOp.shl .u64 (IE.bin BinOp.and .u8 (IE.cel .u8 (LE.rom 0) (IE.var .i64 1001) 0) (IE.lit 127)) (IE.mul (IE.lit 7) (IE.var .i64 1001))))))] [] [] [] [] []))
def wliN1_8 : VW := (VW.done ((BE.not (BE.le (IE.bin BinOp.or .u64 (IE.var .u64 1000) (IE.bin BinOp.shl .u64 (IE.bin BinOp.and .u8 (IE.cel .u8 (LE.rom 0) (IE.var .i64 1001) 0) (IE.lit 127)) (IE.mul (IE.lit 7) (IE.var .i64 1001)))) (IE.lit 0))) :: pcliN1_12) (some [(G.i (IE.fn .i64 11 (AL.lst (LE.rom 0) (AL.int .i64 (IE.var .i64 1) AL.nil))) (IE.lit 0)), (G.i (IE.fn .i64 10 (AL.lst (LE.rom 0) (AL.int .i64 (IE.var .i64 1) AL.nil))) (IE.lit 3))]))
def wliN1_9 : VW := (VW.cut 2 ((BE.le (IE.bin BinOp.or .u64 (IE.var .u64 1000) (IE.bin BinOp.shl .u64 (IE.bin BinOp.and .u8 (IE.cel .u8 (LE.rom 0) (IE.var .i64 1001) 0) (IE.lit 127)) (IE.mul (IE.lit 7) (IE.var .i64 1001)))) (IE.var .i64 1)) :: pcliN1_13) (Sx.Sub.mk [(.i64, (1003, (IE.add (IE.lit 0) (IE.add (IE.var .i64 1001) (IE.lit 1))))), (.u64, (1002, (IE.bin BinOp.or .u64 (IE.var .u64 1000) (IE.bin BinOp.shl .u64 (IE.bin BinOp.and .u8 (IE.cel .u8 (LE.rom 0) (IE.var .i64 1001) 0) (IE.lit 127)) (IE.mul (IE.lit 7) (IE.var .i64 1001))))))] [] [] [] [] []))
def wliN1_10 : VW := (VW.done ((BE.not (BE.le (IE.bin BinOp.or .u64 (IE.var .u64 1000) (IE.bin BinOp.shl .u64 (IE.bin BinOp.and .u8 (IE.cel .u8 (LE.rom 0) (IE.var .i64 1001) 0) (IE.lit 127)) (IE.mul (IE.lit 7) (IE.var .i64 1001)))) (IE.var .i64 1))) :: pcliN1_13) (some [(G.i (IE.fn .i64 11 (AL.lst (LE.rom 0) (AL.int .i64 (IE.var .i64 1) AL.nil))) (IE.lit 0)), (G.i (IE.fn .i64 10 (AL.lst (LE.rom 0) (AL.int .i64 (IE.var .i64 1) AL.nil))) (IE.lit 3))]))
def wliN1_11 : VW := (VW.done ((BE.not (BE.le (IE.cel .u8 (LE.rom 0) (IE.var .i64 1001) 0) (IE.lit 1))) :: pcliN1_8) (some [(G.i (IE.fn .i64 11 (AL.lst (LE.rom 0) (AL.int .i64 (IE.var .i64 1) AL.nil))) (IE.lit 0)), (G.i (IE.fn .i64 10 (AL.lst (LE.rom 0) (AL.int .i64 (IE.var .i64 1) AL.nil))) (IE.lit 111))]))
def wliN1_12 : VW := (VW.cut 1 ((BE.le (IE.lit 128) (IE.cel .u8 (LE.rom 0) (IE.var .i64 1001) 0)) :: pcliN1_9) (Sx.Sub.mk [(.i64, (1001, (IE.add (IE.var .i64 1001) (IE.lit 1)))), (.u64, (1000, (IE.bin BinOp.or .u64 (IE.var .u64 1000) (IE.bin BinOp.shl .u64 (IE.bin BinOp.and .u8 (IE.cel .u8 (LE.rom 0) (IE.var .i64 1001) 0) (IE.lit 127)) (IE.mul (IE.lit 7) (IE.var .i64 1001))))))] [] [] [] [] []))
def wliN1_13 : VW := (VW.cut 2 ((BE.le (IE.bin BinOp.or .u64 (IE.var .u64 1000) (IE.bin BinOp.shl .u64 (IE.bin BinOp.and .u8 (IE.cel .u8 (LE.rom 0) (IE.var .i64 1001) 0) (IE.lit 127)) (IE.mul (IE.lit 7) (IE.var .i64 1001)))) (IE.lit 0)) :: pcliN1_14) (Sx.Sub.mk [(.i64, (1003, (IE.add (IE.lit 0) (IE.add (IE.var .i64 1001) (IE.lit 1))))), (.u64, (1002, (IE.bin BinOp.or .u64 (IE.var .u64 1000) (IE.bin BinOp.shl .u64 (IE.bin BinOp.and .u8 (IE.cel .u8 (LE.rom 0) (IE.var .i64 1001) 0) (IE.lit 127)) (IE.mul (IE.lit 7) (IE.var .i64 1001))))))] [] [] [] [] []))
def wliN1_14 : VW := (VW.done ((BE.not (BE.le (IE.bin BinOp.or .u64 (IE.var .u64 1000) (IE.bin BinOp.shl .u64 (IE.bin BinOp.and .u8 (IE.cel .u8 (LE.rom 0) (IE.var .i64 1001) 0) (IE.lit 127)) (IE.mul (IE.lit 7) (IE.var .i64 1001)))) (IE.lit 0))) :: pcliN1_14) (some [(G.i (IE.fn .i64 11 (AL.lst (LE.rom 0) (AL.int .i64 (IE.var .i64 1) AL.nil))) (IE.lit 0)), (G.i (IE.fn .i64 10 (AL.lst (LE.rom 0) (AL.int .i64 (IE.var .i64 1) AL.nil))) (IE.lit 3))]))
def wliN1_15 : VW := (VW.cut 2 ((BE.le (IE.bin BinOp.or .u64 (IE.var .u64 1000) (IE.bin BinOp.shl .u64 (IE.bin BinOp.and .u8 (IE.cel .u8 (LE.rom 0) (IE.var .i64 1001) 0) (IE.lit 127)) (IE.mul (IE.lit 7) (IE.var .i64 1001)))) (IE.var .i64 1)) :: pcliN1_15) (Sx.Sub.mk [(.i64, (1003, (IE.add (IE.lit 0) (IE.add (IE.var .i64 1001) (IE.lit 1))))), (.u64, (1002, (IE.bin BinOp.or .u64 (IE.var .u64 1000) (IE.bin BinOp.shl .u64 (IE.bin BinOp.and .u8 (IE.cel .u8 (LE.rom 0) (IE.var .i64 1001) 0) (IE.lit 127)) (IE.mul (IE.lit 7) (IE.var .i64 1001))))))] [] [] [] [] []))
def wliN1_16 : VW := (VW.done ((BE.not (BE.le (IE.bin BinOp.or .u64 (IE.var .u64 1000) (IE.bin BinOp.shl .u64 (IE.bin BinOp.and .u8 (IE.cel .u8 (LE.rom 0) (IE.var .i64 1001) 0) (IE.lit 127)) (IE.mul (IE.lit 7) (IE.var .i64 1001)))) (IE.var .i64 1))) :: pcliN1_15) (some [(G.i (IE.fn .i64 11 (AL.lst (LE.rom 0) (AL.int .i64 (IE.var .i64 1) AL.nil))) (IE.lit 0)), (G.i (IE.fn .i64 10 (AL.lst (LE.rom 0) (AL.int .i64 (IE.var .i64 1) AL.nil))) (IE.lit 3))]))
def vwliN1 : List VW := [wliN1_0, wliN1_1, wliN1_2, wliN1_3, wliN1_4, wliN1_5, wliN1_6, wliN1_7, wliN1_8, wliN1_9, wliN1_10, wliN1_11, wliN1_12, wliN1_13, wliN1_14, wliN1_15, wliN1_16]
def pcliN2_0 : List BE := [(BE.lit true), (BE.not (BE.fn 1 (AL.lst (LE.rom 0) (AL.int .i64 (IE.var .i64 1) AL.nil)))), (BE.le (IE.lit 1) (IE.len (LE.rom 0))), (BE.le (IE.len (LE.rom 0)) (IE.lit 2000)), (BE.le (IE.lit 0) (IE.var .i64 1003)), (BE.le (IE.var .i64 1003) (IE.len (LE.rom 0)))]
def pcliN2_1 : List BE := ((BE.not (BE.le (IE.var .u64 1002) (IE.lit 0))) :: pcliN2_0)
def wliN2_0 : VW := (VW.done ((BE.le (IE.var .u64 1002) (IE.lit 0)) :: pcliN2_0) (some [(G.i (IE.fn .i64 11 (AL.lst (LE.rom 0) (AL.int .i64 (IE.var .i64 1) AL.nil))) (IE.var .i64 1003)), (G.i (IE.fn .i64 10 (AL.lst (LE.rom 0) (AL.int .i64 (IE.var .i64 1) AL.nil))) (IE.lit 0))]))
def wliN2_1 : VW := (VW.cut 4 ((BE.eq (IE.len (LE.rom 0)) (IE.var .i64 1003)) :: pcliN2_1) (Sx.Sub.mk [(.i64, (1003, (IE.var .i64 1003))), (.u64, (1002, (IE.var .u64 1002))), (.i64, (1007, (IE.lit 0))), (.i64, (1006, (IE.lit 0))), (.i64, (1004, (IE.lit 0))), (.u64, (1008, (IE.lit 0)))] [] [] [] [] []))
def wliN2_2 : VW := (VW.cut 4 ((BE.not (BE.eq (IE.len (LE.rom 0)) (IE.var .i64 1003))) :: pcliN2_1) (Sx.Sub.mk [(.i64, (1003, (IE.var .i64 1003))), (.u64, (1002, (IE.var .u64 1002))), (.i64, (1007, (IE.lit 0))), (.i64, (1006, (IE.sub (IE.len (LE.rom 0)) (IE.var .i64 1003)))), (.i64, (1004, (IE.var .i64 1003))), (.u64, (1008, (IE.lit 0)))] [] [] [] [] []))
def vwliN2 : List VW := [wliN2_0, wliN2_1, wliN2_2]
def pcliN3_0 : List BE := [(BE.lit true), (BE.not (BE.fn 1 (AL.lst (LE.rom 0) (AL.int .i64 (IE.var .i64 1) AL.nil)))), (BE.le (IE.lit 1) (IE.len (LE.rom 0))), (BE.le (IE.len (LE.rom 0)) (IE.lit 2000)), (BE.le (IE.lit 0) (IE.var .i64 1010)), (BE.le (IE.lit 0) (IE.var .i64 1011)), (BE.le (IE.var .i64 1011) (IE.len (LE.rom 0))), (BE.and (BE.lit true) (BE.lit true)), (BE.le (IE.var .i64 1010) (IE.lit 2000))]
def pcliN3_1 : List BE := ((BE.not (BE.le (IE.var .u64 1009) (IE.lit 0))) :: pcliN3_0)
def wliN3_0 : VW := (VW.done ((BE.le (IE.var .u64 1009) (IE.lit 0)) :: pcliN3_0) (some [(G.b (BE.lit true) (BE.lit false))]))
def wliN3_1 : VW := (VW.cut 5 ((BE.eq (IE.len (LE.rom 0)) (IE.var .i64 1011)) :: pcliN3_1) (Sx.Sub.mk [(.i64, (1011, (IE.var .i64 1011))), (.i64, (1010, (IE.var .i64 1010))), (.u64, (1009, (IE.var .u64 1009))), (.i64, (1016, (IE.lit 0))), (.i64, (1015, (IE.lit 0))), (.i64, (1013, (IE.lit 0))), (.u64, (1017, (IE.lit 0)))] [] [(1012, (LE.var 1012))] [] [] []))
def wliN3_2 : VW := (VW.cut 5 ((BE.not (BE.eq (IE.len (LE.rom 0)) (IE.var .i64 1011))) :: pcliN3_1) (Sx.Sub.mk [(.i64, (1011, (IE.var .i64 1011))), (.i64, (1010, (IE.var .i64 1010))), (.u64, (1009, (IE.var .u64 1009))), (.i64, (1016, (IE.lit 0))), (.i64, (1015, (IE.sub (IE.len (LE.rom 0)) (IE.var .i64 1011)))), (.i64, (1013, (IE.var .i64 1011))), (.u64, (1017, (IE.lit 0)))] [] [(1012, (LE.var 1012))] [] [] []))
def vwliN3 : List VW := [wliN3_0, wliN3_1, wliN3_2]
def pcliN4_0 : List BE := [(BE.lit true), (BE.le (IE.var .i64 1004) (IE.var .i64 1003)), (BE.le (IE.len (LE.rom 0)) (IE.lit 2000)), (BE.le (IE.lit 1) (IE.len (LE.rom 0))), (BE.not (BE.fn 1 (AL.lst (LE.rom 0) (AL.int .i64 (IE.var .i64 1) AL.nil)))), (BE.not (BE.le (IE.var .u64 1002) (IE.lit 0))), (BE.le (IE.lit 0) (IE.var .i64 1003)), (BE.le (IE.var .i64 1003) (IE.len (LE.rom 0))), (BE.le (IE.lit 0) (IE.var .i64 1004)), (BE.le (IE.lit 0) (IE.var .i64 1006)), (BE.le (IE.lit 0) (IE.var .i64 1007)), (BE.and (BE.lit true) (BE.lit true)), (BE.le (IE.var .i64 1007) (IE.lit 9))]
def pcliN4_1 : List BE := ((BE.not (BE.le (IE.sub (IE.len (LE.rom 0)) (IE.var .i64 1003)) (IE.var .i64 1007))) :: pcliN4_0)
def pcliN4_2 : List BE := ((BE.le (IE.var .i64 1007) (IE.lit 0)) :: pcliN4_1)
def pcliN4_3 : List BE := ((BE.not (BE.le (IE.var .i64 1007) (IE.lit 0))) :: pcliN4_1)
def pcliN4_4 : List BE := ((BE.not (BE.le (IE.lit 128) (IE.cel .u8 (LE.rom 0) (IE.add (IE.var .i64 1004) (IE.var .i64 1007)) 0))) :: pcliN4_2)
def pcliN4_5 : List BE := ((BE.not (BE.eq (IE.cel .u8 (LE.rom 0) (IE.add (IE.var .i64 1004) (IE.var .i64 1007)) 0) (IE.lit 0))) :: pcliN4_3)
def pcliN4_6 : List BE := ((BE.le (IE.bin BinOp.or .u64 (IE.var .u64 1008) (IE.bin BinOp.shl .u64 (IE.bin BinOp.and .u8 (IE.cel .u8 (LE.rom 0) (IE.add (IE.var .i64 1004) (IE.var .i64 1007)) 0) (IE.lit 127)) (IE.mul (IE.lit 7) (IE.var .i64 1007)))) (IE.sub (IE.len (LE.rom 0)) (IE.add (IE.var .i64 1003) (IE.add (IE.var .i64 1007) (IE.lit 1))))) :: pcliN4_4)
def pcliN4_7 : List BE := ((BE.eq (IE.var .i64 1007) (IE.lit 9)) :: pcliN4_5)
def pcliN4_8 : List BE := ((BE.not (BE.eq (IE.var .i64 1007) (IE.lit 9))) :: pcliN4_5)
def pcliN4_9 : List BE := ((BE.le (IE.cel .u8 (LE.rom 0) (IE.add (IE.var .i64 1004) (IE.var .i64 1007)) 0) (IE.lit 1)) :: pcliN4_7)
def pcliN4_10 : List BE := ((BE.not (BE.le (IE.lit 128) (IE.cel .u8 (LE.rom 0) (IE.add (IE.var .i64 1004) (IE.var .i64 1007)) 0))) :: pcliN4_8)
def pcliN4_11 : List BE := ((BE.le (IE.bin BinOp.or .u64 (IE.var .u64 1008) (IE.bin BinOp.shl .u64 (IE.bin BinOp.and .u8 (IE.cel .u8 (LE.rom 0) (IE.add (IE.var .i64 1004) (IE.var .i64 1007)) 0) (IE.lit 127)) (IE.mul (IE.lit 7) (IE.var .i64 1007)))) (IE.sub (IE.len (LE.rom 0)) (IE.add (IE.var .i64 1003) (IE.add (IE.var .i64 1007) (IE.lit 1))))) :: pcliN4_9)
def pcliN4_12 : List BE := ((BE.le (IE.bin BinOp.or .u64 (IE.var .u64 1008) (IE.bin BinOp.shl .u64 (IE.bin BinOp.and .u8 (IE.cel .u8 (LE.rom 0) (IE.add (IE.var .i64 1004) (IE.var .i64 1007)) 0) (IE.lit 127)) (IE.mul (IE.lit 7) (IE.var .i64 1007)))) (IE.sub (IE.len (LE.rom 0)) (IE.add (IE.var .i64 1003) (IE.add (IE.var .i64 1007) (IE.lit 1))))) :: pcliN4_10)
def wliN4_0 : VW := (VW.done ((BE.le (IE.sub (IE.len (LE.rom 0)) (IE.var .i64 1003)) (IE.var .i64 1007)) :: pcliN4_0) (some [(G.i (IE.fn .i64 11 (AL.lst (LE.rom 0) (AL.int .i64 (IE.var .i64 1) AL.nil))) (IE.lit 0)), (G.i (IE.fn .i64 10 (AL.lst (LE.rom 0) (AL.int .i64 (IE.var .i64 1) AL.nil))) (IE.lit 110))]))
def wliN4_1 : VW := (VW.cut 4 ((BE.le (IE.lit 128) (IE.cel .u8 (LE.rom 0) (IE.add (IE.var .i64 1004) (IE.var .i64 1007)) 0)) :: pcliN4_2) (Sx.Sub.mk [(.i64, (1003, (IE.var .i64 1003))), (.u64, (1002, (IE.var .u64 1002))), (.i64, (1007, (IE.add (IE.var .i64 1007) (IE.lit 1)))), (.i64, (1006, (IE.var .i64 1006))), (.i64, (1004, (IE.var .i64 1004))), (.u64, (1008, (IE.bin BinOp.or .u64 (IE.var .u64 1008) (IE.bin BinOp.shl .u64 (IE.bin BinOp.and .u8 (IE.cel .u8 (LE.rom 0) (IE.add (IE.var .i64 1004) (IE.var .i64 1007)) 0) (IE.lit 127)) (IE.mul (IE.lit 7) (IE.var .i64 1007))))))] [] [] [] [] []))
def wliN4_2 : VW := (VW.cut 3 ((BE.eq (IE.add (IE.add (IE.var .i64 1003) (IE.add (IE.var .i64 1007) (IE.lit 1))) (IE.bin BinOp.or .u64 (IE.var .u64 1008) (IE.bin BinOp.shl .u64 (IE.bin BinOp.and .u8 (IE.cel .u8 (LE.rom 0) (IE.add (IE.var .i64 1004) (IE.var .i64 1007)) 0) (IE.lit 127)) (IE.mul (IE.lit 7) (IE.var .i64 1007))))) (IE.add (IE.var .i64 1003) (IE.add (IE.var .i64 1007) (IE.lit 1)))) :: pcliN4_6) (Sx.Sub.mk [(.i64, (1011, (IE.add (IE.add (IE.var .i64 1003) (IE.add (IE.var .i64 1007) (IE.lit 1))) (IE.bin BinOp.or .u64 (IE.var .u64 1008) (IE.bin BinOp.shl .u64 (IE.bin BinOp.and .u8 (IE.cel .u8 (LE.rom 0) (IE.add (IE.var .i64 1004) (IE.var .i64 1007)) 0) (IE.lit 127)) (IE.mul (IE.lit 7) (IE.var .i64 1007))))))), (.i64, (1010, (IE.lit 1))), (.u64, (1009, (IE.sub (IE.var .u64 1002) (IE.lit 1))))] [] [(1012, (LE.one (AL.lst (LE.take (LE.rom 0) (IE.bin BinOp.or .u64 (IE.var .u64 1008) (IE.bin BinOp.shl .u64 (IE.bin BinOp.and .u8 (IE.cel .u8 (LE.rom 0) (IE.add (IE.var .i64 1004) (IE.var .i64 1007)) 0) (IE.lit 127)) (IE.mul (IE.lit 7) (IE.var .i64 1007))))) AL.nil)))] [] [] []))
def wliN4_3 : VW := (VW.cut 3 ((BE.not (BE.eq (IE.add (IE.add (IE.var .i64 1003) (IE.add (IE.var .i64 1007) (IE.lit 1))) (IE.bin BinOp.or .u64 (IE.var .u64 1008) (IE.bin BinOp.shl .u64 (IE.bin BinOp.and .u8 (IE.cel .u8 (LE.rom 0) (IE.add (IE.var .i64 1004) (IE.var .i64 1007)) 0) (IE.lit 127)) (IE.mul (IE.lit 7) (IE.var .i64 1007))))) (IE.add (IE.var .i64 1003) (IE.add (IE.var .i64 1007) (IE.lit 1))))) :: pcliN4_6) (Sx.Sub.mk [(.i64, (1011, (IE.add (IE.add (IE.var .i64 1003) (IE.add (IE.var .i64 1007) (IE.lit 1))) (IE.bin BinOp.or .u64 (IE.var .u64 1008) (IE.bin BinOp.shl .u64 (IE.bin BinOp.and .u8 (IE.cel .u8 (LE.rom 0) (IE.add (IE.var .i64 1004) (IE.var .i64 1007)) 0) (IE.lit 127)) (IE.mul (IE.lit 7) (IE.var .i64 1007))))))), (.i64, (1010, (IE.lit 1))), (.u64, (1009, (IE.sub (IE.var .u64 1002) (IE.lit 1))))] [] [(1012, (LE.one (AL.lst (LE.take (LE.drop (LE.rom 0) (IE.add (IE.var .i64 1003) (IE.add (IE.var .i64 1007) (IE.lit 1)))) (IE.bin BinOp.or .u64 (IE.var .u64 1008) (IE.bin BinOp.shl .u64 (IE.bin BinOp.and .u8 (IE.cel .u8 (LE.rom 0) (IE.add (IE.var .i64 1004) (IE.var .i64 1007)) 0) (IE.lit 127)) (IE.mul (IE.lit 7) (IE.var .i64 1007))))) AL.nil)))] [] [] []))
def wliN4_4 : VW := (VW.done ((BE.not (BE.le (IE.bin BinOp.or .u64 (IE.var .u64 1008) (IE.bin BinOp.shl .u64 (IE.bin BinOp.and .u8 (IE.cel .u8 (LE.rom 0) (IE.add (IE.var .i64 1004) (IE.var .i64 1007)) 0) (IE.lit 127)) (IE.mul (IE.lit 7) (IE.var .i64 1007)))) (IE.sub (IE.len (LE.rom 0)) (IE.add (IE.var .i64 1003) (IE.add (IE.var .i64 1007) (IE.lit 1)))))) :: pcliN4_4) (some [(G.i (IE.fn .i64 11 (AL.lst (LE.rom 0) (AL.int .i64 (IE.var .i64 1) AL.nil))) (IE.lit 0)), (G.i (IE.fn .i64 10 (AL.lst (LE.rom 0) (AL.int .i64 (IE.var .i64 1) AL.nil))) (IE.lit 110))]))
def wliN4_5 : VW := (VW.done ((BE.eq (IE.cel .u8 (LE.rom 0) (IE.add (IE.var .i64 1004) (IE.var .i64 1007)) 0) (IE.lit 0)) :: pcliN4_3) (some [(G.i (IE.fn .i64 11 (AL.lst (LE.rom 0) (AL.int .i64 (IE.var .i64 1) AL.nil))) (IE.lit 0)), (G.i (IE.fn .i64 10 (AL.lst (LE.rom 0) (AL.int .i64 (IE.var .i64 1) AL.nil))) (IE.lit 111))]))
def wliN4_6 : VW := (VW.cut 3 ((BE.eq (IE.add (IE.add (IE.var .i64 1003) (IE.add (IE.var .i64 1007) (IE.lit 1))) (IE.bin BinOp.or .u64 (IE.var .u64 1008) (IE.bin BinOp.shl .u64 (IE.bin BinOp.and .u8 (IE.cel .u8 (LE.rom 0) (IE.add (IE.var .i64 1004) (IE.var .i64 1007)) 0) (IE.lit 127)) (IE.mul (IE.lit 7) (IE.var .i64 1007))))) (IE.add (IE.var .i64 1003) (IE.add (IE.var .i64 1007) (IE.lit 1)))) :: pcliN4_11) (Sx.Sub.mk [(.i64, (1011, (IE.add (IE.add (IE.var .i64 1003) (IE.add (IE.var .i64 1007) (IE.lit 1))) (IE.bin BinOp.or .u64 (IE.var .u64 1008) (IE.bin BinOp.shl .u64 (IE.bin BinOp.and .u8 (IE.cel .u8 (LE.rom 0) (IE.add (IE.var .i64 1004) (IE.var .i64 1007)) 0) (IE.lit 127)) (IE.mul (IE.lit 7) (IE.var .i64 1007))))))), (.i64, (1010, (IE.lit 1))), (.u64, (1009, (IE.sub (IE.var .u64 1002) (IE.lit 1))))] [] [(1012, (LE.one (AL.lst (LE.take (LE.rom 0) (IE.bin BinOp.or .u64 (IE.var .u64 1008) (IE.bin BinOp.shl .u64 (IE.bin BinOp.and .u8 (IE.cel .u8 (LE.rom 0) (IE.add (IE.var .i64 1004) (IE.var .i64 1007)) 0) (IE.lit 127)) (IE.mul (IE.lit 7) (IE.var .i64 1007))))) AL.nil)))] [] [] []))
def wliN4_7 : VW := (VW.cut 3 ((BE.not (BE.eq (IE.add (IE.add (IE.var .i64 1003) (IE.add (IE.var .i64 1007) (IE.lit 1))) (IE.bin BinOp.or .u64 (IE.var .u64 1008) (IE.bin BinOp.shl .u64 (IE.bin BinOp.and .u8 (IE.cel .u8 (LE.rom 0) (IE.add (IE.var .i64 1004) (IE.var .i64 1007)) 0) (IE.lit 127)) (IE.mul (IE.lit 7) (IE.var .i64 1007))))) (IE.add (IE.var .i64 1003) (IE.add (IE.var .i64 1007) (IE.lit 1))))) :: pcliN4_11) (Sx.Sub.mk [(.i64, (1011, (IE.add (IE.add (IE.var .i64 1003) (IE.add (IE.var .i64 1007) (IE.lit 1))) (IE.bin BinOp.or .u64 (IE.var .u64 1008) (IE.bin BinOp.shl .u64 (IE.bin BinOp.and .u8 (IE.cel .u8 (LE.rom 0) (IE.add (IE.var .i64 1004) (IE.var .i64 1007)) 0) (IE.lit 127)) (IE.mul (IE.lit 7) (IE.var .i64 1007))))))), (.i64, (1010, (IE.lit 1))), (.u64, (1009, (IE.sub (IE.var .u64 1002) (IE.lit 1))))] [] [(1012, (LE.one (AL.lst (LE.take (LE.drop (LE.rom 0) (IE.add (IE.var .i64 1003) (IE.add (IE.var .i64 1007) (IE.lit 1)))) (IE.bin BinOp.or .u64 (IE.var .u64 1008) (IE.bin BinOp.shl .u64 (IE.bin BinOp.and .u8 (IE.cel .u8 (LE.rom 0) (IE.add (IE.var .i64 1004) (IE.var .i64 1007)) 0) (IE.lit 127)) (IE.mul (IE.lit 7) (IE.var .i64 1007))))) AL.nil)))] [] [] []))
def wliN4_8 : VW := (VW.done ((BE.not (BE.le (IE.bin BinOp.or .u64 (IE.var .u64 1008) (IE.bin BinOp.shl .u64 (IE.bin BinOp.and .u8 (IE.cel .u8 (LE.rom 0) (IE.add (IE.var .i64 1004) (IE.var .i64 1007)) 0) (IE.lit 127)) (IE.mul (IE.lit 7) (IE.var .i64 1007)))) (IE.sub (IE.len (LE.rom 0)) (IE.add (IE.var .i64 1003) (IE.add (IE.var .i64 1007) (IE.lit 1)))))) :: pcliN4_9) (some [(G.i (IE.fn .i64 11 (AL.lst (LE.rom 0) (AL.int .i64 (IE.var .i64 1) AL.nil))) (IE.lit 0)), (G.i (IE.fn .i64 10 (AL.lst (LE.rom 0) (AL.int .i64 (IE.var .i64 1) AL.nil))) (IE.lit 110))]))
def wliN4_9 : VW := (VW.done ((BE.not (BE.le (IE.cel .u8 (LE.rom 0) (IE.add (IE.var .i64 1004) (IE.var .i64 1007)) 0) (IE.lit 1))) :: pcliN4_7) (some [(G.i (IE.fn .i64 11 (AL.lst (LE.rom 0) (AL.int .i64 (IE.var .i64 1) AL.nil))) (IE.lit 0)), (G.i (IE.fn .i64 10 (AL.lst (LE.rom 0) (AL.int .i64 (IE.var .i64 1) AL.nil))) (IE.lit 111))]))
def wliN4_10 : VW := (VW.cut 4 ((BE.le (IE.lit 128) (IE.cel .u8 (LE.rom 0) (IE.add (IE.var .i64 1004) (IE.var .i64 1007)) 0)) :: pcliN4_8) (Sx.Sub.mk [(.i64, (1003, (IE.var .i64 1003))), (.u64, (1002, (IE.var .u64 1002))), (.i64, (1007, (IE.add (IE.var .i64 1007) (IE.lit 1)))), (.i64, (1006, (IE.var .i64 1006))), (.i64, (1004, (IE.var .i64 1004))), (.u64, (1008, (IE.bin BinOp.or .u64 (IE.var .u64 1008) (IE.bin BinOp.shl .u64 (IE.bin BinOp.and .u8 (IE.cel .u8 (LE.rom 0) (IE.add (IE.var .i64 1004) (IE.var .i64 1007)) 0) (IE.lit 127)) (IE.mul (IE.lit 7) (IE.var .i64 1007))))))] [] [] [] [] []))
def wliN4_11 : VW := (VW.cut 3 ((BE.eq (IE.add (IE.add (IE.var .i64 1003) (IE.add (IE.var .i64 1007) (IE.lit 1))) (IE.bin BinOp.or .u64 (IE.var .u64 1008) (IE.bin BinOp.shl .u64 (IE.bin BinOp.and .u8 (IE.cel .u8 (LE.rom 0) (IE.add (IE.var .i64 1004) (IE.var .i64 1007)) 0) (IE.lit 127)) (IE.mul (IE.lit 7) (IE.var .i64 1007))))) (IE.add (IE.var .i64 1003) (IE.add (IE.var .i64 1007) (IE.lit 1)))) :: pcliN4_12) (Sx.Sub.mk [(.i64, (1011, (IE.add (IE.add (IE.var .i64 1003) (IE.add (IE.var .i64 1007) (IE.lit 1))) (IE.bin BinOp.or .u64 (IE.var .u64 1008) (IE.bin BinOp.shl .u64 (IE.bin BinOp.and .u8 (IE.cel .u8 (LE.rom 0) (IE.add (IE.var .i64 1004) (IE.var .i64 1007)) 0) (IE.lit 127)) (IE.mul (IE.lit 7) (IE.var .i64 1007))))))), (.i64, (1010, (IE.lit 1))), (.u64, (1009, (IE.sub (IE.var .u64 1002) (IE.lit 1))))] [] [(1012, (LE.one (AL.lst (LE.take (LE.rom 0) (IE.bin BinOp.or .u64 (IE.var .u64 1008) (IE.bin BinOp.shl .u64 (IE.bin BinOp.and .u8 (IE.cel .u8 (LE.rom 0) (IE.add (IE.var .i64 1004) (IE.var .i64 1007)) 0) (IE.lit 127)) (IE.mul (IE.lit 7) (IE.var .i64 1007))))) AL.nil)))] [] [] []))
def wliN4_12 : VW := (VW.cut 3 ((BE.not (BE.eq (IE.add (IE.add (IE.var .i64 1003) (IE.add (IE.var .i64 1007) (IE.lit 1))) (IE.bin BinOp.or .u64 (IE.var .u64 1008) (IE.bin BinOp.shl .u64 (IE.bin BinOp.and .u8 (IE.cel .u8 (LE.rom 0) (IE.add (IE.var .i64 1004) (IE.var .i64 1007)) 0) (IE.lit 127)) (IE.mul (IE.lit 7) (IE.var .i64 1007))))) (IE.add (IE.var .i64 1003) (IE.add (IE.var .i64 1007) (IE.lit 1))))) :: pcliN4_12) (Sx.Sub.mk [(.i64, (1011, (IE.add (IE.add (IE.var .i64 1003) (IE.add (IE.var .i64 1007) (IE.lit 1))) (IE.bin BinOp.or .u64 (IE.var .u64 1008) (IE.bin BinOp.shl .u64 (IE.bin BinOp.and .u8 (IE.cel .u8 (LE.rom 0) (IE.add (IE.var .i64 1004) (IE.var .i64 1007)) 0) (IE.lit 127)) (IE.mul (IE.lit 7) (IE.var .i64 1007))))))), (.i64, (1010, (IE.lit 1))), (.u64, (1009, (IE.sub (IE.var .u64 1002) (IE.lit 1))))] [] [(1012, (LE.one (AL.lst (LE.take (LE.drop (LE.rom 0) (IE.add (IE.var .i64 1003) (IE.add (IE.var .i64 1007) (IE.lit 1)))) (IE.bin BinOp.or .u64 (IE.var .u64 1008) (IE.bin BinOp.shl .u64 (IE.bin BinOp.and .u8 (IE.cel .u8 (LE.rom 0) (IE.add (IE.var .i64 1004) (IE.var .i64 1007)) 0) (IE.lit 127)) (IE.mul (IE.lit 7) (IE.var .i64 1007))))) AL.nil)))] [] [] []))
def wliN4_13 : VW := (VW.done ((BE.not (BE.le (IE.bin BinOp.or .u64 (IE.var .u64 1008) (IE.bin BinOp.shl .u64 (IE.bin BinOp.and .u8 (IE.cel .u8 (LE.rom 0) (IE.add (IE.var .i64 1004) (IE.var .i64 1007)) 0) (IE.lit 127)) (IE.mul (IE.lit 7) (IE.var .i64 1007)))) (IE.sub (IE.len (LE.rom 0)) (IE.add (IE.var .i64 1003) (IE.add (IE.var .i64 1007) (IE.lit 1)))))) :: pcliN4_10) (some [(G.i (IE.fn .i64 11 (AL.lst (LE.rom 0) (AL.int .i64 (IE.var .i64 1) AL.nil))) (IE.lit 0)), (G.i (IE.fn .i64 10 (AL.lst (LE.rom 0) (AL.int .i64 (IE.var .i64 1) AL.nil))) (IE.lit 110))]))
def vwliN4 : List VW := [wliN4_0, wliN4_1, wliN4_2, wliN4_3, wliN4_4, wliN4_5, wliN4_6, wliN4_7, wliN4_8, wliN4_9, wliN4_10, wliN4_11, wliN4_12, wliN4_13]
def pcliN5_0 : List BE := [(BE.lit true), (BE.le (IE.var .i64 1013) (IE.var .i64 1011)), (BE.le (IE.len (LE.rom 0)) (IE.lit 2000)), (BE.le (IE.lit 1) (IE.len (LE.rom 0))), (BE.not (BE.fn 1 (AL.lst (LE.rom 0) (AL.int .i64 (IE.var .i64 1) AL.nil)))), (BE.not (BE.le (IE.var .u64 1009) (IE.lit 0))), (BE.le (IE.lit 0) (IE.var .i64 1010)), (BE.le (IE.lit 0) (IE.var .i64 1011)), (BE.le (IE.var .i64 1011) (IE.len (LE.rom 0))), (BE.le (IE.var .i64 1010) (IE.lit 2000)), (BE.le (IE.lit 0) (IE.var .i64 1013)), (BE.le (IE.lit 0) (IE.var .i64 1015)), (BE.le (IE.lit 0) (IE.var .i64 1016)), (BE.and (BE.lit true) (BE.lit true)), (BE.le (IE.var .i64 1016) (IE.lit 9)), (BE.le (IE.var .i64 1010) (IE.lit 2000))]
def pcliN5_1 : List BE := ((BE.not (BE.le (IE.sub (IE.len (LE.rom 0)) (IE.var .i64 1011)) (IE.var .i64 1016))) :: pcliN5_0)
def pcliN5_2 : List BE := ((BE.le (IE.var .i64 1016) (IE.lit 0)) :: pcliN5_1)
def pcliN5_3 : List BE := ((BE.not (BE.le (IE.var .i64 1016) (IE.lit 0))) :: pcliN5_1)
def pcliN5_4 : List BE := ((BE.not (BE.le (IE.lit 128) (IE.cel .u8 (LE.rom 0) (IE.add (IE.var .i64 1013) (IE.var .i64 1016)) 0))) :: pcliN5_2)
def pcliN5_5 : List BE := ((BE.not (BE.eq (IE.cel .u8 (LE.rom 0) (IE.add (IE.var .i64 1013) (IE.var .i64 1016)) 0) (IE.lit 0))) :: pcliN5_3)
def pcliN5_6 : List BE := ((BE.le (IE.bin BinOp.or .u64 (IE.var .u64 1017) (IE.bin BinOp.shl .u64 (IE.bin BinOp.and .u8 (IE.cel .u8 (LE.rom 0) (IE.add (IE.var .i64 1013) (IE.var .i64 1016)) 0) (IE.lit 127)) (IE.mul (IE.lit 7) (IE.var .i64 1016)))) (IE.sub (IE.len (LE.rom 0)) (IE.add (IE.var .i64 1011) (IE.add (IE.var .i64 1016) (IE.lit 1))))) :: pcliN5_4)
def pcliN5_7 : List BE := ((BE.eq (IE.var .i64 1016) (IE.lit 9)) :: pcliN5_5)
def pcliN5_8 : List BE := ((BE.not (BE.eq (IE.var .i64 1016) (IE.lit 9))) :: pcliN5_5)
def pcliN5_9 : List BE := ((BE.le (IE.cel .u8 (LE.rom 0) (IE.add (IE.var .i64 1013) (IE.var .i64 1016)) 0) (IE.lit 1)) :: pcliN5_7)
def pcliN5_10 : List BE := ((BE.not (BE.le (IE.lit 128) (IE.cel .u8 (LE.rom 0) (IE.add (IE.var .i64 1013) (IE.var .i64 1016)) 0))) :: pcliN5_8)
def pcliN5_11 : List BE := ((BE.le (IE.bin BinOp.or .u64 (IE.var .u64 1017) (IE.bin BinOp.shl .u64 (IE.bin BinOp.and .u8 (IE.cel .u8 (LE.rom 0) (IE.add (IE.var .i64 1013) (IE.var .i64 1016)) 0) (IE.lit 127)) (IE.mul (IE.lit 7) (IE.var .i64 1016)))) (IE.sub (IE.len (LE.rom 0)) (IE.add (IE.var .i64 1011) (IE.add (IE.var .i64 1016) (IE.lit 1))))) :: pcliN5_9)
def pcliN5_12 : List BE := ((BE.le (IE.bin BinOp.or .u64 (IE.var .u64 1017) (IE.bin BinOp.shl .u64 (IE.bin BinOp.and .u8 (IE.cel .u8 (LE.rom 0) (IE.add (IE.var .i64 1013) (IE.var .i64 1016)) 0) (IE.lit 127)) (IE.mul (IE.lit 7) (IE.var .i64 1016)))) (IE.sub (IE.len (LE.rom 0)) (IE.add (IE.var .i64 1011) (IE.add (IE.var .i64 1016) (IE.lit 1))))) :: pcliN5_10)
def wliN5_0 : VW := (VW.done ((BE.le (IE.sub (IE.len (LE.rom 0)) (IE.var .i64 1011)) (IE.var .i64 1016)) :: pcliN5_0) (some [(G.i (IE.fn .i64 11 (AL.lst (LE.rom 0) (AL.int .i64 (IE.var .i64 1) AL.nil))) (IE.lit 0)), (G.i (IE.fn .i64 10 (AL.lst (LE.rom 0) (AL.int .i64 (IE.var .i64 1) AL.nil))) (IE.lit 110))]))
def wliN5_1 : VW := (VW.cut 5 ((BE.le (IE.lit 128) (IE.cel .u8 (LE.rom 0) (IE.add (IE.var .i64 1013) (IE.var .i64 1016)) 0)) :: pcliN5_2) (Sx.Sub.mk [(.i64, (1011, (IE.var .i64 1011))), (.i64, (1010, (IE.var .i64 1010))), (.u64, (1009, (IE.var .u64 1009))), (.i64, (1016, (IE.add (IE.var .i64 1016) (IE.lit 1)))), (.i64, (1015, (IE.var .i64 1015))), (.i64, (1013, (IE.var .i64 1013))), (.u64, (1017, (IE.bin BinOp.or .u64 (IE.var .u64 1017) (IE.bin BinOp.shl .u64 (IE.bin BinOp.and .u8 (IE.cel .u8 (LE.rom 0) (IE.add (IE.var .i64 1013) (IE.var .i64 1016)) 0) (IE.lit 127)) (IE.mul (IE.lit 7) (IE.var .i64 1016))))))] [] [(1012, (LE.var 1012))] [] [] []))
def wliN5_2 : VW := (VW.cut 3 ((BE.eq (IE.add (IE.add (IE.var .i64 1011) (IE.add (IE.var .i64 1016) (IE.lit 1))) (IE.bin BinOp.or .u64 (IE.var .u64 1017) (IE.bin BinOp.shl .u64 (IE.bin BinOp.and .u8 (IE.cel .u8 (LE.rom 0) (IE.add (IE.var .i64 1013) (IE.var .i64 1016)) 0) (IE.lit 127)) (IE.mul (IE.lit 7) (IE.var .i64 1016))))) (IE.add (IE.var .i64 1011) (IE.add (IE.var .i64 1016) (IE.lit 1)))) :: pcliN5_6) (Sx.Sub.mk [(.i64, (1011, (IE.add (IE.add (IE.var .i64 1011) (IE.add (IE.var .i64 1016) (IE.lit 1))) (IE.bin BinOp.or .u64 (IE.var .u64 1017) (IE.bin BinOp.shl .u64 (IE.bin BinOp.and .u8 (IE.cel .u8 (LE.rom 0) (IE.add (IE.var .i64 1013) (IE.var .i64 1016)) 0) (IE.lit 127)) (IE.mul (IE.lit 7) (IE.var .i64 1016))))))), (.i64, (1010, (IE.add (IE.var .i64 1010) (IE.lit 1)))), (.u64, (1009, (IE.sub (IE.var .u64 1009) (IE.lit 1))))] [] [(1012, (LE.cat (LE.var 1012) (LE.one (AL.lst (LE.take (LE.rom 0) (IE.bin BinOp.or .u64 (IE.var .u64 1017) (IE.bin BinOp.shl .u64 (IE.bin BinOp.and .u8 (IE.cel .u8 (LE.rom 0) (IE.add (IE.var .i64 1013) (IE.var .i64 1016)) 0) (IE.lit 127)) (IE.mul (IE.lit 7) (IE.var .i64 1016))))) AL.nil))))] [] [] []))
def wliN5_3 : VW := (VW.cut 3 ((BE.not (BE.eq (IE.add (IE.add (IE.var .i64 1011) (IE.add (IE.var .i64 1016) (IE.lit 1))) (IE.bin BinOp.or .u64 (IE.var .u64 1017) (IE.bin BinOp.shl .u64 (IE.bin BinOp.and .u8 (IE.cel .u8 (LE.rom 0) (IE.add (IE.var .i64 1013) (IE.var .i64 1016)) 0) (IE.lit 127)) (IE.mul (IE.lit 7) (IE.var .i64 1016))))) (IE.add (IE.var .i64 1011) (IE.add (IE.var .i64 1016) (IE.lit 1))))) :: pcliN5_6) (Sx.Sub.mk [(.i64, (1011, (IE.add (IE.add (IE.var .i64 1011) (IE.add (IE.var .i64 1016) (IE.lit 1))) (IE.bin BinOp.or .u64 (IE.var .u64 1017) (IE.bin BinOp.shl .u64 (IE.bin BinOp.and .u8 (IE.cel .u8 (LE.rom 0) (IE.add (IE.var .i64 1013) (IE.var .i64 1016)) 0) (IE.lit 127)) (IE.mul (IE.lit 7) (IE.var .i64 1016))))))), (.i64, (1010, (IE.add (IE.var .i64 1010) (IE.lit 1)))), (.u64, (1009, (IE.sub (IE.var .u64 1009) (IE.lit 1))))] [] [(1012, (LE.cat (LE.var 1012) (LE.one (AL.lst (LE.take (LE.drop (LE.rom 0) (IE.add (IE.var .i64 1011) (IE.add (IE.var .i64 1016) (IE.lit 1)))) (IE.bin BinOp.or .u64 (IE.var .u64 1017) (IE.bin BinOp.shl .u64 (IE.bin BinOp.and .u8 (IE.cel .u8 (LE.rom 0) (IE.add (IE.var .i64 1013) (IE.var .i64 1016)) 0) (IE.lit 127)) (IE.mul (IE.lit 7) (IE.var .i64 1016))))) AL.nil))))] [] [] []))
def wliN5_4 : VW := (VW.done ((BE.not (BE.le (IE.bin BinOp.or .u64 (IE.var .u64 1017) (IE.bin BinOp.shl .u64 (IE.bin BinOp.and .u8 (IE.cel .u8 (LE.rom 0) (IE.add (IE.var .i64 1013) (IE.var .i64 1016)) 0) (IE.lit 127)) (IE.mul (IE.lit 7) (IE.var .i64 1016)))) (IE.sub (IE.len (LE.rom 0)) (IE.add (IE.var .i64 1011) (IE.add (IE.var .i64 1016) (IE.lit 1)))))) :: pcliN5_4) (some [(G.i (IE.fn .i64 11 (AL.lst (LE.rom 0) (AL.int .i64 (IE.var .i64 1) AL.nil))) (IE.lit 0)), (G.i (IE.fn .i64 10 (AL.lst (LE.rom 0) (AL.int .i64 (IE.var .i64 1) AL.nil))) (IE.lit 110))]))
def wliN5_5 : VW := (VW.done ((BE.eq (IE.cel .u8 (LE.rom 0) (IE.add (IE.var .i64 1013) (IE.var .i64 1016)) 0) (IE.lit 0)) :: pcliN5_3) (some [(G.i (IE.fn .i64 11 (AL.lst (LE.rom 0) (AL.int .i64 (IE.var .i64 1) AL.nil))) (IE.lit 0)), (G.i (IE.fn .i64 10 (AL.lst (LE.rom 0) (AL.int .i64 (IE.var .i64 1) AL.nil))) (IE.lit 111))]))
def wliN5_6 : VW := (VW.cut 3 ((BE.eq (IE.add (IE.add (IE.var .i64 1011) (IE.add (IE.var .i64 1016) (IE.lit 1))) (IE.bin BinOp.or .u64 (IE.var .u64 1017) (IE.bin BinOp.shl .u64 (IE.bin BinOp.and .u8 (IE.cel .u8 (LE.rom 0) (IE.add (IE.var .i64 1013) (IE.var .i64 1016)) 0) (IE.lit 127)) (IE.mul (IE.lit 7) (IE.var .i64 1016))))) (IE.add (IE.var .i64 1011) (IE.add (IE.var .i64 1016) (IE.lit 1)))) :: pcliN5_11) (Sx.Sub.mk [(.i64, (1011, (IE.add (IE.add (IE.var .i64 1011) (IE.add (IE.var .i64 1016) (IE.lit 1))) (IE.bin BinOp.or .u64 (IE.var .u64 1017) (IE.bin BinOp.shl .u64 (IE.bin BinOp.and .u8 (IE.cel .u8 (LE.rom 0) (IE.add (IE.var .i64 1013) (IE.var .i64 1016)) 0) (IE.lit 127)) (IE.mul (IE.lit 7) (IE.var .i64 1016))))))), (.i64, (1010, (IE.add (IE.var .i64 1010) (IE.lit 1)))), (.u64, (1009, (IE.sub (IE.var .u64 1009) (IE.lit 1))))] [] [(1012, (LE.cat (LE.var 1012) (LE.one (AL.lst (LE.take (LE.rom 0) (IE.bin BinOp.or .u64 (IE.var .u64 1017) (IE.bin BinOp.shl .u64 (IE.bin BinOp.and .u8 (IE.cel .u8 (LE.rom 0) (IE.add (IE.var .i64 1013) (IE.var .i64 1016)) 0) (IE.lit 127)) (IE.mul (IE.lit 7) (IE.var .i64 1016))))) AL.nil))))] [] [] []))
def wliN5_7 : VW := (VW.cut 3 ((BE.not (BE.eq (IE.add (IE.add (IE.var .i64 1011) (IE.add (IE.var .i64 1016) (IE.lit 1))) (IE.bin BinOp.or .u64 (IE.var .u64 1017) (IE.bin BinOp.shl .u64 (IE.bin BinOp.and .u8 (IE.cel .u8 (LE.rom 0) (IE.add (IE.var .i64 1013) (IE.var .i64 1016)) 0) (IE.lit 127)) (IE.mul (IE.lit 7) (IE.var .i64 1016))))) (IE.add (IE.var .i64 1011) (IE.add (IE.var .i64 1016) (IE.lit 1))))) :: pcliN5_11) (Sx.Sub.mk [(.i64, (1011, (IE.add (IE.add (IE.var .i64 1011) (IE.add (IE.var .i64 1016) (IE.lit 1))) (IE.bin BinOp.or .u64 (IE.var .u64 1017) (IE.bin BinOp.shl .u64 (IE.bin BinOp.and .u8 (IE.cel .u8 (LE.rom 0) (IE.add (IE.var .i64 1013) (IE.var .i64 1016)) 0) (IE.lit 127)) (IE.mul (IE.lit 7) (IE.var .i64 1016))))))), (.i64, (1010, (IE.add (IE.var .i64 1010) (IE.lit 1)))), (.u64, (1009, (IE.sub (IE.var .u64 1009) (IE.lit 1))))] [] [(1012, (LE.cat (LE.var 1012) (LE.one (AL.lst (LE.take (LE.drop (LE.rom 0) (IE.add (IE.var .i64 1011) (IE.add (IE.var .i64 1016) (IE.lit 1)))) (IE.bin BinOp.or .u64 (IE.var .u64 1017) (IE.bin BinOp.shl .u64 (IE.bin BinOp.and .u8 (IE.cel .u8 (LE.rom 0) (IE.add (IE.var .i64 1013) (IE.var .i64 1016)) 0) (IE.lit 127)) (IE.mul (IE.lit 7) (IE.var .i64 1016))))) AL.nil))))] [] [] []))
def wliN5_8 : VW := (VW.done ((BE.not (BE.le (IE.bin BinOp.or .u64 (IE.var .u64 1017) (IE.bin BinOp.shl .u64 (IE.bin BinOp.and .u8 (IE.cel .u8 (LE.rom 0) (IE.add (IE.var .i64 1013) (IE.var .i64 1016)) 0) (IE.lit 127)) (IE.mul (IE.lit 7) (IE.var .i64 1016)))) (IE.sub (IE.len (LE.rom 0)) (IE.add (IE.var .i64 1011) (IE.add (IE.var .i64 1016) (IE.lit 1)))))) :: pcliN5_9) (some [(G.i (IE.fn .i64 11 (AL.lst (LE.rom 0) (AL.int .i64 (IE.var .i64 1) AL.nil))) (IE.lit 0)), (G.i (IE.fn .i64 10 (AL.lst (LE.rom 0) (AL.int .i64 (IE.var .i64 1) AL.nil))) (IE.lit 110))]))
def wliN5_9 : VW := (VW.done ((BE.not (BE.le (IE.cel .u8 (LE.rom 0) (IE.add (IE.var .i64 1013) (IE.var .i64 1016)) 0) (IE.lit 1))) :: pcliN5_7) (some [(G.i (IE.fn .i64 11 (AL.lst (LE.rom 0) (AL.int .i64 (IE.var .i64 1) AL.nil))) (IE.lit 0)), (G.i (IE.fn .i64 10 (AL.lst (LE.rom 0) (AL.int .i64 (IE.var .i64 1) AL.nil))) (IE.lit 111))]))
def wliN5_10 : VW := (VW.cut 5 ((BE.le (IE.lit 128) (IE.cel .u8 (LE.rom 0) (IE.add (IE.var .i64 1013) (IE.var .i64 1016)) 0)) :: pcliN5_8) (Sx.Sub.mk [(.i64, (1011, (IE.var .i64 1011))), (.i64, (1010, (IE.var .i64 1010))), (.u64, (1009, (IE.var .u64 1009))), (.i64, (1016, (IE.add (IE.var .i64 1016) (IE.lit 1)))), (.i64, (1015, (IE.var .i64 1015))), (.i64, (1013, (IE.var .i64 1013))), (.u64, (1017, (IE.bin BinOp.or .u64 (IE.var .u64 1017) (IE.bin BinOp.shl .u64 (IE.bin BinOp.and .u8 (IE.cel .u8 (LE.rom 0) (IE.add (IE.var .i64 1013) (IE.var .i64 1016)) 0) (IE.lit 127)) (IE.mul (IE.lit 7) (IE.var .i64 1016))))))] [] [(1012, (LE.var 1012))] [] [] []))
def wliN5_11 : VW := (VW.cut 3 ((BE.eq (IE.add (IE.add (IE.var .i64 1011) (IE.add (IE.var .i64 1016) (IE.lit 1))) (IE.bin BinOp.or .u64 (IE.var .u64 1017) (IE.bin BinOp.shl .u64 (IE.bin BinOp.and .u8 (IE.cel .u8 (LE.rom 0) (IE.add (IE.var .i64 1013) (IE.var .i64 1016)) 0) (IE.lit 127)) (IE.mul (IE.lit 7) (IE.var .i64 1016))))) (IE.add (IE.var .i64 1011) (IE.add (IE.var .i64 1016) (IE.lit 1)))) :: pcliN5_12) (Sx.Sub.mk [(.i64, (1011, (IE.add (IE.add (IE.var .i64 1011) (IE.add (IE.var .i64 1016) (IE.lit 1))) (IE.bin BinOp.or .u64 (IE.var .u64 1017) (IE.bin BinOp.shl .u64 (IE.bin BinOp.and .u8 (IE.cel .u8 (LE.rom 0) (IE.add (IE.var .i64 1013) (IE.var .i64 1016)) 0) (IE.lit 127)) (IE.mul (IE.lit 7) (IE.var .i64 1016))))))), (.i64, (1010, (IE.add (IE.var .i64 1010) (IE.lit 1)))), (.u64, (1009, (IE.sub (IE.var .u64 1009) (IE.lit 1))))] [] [(1012, (LE.cat (LE.var 1012) (LE.one (AL.lst (LE.take (LE.rom 0) (IE.bin BinOp.or .u64 (IE.var .u64 1017) (IE.bin BinOp.shl .u64 (IE.bin BinOp.and .u8 (IE.cel .u8 (LE.rom 0) (IE.add (IE.var .i64 1013) (IE.var .i64 1016)) 0) (IE.lit 127)) (IE.mul (IE.lit 7) (IE.var .i64 1016))))) AL.nil))))] [] [] []))
def wliN5_12 : VW := (VW.cut 3 ((BE.not (BE.eq (IE.add (IE.add (IE.var .i64 1011) (IE.add (IE.var .i64 1016) (IE.lit 1))) (IE.bin BinOp.or .u64 (IE.var .u64 1017) (IE.bin BinOp.shl .u64 (IE.bin BinOp.and .u8 (IE.cel .u8 (LE.rom 0) (IE.add (IE.var .i64 1013) (IE.var .i64 1016)) 0) (IE.lit 127)) (IE.mul (IE.lit 7) (IE.var .i64 1016))))) (IE.add (IE.var .i64 1011) (IE.add (IE.var .i64 1016) (IE.lit 1))))) :: pcliN5_12) (Sx.Sub.mk [(.i64, (1011, (IE.add (IE.add (IE.var .i64 1011) (IE.add (IE.var .i64 1016) (IE.lit 1))) (IE.bin BinOp.or .u64 (IE.var .u64 1017) (IE.bin BinOp.shl .u64 (IE.bin BinOp.and .u8 (IE.cel .u8 (LE.rom 0) (IE.add (IE.var .i64 1013) (IE.var .i64 1016)) 0) (IE.lit 127)) (IE.mul (IE.lit 7) (IE.var .i64 1016))))))), (.i64, (1010, (IE.add (IE.var .i64 1010) (IE.lit 1)))), (.u64, (1009, (IE.sub (IE.var .u64 1009) (IE.lit 1))))] [] [(1012, (LE.cat (LE.var 1012) (LE.one (AL.lst (LE.take (LE.drop (LE.rom 0) (IE.add (IE.var .i64 1011) (IE.add (IE.var .i64 1016) (IE.lit 1)))) (IE.bin BinOp.or .u64 (IE.var .u64 1017) (IE.bin BinOp.shl .u64 (IE.bin BinOp.and .u8 (IE.cel .u8 (LE.rom 0) (IE.add (IE.var .i64 1013) (IE.var .i64 1016)) 0) (IE.lit 127)) (IE.mul (IE.lit 7) (IE.var .i64 1016))))) AL.nil))))] [] [] []))
def wliN5_13 : VW := (VW.done ((BE.not (BE.le (IE.bin BinOp.or .u64 (IE.var .u64 1017) (IE.bin BinOp.shl .u64 (IE.bin BinOp.and .u8 (IE.cel .u8 (LE.rom 0) (IE.add (IE.var .i64 1013) (IE.var .i64 1016)) 0) (IE.lit 127)) (IE.mul (IE.lit 7) (IE.var .i64 1016)))) (IE.sub (IE.len (LE.rom 0)) (IE.add (IE.var .i64 1011) (IE.add (IE.var .i64 1016) (IE.lit 1)))))) :: pcliN5_10) (some [(G.i (IE.fn .i64 11 (AL.lst (LE.rom 0) (AL.int .i64 (IE.var .i64 1) AL.nil))) (IE.lit 0)), (G.i (IE.fn .i64 10 (AL.lst (LE.rom 0) (AL.int .i64 (IE.var .i64 1) AL.nil))) (IE.lit 110))]))
def vwliN5 : List VW := [wliN5_0, wliN5_1, wliN5_2, wliN5_3, wliN5_4, wliN5_5, wliN5_6, wliN5_7, wliN5_8, wliN5_9, wliN5_10, wliN5_11, wliN5_12, wliN5_13]
def vwliN : Nat → List VW
  | 0 => vwliN0
  | 1 => vwliN1
  | 2 => vwliN2
  | 3 => vwliN3
  | 4 => vwliN4
  | 5 => vwliN5
  | _ => []
end
def invliN : Nat → Lt → Prop
  | 1, l => Nu (l.z.rl 0) 0 0 (l.i .i64 1001) (l.i .u64 1000) ∧ (l.z.rl 0).length ≤ 2000
  | 2, l => Tx (l.z.rl 0) 0 (l.i .i64 1003) ∧ (l.i .u64 1002) = rdV (l.z.rl 0) ∧ (rdV (l.z.rl 0) ≤ (l.i .i64 1) ∨ rdV (l.z.rl 0) ≤ 0) ∧ (l.z.rl 0).length ≤ 2000
  | 3, l => 1 ≤ (l.i .i64 1010) ∧ Tx (l.z.rl 0) (l.i .i64 1010) (l.i .i64 1011) ∧ (l.l 1012) = txsT (l.z.rl 0) (l.i .i64 1010).toNat ∧ (l.i .u64 1009) + (l.i .i64 1010) = rdV (l.z.rl 0) ∧ (rdV (l.z.rl 0) ≤ (l.i .i64 1) ∨ rdV (l.z.rl 0) ≤ 0) ∧ (l.z.rl 0).length ≤ 2000
  | 4, l => Nu (l.z.rl 0) (l.i .i64 1003) (l.i .i64 1004) (l.i .i64 1007) (l.i .u64 1008) ∧ Tx (l.z.rl 0) 0 (l.i .i64 1003) ∧ (l.i .u64 1002) = rdV (l.z.rl 0) ∧ 1 ≤ (l.i .u64 1002) ∧ (rdV (l.z.rl 0) ≤ (l.i .i64 1) ∨ rdV (l.z.rl 0) ≤ 0) ∧ (l.z.rl 0).length ≤ 2000
  | 5, l => 1 ≤ (l.i .i64 1010) ∧ Nu (l.z.rl 0) (l.i .i64 1011) (l.i .i64 1013) (l.i .i64 1016) (l.i .u64 1017) ∧ Tx (l.z.rl 0) (l.i .i64 1010) (l.i .i64 1011) ∧ (l.l 1012) = txsT (l.z.rl 0) (l.i .i64 1010).toNat ∧ (l.i .u64 1009) + (l.i .i64 1010) = rdV (l.z.rl 0) ∧ 1 ≤ (l.i .u64 1009) ∧ (rdV (l.z.rl 0) ≤ (l.i .i64 1) ∨ rdV (l.z.rl 0) ≤ 0) ∧ (l.z.rl 0).length ≤ 2000
  | _, _ => True
def msliN : Nat → Lt → Nat
  | 0, l => 12 * (l.z.rl 0).length + 60
  | 1, l => 12 * (l.z.rl 0).length + 40 - (l.i .i64 1001).toNat
  | 2, l => 12 * ((l.z.rl 0).length + 1 - (l.i .i64 1003).toNat)
  | 3, l => 12 * ((l.z.rl 0).length + 1 - (l.i .i64 1011).toNat)
  | 4, l => 12 * ((l.z.rl 0).length + 1 - (l.i .i64 1003).toNat) - 1 - (l.i .i64 1007).toNat
  | 5, l => 12 * ((l.z.rl 0).length + 1 - (l.i .i64 1011).toNat) - 1 - (l.i .i64 1016).toNat
  | _, _ => 0
theorem vcliN0_0 : VC TTliN invliN msliN 0 (startF 33 cListN.pat (.lit true :: cListN.pre)) wliN0_0 := by
  intro ρ kn hi hp
  have hF : ρ.z.F = oct.Φ := kn.F
  simp only [h_nil, h_cons, d_le, d_eq, d_not, d_var, d_lit, d_cel, d_leq, d_fn, d_and, d_iff, IE.den, LE.den, AL.den, lenV, true_and, and_true, hF, pi2, pi3, pi4, pi5, pi6, pi7, pl1, pi8, pi9, pl3, pi10, pi11, pb1, pl2] at hp
  obtain ⟨p1, p2, p3⟩ := hp
  refine (show (Nu (ρ.z.rl 0) 0 0 (0 : Int) (0 : Int) ∧ (ρ.z.rl 0).length ≤ 2000) ∧ ((12 * (ρ.z.rl 0).length + 40 - (0 : Int).toNat : Nat) < 12 * (ρ.z.rl 0).length + 60) from ?_)
  exact ⟨⟨nu_start rfl, by omega⟩, by omega⟩
def ivliN1 (ρ : Rho) : Prop := Nu (ρ.z.rl 0) 0 0 (ρ.i .i64 1001) (ρ.i .u64 1000) ∧ (ρ.z.rl 0).length ≤ 2000
theorem vcgliN1_1 : VC TTliN invliN msliN 1 tliN1 wliN1_3 ∧ VC TTliN invliN msliN 1 tliN1 wliN1_5 ∧ VC TTliN invliN msliN 1 tliN1 wliN1_8 ∧ VC TTliN invliN msliN 1 tliN1 wliN1_10 ∧ VC TTliN invliN msliN 1 tliN1 wliN1_14 ∧ VC TTliN invliN msliN 1 tliN1 wliN1_16 := by
  refine ⟨?_, ?_, ?_, ?_, ?_, ?_⟩
  all_goals
    intro ρ kn hi hp
    have hi : ivliN1 ρ := hi
    unfold ivliN1 at hi
    have hF : ρ.z.F = oct.Φ := kn.F
    simp only [h_nil, h_cons, d_le, d_eq, d_not, d_var, d_lit, d_cel, d_leq, d_fn, d_and, d_iff, IE.den, LE.den, AL.den, lenV, true_and, and_true, pcliN1_6, pcliN1_4, pcliN1_2, pcliN1_1, pcliN1_0, pcliN1_7, pcliN1_12, pcliN1_10, pcliN1_8, pcliN1_5, pcliN1_3, pcliN1_13, pcliN1_14, pcliN1_11, pcliN1_9, pcliN1_15, hF, pi2, pi3, pi4, pi5, pi6, pi7, pl1, pi8, pi9, pl3, pi10, pi11, pb1, pl2] at hp
    have p1 := And.left hp
    replace hp := And.right hp
    repeat (have _ := And.left hp; replace hp := And.right hp)
    refine all_cons (show (clampK .i64 (ρ.z.F.i 11 [.lst (ρ.z.rl 0), .int .i64 (ρ.i .i64 1)])) = (0 : Int) from ?_) (all_cons (show (clampK .i64 (ρ.z.F.i 10 [.lst (ρ.z.rl 0), .int .i64 (ρ.i .i64 1)])) = (3 : Int) from ?_) (all_nil))
    all_goals try simp only [hF, pi2, pi3, pi4, pi5, pi6, pi7, pl1, pi8, pi9, pl3, pi10, pi11, pb1, pl2]
    all_goals
      have hl := kn.ok.rl 0
      try simp only [rdE_in, rdN_in, rdV_in, txtE_in, txtN_ind hl, lsE_in, lsN_in hl] at *
      obtain ⟨u, h2⟩ := hi
      first
        | (have k := nu_end u (by omega) (by omega); simp only [d0] at k; have q := ls_no (L := (ρ.z.rl 0)) (m := (ρ.i .i64 1)) (by omega); have q2 : lsN (ρ.z.rl 0) (ρ.i .i64 1) = 0 := lsN_no (by omega); omega)
        | (have k := nu_bad u (b := clampK .u8 (intV (celV (ρ.z.rl 0) (ρ.i .i64 1001) 0))) (by omega) (by omega) (by rw [Int.zero_add]) (by omega); simp only [d0] at k; have q := ls_no (L := (ρ.z.rl 0)) (m := (ρ.i .i64 1)) (by omega); have q2 : lsN (ρ.z.rl 0) (ρ.i .i64 1) = 0 := lsN_no (by omega); omega)
        | (have k := nu_read u (b := clampK .u8 (intV (celV (ρ.z.rl 0) (ρ.i .i64 1001) 0))) (by omega) (by omega) (by rw [Int.zero_add]) (by omega) (by omega) (by omega); simp only [d0] at k; have q := ls_long (L := (ρ.z.rl 0)) (m := (ρ.i .i64 1)) k.1 (by rw [k.2.2]; omega); have q2 : lsN (ρ.z.rl 0) (ρ.i .i64 1) = 0 := lsN_no (by omega); omega)
theorem vcliN1_0 : VC TTliN invliN msliN 1 tliN1 wliN1_0 := by
  intro ρ kn hi hp
  have hi : ivliN1 ρ := hi
  unfold ivliN1 at hi
  have hF : ρ.z.F = oct.Φ := kn.F
  simp only [h_nil, h_cons, d_le, d_eq, d_not, d_var, d_lit, d_cel, d_leq, d_fn, d_and, d_iff, IE.den, LE.den, AL.den, lenV, true_and, and_true, pcliN1_0, hF, pi2, pi3, pi4, pi5, pi6, pi7, pl1, pi8, pi9, pl3, pi10, pi11, pb1, pl2] at hp
  obtain ⟨p1, p2, p3, p4, p5, p6, p7⟩ := hp
  refine all_cons (show (clampK .i64 (ρ.z.F.i 11 [.lst (ρ.z.rl 0), .int .i64 (ρ.i .i64 1)])) = (0 : Int) from ?_) (all_cons (show (clampK .i64 (ρ.z.F.i 10 [.lst (ρ.z.rl 0), .int .i64 (ρ.i .i64 1)])) = (110 : Int) from ?_) (all_nil))
  all_goals try simp only [hF, pi2, pi3, pi4, pi5, pi6, pi7, pl1, pi8, pi9, pl3, pi10, pi11, pb1, pl2]
  all_goals
    have hl := kn.ok.rl 0
    try simp only [rdE_in, rdN_in, rdV_in, txtE_in, txtN_ind hl, lsE_in, lsN_in hl] at *
    obtain ⟨u, h2⟩ := hi
    first
      | (have k := nu_end u (by omega) (by omega); simp only [d0] at k; have q := ls_no (L := (ρ.z.rl 0)) (m := (ρ.i .i64 1)) (by omega); have q2 : lsN (ρ.z.rl 0) (ρ.i .i64 1) = 0 := lsN_no (by omega); omega)
      | (have k := nu_bad u (b := clampK .u8 (intV (celV (ρ.z.rl 0) (ρ.i .i64 1001) 0))) (by omega) (by omega) (by rw [Int.zero_add]) (by omega); simp only [d0] at k; have q := ls_no (L := (ρ.z.rl 0)) (m := (ρ.i .i64 1)) (by omega); have q2 : lsN (ρ.z.rl 0) (ρ.i .i64 1) = 0 := lsN_no (by omega); omega)
      | (have k := nu_read u (b := clampK .u8 (intV (celV (ρ.z.rl 0) (ρ.i .i64 1001) 0))) (by omega) (by omega) (by rw [Int.zero_add]) (by omega) (by omega) (by omega); simp only [d0] at k; have q := ls_long (L := (ρ.z.rl 0)) (m := (ρ.i .i64 1)) k.1 (by rw [k.2.2]; omega); have q2 : lsN (ρ.z.rl 0) (ρ.i .i64 1) = 0 := lsN_no (by omega); omega)
theorem vcliN1_1 : VC TTliN invliN msliN 1 tliN1 wliN1_1 := by
  intro ρ kn hi hp
  have hi : ivliN1 ρ := hi
  unfold ivliN1 at hi
  have hF : ρ.z.F = oct.Φ := kn.F
  simp only [h_nil, h_cons, d_le, d_eq, d_not, d_var, d_lit, d_cel, d_leq, d_fn, d_and, d_iff, IE.den, LE.den, AL.den, lenV, true_and, and_true, pcliN1_2, pcliN1_1, pcliN1_0, hF, pi2, pi3, pi4, pi5, pi6, pi7, pl1, pi8, pi9, pl3, pi10, pi11, pb1, pl2] at hp
  obtain ⟨p1, p2, p3, p4, p5, p6, p7, p8, p9⟩ := hp
  refine (show (Nu (ρ.z.rl 0) 0 0 ((ρ.i .i64 1001) + (1 : Int)) (binI BinOp.or .u64 (ρ.i .u64 1000) (binI BinOp.shl .u64 (binI BinOp.and .u8 (clampK .u8 (intV (celV (ρ.z.rl 0) (ρ.i .i64 1001) 0))) (127 : Int)) ((7 : Int) * (ρ.i .i64 1001)))) ∧ (ρ.z.rl 0).length ≤ 2000) ∧ ((12 * (ρ.z.rl 0).length + 40 - ((ρ.i .i64 1001) + (1 : Int)).toNat : Nat) < 12 * (ρ.z.rl 0).length + 40 - (ρ.i .i64 1001).toNat) from ?_)
  obtain ⟨u, h2⟩ := hi
  exact ⟨⟨nu_go u (b := clampK .u8 (intV (celV (ρ.z.rl 0) (ρ.i .i64 1001) 0))) (by omega) (by omega) (by rw [Int.zero_add]) (by omega) (by omega) (by omega), h2⟩, by omega⟩
theorem vcliN1_2 : VC TTliN invliN msliN 1 tliN1 wliN1_2 := by
  intro ρ kn hi hp
  have hi : ivliN1 ρ := hi
  unfold ivliN1 at hi
  have hF : ρ.z.F = oct.Φ := kn.F
  simp only [h_nil, h_cons, d_le, d_eq, d_not, d_var, d_lit, d_cel, d_leq, d_fn, d_and, d_iff, IE.den, LE.den, AL.den, lenV, true_and, and_true, pcliN1_6, pcliN1_4, pcliN1_2, pcliN1_1, pcliN1_0, hF, pi2, pi3, pi4, pi5, pi6, pi7, pl1, pi8, pi9, pl3, pi10, pi11, pb1, pl2] at hp
  obtain ⟨p1, p2, p3, p4, p5, p6, p7, p8, p9, p10, p11⟩ := hp
  refine (show (Tx (ρ.z.rl 0) 0 ((0 : Int) + ((ρ.i .i64 1001) + (1 : Int))) ∧ (binI BinOp.or .u64 (ρ.i .u64 1000) (binI BinOp.shl .u64 (binI BinOp.and .u8 (clampK .u8 (intV (celV (ρ.z.rl 0) (ρ.i .i64 1001) 0))) (127 : Int)) ((7 : Int) * (ρ.i .i64 1001)))) = rdV (ρ.z.rl 0) ∧ (rdV (ρ.z.rl 0) ≤ (ρ.i .i64 1) ∨ rdV (ρ.z.rl 0) ≤ 0) ∧ (ρ.z.rl 0).length ≤ 2000) ∧ ((12 * ((ρ.z.rl 0).length + 1 - ((0 : Int) + ((ρ.i .i64 1001) + (1 : Int))).toNat) : Nat) < 12 * (ρ.z.rl 0).length + 40 - (ρ.i .i64 1001).toNat) from ?_)
  obtain ⟨u, h2⟩ := hi
  obtain ⟨k1, k2, k3⟩ := nu_read u (b := clampK .u8 (intV (celV (ρ.z.rl 0) (ρ.i .i64 1001) 0))) (by omega) (by omega) (by rw [Int.zero_add]) (by omega) (by omega) (by omega)
  simp only [d0] at k1 k2 k3
  exact ⟨⟨tx0 k1 (by omega), k3.symm, by omega, h2⟩, by omega⟩
theorem vcliN1_4 : VC TTliN invliN msliN 1 tliN1 wliN1_4 := by
  intro ρ kn hi hp
  have hi : ivliN1 ρ := hi
  unfold ivliN1 at hi
  have hF : ρ.z.F = oct.Φ := kn.F
  simp only [h_nil, h_cons, d_le, d_eq, d_not, d_var, d_lit, d_cel, d_leq, d_fn, d_and, d_iff, IE.den, LE.den, AL.den, lenV, true_and, and_true, pcliN1_7, pcliN1_4, pcliN1_2, pcliN1_1, pcliN1_0, hF, pi2, pi3, pi4, pi5, pi6, pi7, pl1, pi8, pi9, pl3, pi10, pi11, pb1, pl2] at hp
  obtain ⟨p1, p2, p3, p4, p5, p6, p7, p8, p9, p10, p11⟩ := hp
  refine (show (Tx (ρ.z.rl 0) 0 ((0 : Int) + ((ρ.i .i64 1001) + (1 : Int))) ∧ (binI BinOp.or .u64 (ρ.i .u64 1000) (binI BinOp.shl .u64 (binI BinOp.and .u8 (clampK .u8 (intV (celV (ρ.z.rl 0) (ρ.i .i64 1001) 0))) (127 : Int)) ((7 : Int) * (ρ.i .i64 1001)))) = rdV (ρ.z.rl 0) ∧ (rdV (ρ.z.rl 0) ≤ (ρ.i .i64 1) ∨ rdV (ρ.z.rl 0) ≤ 0) ∧ (ρ.z.rl 0).length ≤ 2000) ∧ ((12 * ((ρ.z.rl 0).length + 1 - ((0 : Int) + ((ρ.i .i64 1001) + (1 : Int))).toNat) : Nat) < 12 * (ρ.z.rl 0).length + 40 - (ρ.i .i64 1001).toNat) from ?_)
  obtain ⟨u, h2⟩ := hi
  obtain ⟨k1, k2, k3⟩ := nu_read u (b := clampK .u8 (intV (celV (ρ.z.rl 0) (ρ.i .i64 1001) 0))) (by omega) (by omega) (by rw [Int.zero_add]) (by omega) (by omega) (by omega)
  simp only [d0] at k1 k2 k3
  exact ⟨⟨tx0 k1 (by omega), k3.symm, by omega, h2⟩, by omega⟩
theorem vcliN1_6 : VC TTliN invliN msliN 1 tliN1 wliN1_6 := by
  intro ρ kn hi hp
  have hi : ivliN1 ρ := hi
  unfold ivliN1 at hi
  have hF : ρ.z.F = oct.Φ := kn.F
  simp only [h_nil, h_cons, d_le, d_eq, d_not, d_var, d_lit, d_cel, d_leq, d_fn, d_and, d_iff, IE.den, LE.den, AL.den, lenV, true_and, and_true, pcliN1_3, pcliN1_1, pcliN1_0, hF, pi2, pi3, pi4, pi5, pi6, pi7, pl1, pi8, pi9, pl3, pi10, pi11, pb1, pl2] at hp
  obtain ⟨p1, p2, p3, p4, p5, p6, p7, p8, p9⟩ := hp
  refine all_cons (show (clampK .i64 (ρ.z.F.i 11 [.lst (ρ.z.rl 0), .int .i64 (ρ.i .i64 1)])) = (0 : Int) from ?_) (all_cons (show (clampK .i64 (ρ.z.F.i 10 [.lst (ρ.z.rl 0), .int .i64 (ρ.i .i64 1)])) = (111 : Int) from ?_) (all_nil))
  all_goals try simp only [hF, pi2, pi3, pi4, pi5, pi6, pi7, pl1, pi8, pi9, pl3, pi10, pi11, pb1, pl2]
  all_goals
    have hl := kn.ok.rl 0
    try simp only [rdE_in, rdN_in, rdV_in, txtE_in, txtN_ind hl, lsE_in, lsN_in hl] at *
    obtain ⟨u, h2⟩ := hi
    first
      | (have k := nu_end u (by omega) (by omega); simp only [d0] at k; have q := ls_no (L := (ρ.z.rl 0)) (m := (ρ.i .i64 1)) (by omega); have q2 : lsN (ρ.z.rl 0) (ρ.i .i64 1) = 0 := lsN_no (by omega); omega)
      | (have k := nu_bad u (b := clampK .u8 (intV (celV (ρ.z.rl 0) (ρ.i .i64 1001) 0))) (by omega) (by omega) (by rw [Int.zero_add]) (by omega); simp only [d0] at k; have q := ls_no (L := (ρ.z.rl 0)) (m := (ρ.i .i64 1)) (by omega); have q2 : lsN (ρ.z.rl 0) (ρ.i .i64 1) = 0 := lsN_no (by omega); omega)
      | (have k := nu_read u (b := clampK .u8 (intV (celV (ρ.z.rl 0) (ρ.i .i64 1001) 0))) (by omega) (by omega) (by rw [Int.zero_add]) (by omega) (by omega) (by omega); simp only [d0] at k; have q := ls_long (L := (ρ.z.rl 0)) (m := (ρ.i .i64 1)) k.1 (by rw [k.2.2]; omega); have q2 : lsN (ρ.z.rl 0) (ρ.i .i64 1) = 0 := lsN_no (by omega); omega)
theorem vcliN1_7 : VC TTliN invliN msliN 1 tliN1 wliN1_7 := by
  intro ρ kn hi hp
  have hi : ivliN1 ρ := hi
  unfold ivliN1 at hi
  have hF : ρ.z.F = oct.Φ := kn.F
  simp only [h_nil, h_cons, d_le, d_eq, d_not, d_var, d_lit, d_cel, d_leq, d_fn, d_and, d_iff, IE.den, LE.den, AL.den, lenV, true_and, and_true, pcliN1_12, pcliN1_10, pcliN1_8, pcliN1_5, pcliN1_3, pcliN1_1, pcliN1_0, hF, pi2, pi3, pi4, pi5, pi6, pi7, pl1, pi8, pi9, pl3, pi10, pi11, pb1, pl2] at hp
  obtain ⟨p1, p2, p3, p4, p5, p6, p7, p8, p9, p10, p11, p12, p13⟩ := hp
  refine (show (Tx (ρ.z.rl 0) 0 ((0 : Int) + ((ρ.i .i64 1001) + (1 : Int))) ∧ (binI BinOp.or .u64 (ρ.i .u64 1000) (binI BinOp.shl .u64 (binI BinOp.and .u8 (clampK .u8 (intV (celV (ρ.z.rl 0) (ρ.i .i64 1001) 0))) (127 : Int)) ((7 : Int) * (ρ.i .i64 1001)))) = rdV (ρ.z.rl 0) ∧ (rdV (ρ.z.rl 0) ≤ (ρ.i .i64 1) ∨ rdV (ρ.z.rl 0) ≤ 0) ∧ (ρ.z.rl 0).length ≤ 2000) ∧ ((12 * ((ρ.z.rl 0).length + 1 - ((0 : Int) + ((ρ.i .i64 1001) + (1 : Int))).toNat) : Nat) < 12 * (ρ.z.rl 0).length + 40 - (ρ.i .i64 1001).toNat) from ?_)
  obtain ⟨u, h2⟩ := hi
  obtain ⟨k1, k2, k3⟩ := nu_read u (b := clampK .u8 (intV (celV (ρ.z.rl 0) (ρ.i .i64 1001) 0))) (by omega) (by omega) (by rw [Int.zero_add]) (by omega) (by omega) (by omega)
  simp only [d0] at k1 k2 k3
  exact ⟨⟨tx0 k1 (by omega), k3.symm, by omega, h2⟩, by omega⟩
theorem vcliN1_9 : VC TTliN invliN msliN 1 tliN1 wliN1_9 := by
  intro ρ kn hi hp
  have hi : ivliN1 ρ := hi
  unfold ivliN1 at hi
  have hF : ρ.z.F = oct.Φ := kn.F
  simp only [h_nil, h_cons, d_le, d_eq, d_not, d_var, d_lit, d_cel, d_leq, d_fn, d_and, d_iff, IE.den, LE.den, AL.den, lenV, true_and, and_true, pcliN1_13, pcliN1_10, pcliN1_8, pcliN1_5, pcliN1_3, pcliN1_1, pcliN1_0, hF, pi2, pi3, pi4, pi5, pi6, pi7, pl1, pi8, pi9, pl3, pi10, pi11, pb1, pl2] at hp
  obtain ⟨p1, p2, p3, p4, p5, p6, p7, p8, p9, p10, p11, p12, p13⟩ := hp
  refine (show (Tx (ρ.z.rl 0) 0 ((0 : Int) + ((ρ.i .i64 1001) + (1 : Int))) ∧ (binI BinOp.or .u64 (ρ.i .u64 1000) (binI BinOp.shl .u64 (binI BinOp.and .u8 (clampK .u8 (intV (celV (ρ.z.rl 0) (ρ.i .i64 1001) 0))) (127 : Int)) ((7 : Int) * (ρ.i .i64 1001)))) = rdV (ρ.z.rl 0) ∧ (rdV (ρ.z.rl 0) ≤ (ρ.i .i64 1) ∨ rdV (ρ.z.rl 0) ≤ 0) ∧ (ρ.z.rl 0).length ≤ 2000) ∧ ((12 * ((ρ.z.rl 0).length + 1 - ((0 : Int) + ((ρ.i .i64 1001) + (1 : Int))).toNat) : Nat) < 12 * (ρ.z.rl 0).length + 40 - (ρ.i .i64 1001).toNat) from ?_)
  obtain ⟨u, h2⟩ := hi
  obtain ⟨k1, k2, k3⟩ := nu_read u (b := clampK .u8 (intV (celV (ρ.z.rl 0) (ρ.i .i64 1001) 0))) (by omega) (by omega) (by rw [Int.zero_add]) (by omega) (by omega) (by omega)
  simp only [d0] at k1 k2 k3
  exact ⟨⟨tx0 k1 (by omega), k3.symm, by omega, h2⟩, by omega⟩
theorem vcliN1_11 : VC TTliN invliN msliN 1 tliN1 wliN1_11 := by
  intro ρ kn hi hp
  have hi : ivliN1 ρ := hi
  unfold ivliN1 at hi
  have hF : ρ.z.F = oct.Φ := kn.F
  simp only [h_nil, h_cons, d_le, d_eq, d_not, d_var, d_lit, d_cel, d_leq, d_fn, d_and, d_iff, IE.den, LE.den, AL.den, lenV, true_and, and_true, pcliN1_8, pcliN1_5, pcliN1_3, pcliN1_1, pcliN1_0, hF, pi2, pi3, pi4, pi5, pi6, pi7, pl1, pi8, pi9, pl3, pi10, pi11, pb1, pl2] at hp
  obtain ⟨p1, p2, p3, p4, p5, p6, p7, p8, p9, p10, p11⟩ := hp
  refine all_cons (show (clampK .i64 (ρ.z.F.i 11 [.lst (ρ.z.rl 0), .int .i64 (ρ.i .i64 1)])) = (0 : Int) from ?_) (all_cons (show (clampK .i64 (ρ.z.F.i 10 [.lst (ρ.z.rl 0), .int .i64 (ρ.i .i64 1)])) = (111 : Int) from ?_) (all_nil))
  all_goals try simp only [hF, pi2, pi3, pi4, pi5, pi6, pi7, pl1, pi8, pi9, pl3, pi10, pi11, pb1, pl2]
  all_goals
    have hl := kn.ok.rl 0
    try simp only [rdE_in, rdN_in, rdV_in, txtE_in, txtN_ind hl, lsE_in, lsN_in hl] at *
    obtain ⟨u, h2⟩ := hi
    first
      | (have k := nu_end u (by omega) (by omega); simp only [d0] at k; have q := ls_no (L := (ρ.z.rl 0)) (m := (ρ.i .i64 1)) (by omega); have q2 : lsN (ρ.z.rl 0) (ρ.i .i64 1) = 0 := lsN_no (by omega); omega)
      | (have k := nu_bad u (b := clampK .u8 (intV (celV (ρ.z.rl 0) (ρ.i .i64 1001) 0))) (by omega) (by omega) (by rw [Int.zero_add]) (by omega); simp only [d0] at k; have q := ls_no (L := (ρ.z.rl 0)) (m := (ρ.i .i64 1)) (by omega); have q2 : lsN (ρ.z.rl 0) (ρ.i .i64 1) = 0 := lsN_no (by omega); omega)
      | (have k := nu_read u (b := clampK .u8 (intV (celV (ρ.z.rl 0) (ρ.i .i64 1001) 0))) (by omega) (by omega) (by rw [Int.zero_add]) (by omega) (by omega) (by omega); simp only [d0] at k; have q := ls_long (L := (ρ.z.rl 0)) (m := (ρ.i .i64 1)) k.1 (by rw [k.2.2]; omega); have q2 : lsN (ρ.z.rl 0) (ρ.i .i64 1) = 0 := lsN_no (by omega); omega)
theorem vcliN1_12 : VC TTliN invliN msliN 1 tliN1 wliN1_12 := by
  intro ρ kn hi hp
  have hi : ivliN1 ρ := hi
  unfold ivliN1 at hi
  have hF : ρ.z.F = oct.Φ := kn.F
  simp only [h_nil, h_cons, d_le, d_eq, d_not, d_var, d_lit, d_cel, d_leq, d_fn, d_and, d_iff, IE.den, LE.den, AL.den, lenV, true_and, and_true, pcliN1_9, pcliN1_5, pcliN1_3, pcliN1_1, pcliN1_0, hF, pi2, pi3, pi4, pi5, pi6, pi7, pl1, pi8, pi9, pl3, pi10, pi11, pb1, pl2] at hp
  obtain ⟨p1, p2, p3, p4, p5, p6, p7, p8, p9, p10, p11⟩ := hp
  refine (show (Nu (ρ.z.rl 0) 0 0 ((ρ.i .i64 1001) + (1 : Int)) (binI BinOp.or .u64 (ρ.i .u64 1000) (binI BinOp.shl .u64 (binI BinOp.and .u8 (clampK .u8 (intV (celV (ρ.z.rl 0) (ρ.i .i64 1001) 0))) (127 : Int)) ((7 : Int) * (ρ.i .i64 1001)))) ∧ (ρ.z.rl 0).length ≤ 2000) ∧ ((12 * (ρ.z.rl 0).length + 40 - ((ρ.i .i64 1001) + (1 : Int)).toNat : Nat) < 12 * (ρ.z.rl 0).length + 40 - (ρ.i .i64 1001).toNat) from ?_)
  obtain ⟨u, h2⟩ := hi
  exact ⟨⟨nu_go u (b := clampK .u8 (intV (celV (ρ.z.rl 0) (ρ.i .i64 1001) 0))) (by omega) (by omega) (by rw [Int.zero_add]) (by omega) (by omega) (by omega), h2⟩, by omega⟩
theorem vcliN1_13 : VC TTliN invliN msliN 1 tliN1 wliN1_13 := by
  intro ρ kn hi hp
  have hi : ivliN1 ρ := hi
  unfold ivliN1 at hi
  have hF : ρ.z.F = oct.Φ := kn.F
  simp only [h_nil, h_cons, d_le, d_eq, d_not, d_var, d_lit, d_cel, d_leq, d_fn, d_and, d_iff, IE.den, LE.den, AL.den, lenV, true_and, and_true, pcliN1_14, pcliN1_11, pcliN1_9, pcliN1_5, pcliN1_3, pcliN1_1, pcliN1_0, hF, pi2, pi3, pi4, pi5, pi6, pi7, pl1, pi8, pi9, pl3, pi10, pi11, pb1, pl2] at hp
  obtain ⟨p1, p2, p3, p4, p5, p6, p7, p8, p9, p10, p11, p12, p13⟩ := hp
  refine (show (Tx (ρ.z.rl 0) 0 ((0 : Int) + ((ρ.i .i64 1001) + (1 : Int))) ∧ (binI BinOp.or .u64 (ρ.i .u64 1000) (binI BinOp.shl .u64 (binI BinOp.and .u8 (clampK .u8 (intV (celV (ρ.z.rl 0) (ρ.i .i64 1001) 0))) (127 : Int)) ((7 : Int) * (ρ.i .i64 1001)))) = rdV (ρ.z.rl 0) ∧ (rdV (ρ.z.rl 0) ≤ (ρ.i .i64 1) ∨ rdV (ρ.z.rl 0) ≤ 0) ∧ (ρ.z.rl 0).length ≤ 2000) ∧ ((12 * ((ρ.z.rl 0).length + 1 - ((0 : Int) + ((ρ.i .i64 1001) + (1 : Int))).toNat) : Nat) < 12 * (ρ.z.rl 0).length + 40 - (ρ.i .i64 1001).toNat) from ?_)
  obtain ⟨u, h2⟩ := hi
  obtain ⟨k1, k2, k3⟩ := nu_read u (b := clampK .u8 (intV (celV (ρ.z.rl 0) (ρ.i .i64 1001) 0))) (by omega) (by omega) (by rw [Int.zero_add]) (by omega) (by omega) (by omega)
  simp only [d0] at k1 k2 k3
  exact ⟨⟨tx0 k1 (by omega), k3.symm, by omega, h2⟩, by omega⟩
theorem vcliN1_15 : VC TTliN invliN msliN 1 tliN1 wliN1_15 := by
  intro ρ kn hi hp
  have hi : ivliN1 ρ := hi
  unfold ivliN1 at hi
  have hF : ρ.z.F = oct.Φ := kn.F
  simp only [h_nil, h_cons, d_le, d_eq, d_not, d_var, d_lit, d_cel, d_leq, d_fn, d_and, d_iff, IE.den, LE.den, AL.den, lenV, true_and, and_true, pcliN1_15, pcliN1_11, pcliN1_9, pcliN1_5, pcliN1_3, pcliN1_1, pcliN1_0, hF, pi2, pi3, pi4, pi5, pi6, pi7, pl1, pi8, pi9, pl3, pi10, pi11, pb1, pl2] at hp
  obtain ⟨p1, p2, p3, p4, p5, p6, p7, p8, p9, p10, p11, p12, p13⟩ := hp
  refine (show (Tx (ρ.z.rl 0) 0 ((0 : Int) + ((ρ.i .i64 1001) + (1 : Int))) ∧ (binI BinOp.or .u64 (ρ.i .u64 1000) (binI BinOp.shl .u64 (binI BinOp.and .u8 (clampK .u8 (intV (celV (ρ.z.rl 0) (ρ.i .i64 1001) 0))) (127 : Int)) ((7 : Int) * (ρ.i .i64 1001)))) = rdV (ρ.z.rl 0) ∧ (rdV (ρ.z.rl 0) ≤ (ρ.i .i64 1) ∨ rdV (ρ.z.rl 0) ≤ 0) ∧ (ρ.z.rl 0).length ≤ 2000) ∧ ((12 * ((ρ.z.rl 0).length + 1 - ((0 : Int) + ((ρ.i .i64 1001) + (1 : Int))).toNat) : Nat) < 12 * (ρ.z.rl 0).length + 40 - (ρ.i .i64 1001).toNat) from ?_)
  obtain ⟨u, h2⟩ := hi
  obtain ⟨k1, k2, k3⟩ := nu_read u (b := clampK .u8 (intV (celV (ρ.z.rl 0) (ρ.i .i64 1001) 0))) (by omega) (by omega) (by rw [Int.zero_add]) (by omega) (by omega) (by omega)
  simp only [d0] at k1 k2 k3
  exact ⟨⟨tx0 k1 (by omega), k3.symm, by omega, h2⟩, by omega⟩
def ivliN2 (ρ : Rho) : Prop := Tx (ρ.z.rl 0) 0 (ρ.i .i64 1003) ∧ (ρ.i .u64 1002) = rdV (ρ.z.rl 0) ∧ (rdV (ρ.z.rl 0) ≤ (ρ.i .i64 1) ∨ rdV (ρ.z.rl 0) ≤ 0) ∧ (ρ.z.rl 0).length ≤ 2000
theorem vcliN2_0 : VC TTliN invliN msliN 2 tliN2 wliN2_0 := by
  intro ρ kn hi hp
  have hi : ivliN2 ρ := hi
  unfold ivliN2 at hi
  have hF : ρ.z.F = oct.Φ := kn.F
  simp only [h_nil, h_cons, d_le, d_eq, d_not, d_var, d_lit, d_cel, d_leq, d_fn, d_and, d_iff, IE.den, LE.den, AL.den, lenV, true_and, and_true, pcliN2_0, hF, pi2, pi3, pi4, pi5, pi6, pi7, pl1, pi8, pi9, pl3, pi10, pi11, pb1, pl2] at hp
  obtain ⟨p1, p2, p3, p4, p5, p6⟩ := hp
  refine all_cons (show (clampK .i64 (ρ.z.F.i 11 [.lst (ρ.z.rl 0), .int .i64 (ρ.i .i64 1)])) = (ρ.i .i64 1003) from ?_) (all_cons (show (clampK .i64 (ρ.z.F.i 10 [.lst (ρ.z.rl 0), .int .i64 (ρ.i .i64 1)])) = (0 : Int) from ?_) (all_nil))
  all_goals try simp only [hF, pi2, pi3, pi4, pi5, pi6, pi7, pl1, pi8, pi9, pl3, pi10, pi11, pb1, pl2]
  all_goals
    have hl := kn.ok.rl 0
    try simp only [rdE_in, rdN_in, rdV_in, txtE_in, txtN_ind hl, lsE_in, lsN_in hl] at *
    obtain ⟨t, hn, h1, h2⟩ := hi
    have kr := tx_rng t
    have hu := u64_rng kn.ok 1002
    have q := tx_end (m := (ρ.i .i64 1)) t (by omega) h1
    omega
theorem vcliN2_1 : VC TTliN invliN msliN 2 tliN2 wliN2_1 := by
  intro ρ kn hi hp
  have hi : ivliN2 ρ := hi
  unfold ivliN2 at hi
  have hF : ρ.z.F = oct.Φ := kn.F
  simp only [h_nil, h_cons, d_le, d_eq, d_not, d_var, d_lit, d_cel, d_leq, d_fn, d_and, d_iff, IE.den, LE.den, AL.den, lenV, true_and, and_true, pcliN2_1, pcliN2_0, hF, pi2, pi3, pi4, pi5, pi6, pi7, pl1, pi8, pi9, pl3, pi10, pi11, pb1, pl2] at hp
  obtain ⟨p1, p2, p3, p4, p5, p6, p7⟩ := hp
  refine (show (Nu (ρ.z.rl 0) (ρ.i .i64 1003) (0 : Int) (0 : Int) (0 : Int) ∧ Tx (ρ.z.rl 0) 0 (ρ.i .i64 1003) ∧ (ρ.i .u64 1002) = rdV (ρ.z.rl 0) ∧ 1 ≤ (ρ.i .u64 1002) ∧ (rdV (ρ.z.rl 0) ≤ (ρ.i .i64 1) ∨ rdV (ρ.z.rl 0) ≤ 0) ∧ (ρ.z.rl 0).length ≤ 2000) ∧ ((12 * ((ρ.z.rl 0).length + 1 - (ρ.i .i64 1003).toNat) - 1 - (0 : Int).toNat : Nat) < 12 * ((ρ.z.rl 0).length + 1 - (ρ.i .i64 1003).toNat)) from ?_)
  obtain ⟨t, hn, h1, h2⟩ := hi
  have kr := tx_rng t
  exact ⟨⟨nu0 kr (by omega), t, hn, by omega, h1, h2⟩, by omega⟩
theorem vcliN2_2 : VC TTliN invliN msliN 2 tliN2 wliN2_2 := by
  intro ρ kn hi hp
  have hi : ivliN2 ρ := hi
  unfold ivliN2 at hi
  have hF : ρ.z.F = oct.Φ := kn.F
  simp only [h_nil, h_cons, d_le, d_eq, d_not, d_var, d_lit, d_cel, d_leq, d_fn, d_and, d_iff, IE.den, LE.den, AL.den, lenV, true_and, and_true, pcliN2_1, pcliN2_0, hF, pi2, pi3, pi4, pi5, pi6, pi7, pl1, pi8, pi9, pl3, pi10, pi11, pb1, pl2] at hp
  obtain ⟨p1, p2, p3, p4, p5, p6, p7⟩ := hp
  refine (show (Nu (ρ.z.rl 0) (ρ.i .i64 1003) (ρ.i .i64 1003) (0 : Int) (0 : Int) ∧ Tx (ρ.z.rl 0) 0 (ρ.i .i64 1003) ∧ (ρ.i .u64 1002) = rdV (ρ.z.rl 0) ∧ 1 ≤ (ρ.i .u64 1002) ∧ (rdV (ρ.z.rl 0) ≤ (ρ.i .i64 1) ∨ rdV (ρ.z.rl 0) ≤ 0) ∧ (ρ.z.rl 0).length ≤ 2000) ∧ ((12 * ((ρ.z.rl 0).length + 1 - (ρ.i .i64 1003).toNat) - 1 - (0 : Int).toNat : Nat) < 12 * ((ρ.z.rl 0).length + 1 - (ρ.i .i64 1003).toNat)) from ?_)
  obtain ⟨t, hn, h1, h2⟩ := hi
  have kr := tx_rng t
  exact ⟨⟨nu0 kr (by omega), t, hn, by omega, h1, h2⟩, by omega⟩
def ivliN3 (ρ : Rho) : Prop := 1 ≤ (ρ.i .i64 1010) ∧ Tx (ρ.z.rl 0) (ρ.i .i64 1010) (ρ.i .i64 1011) ∧ (ρ.l 1012) = txsT (ρ.z.rl 0) (ρ.i .i64 1010).toNat ∧ (ρ.i .u64 1009) + (ρ.i .i64 1010) = rdV (ρ.z.rl 0) ∧ (rdV (ρ.z.rl 0) ≤ (ρ.i .i64 1) ∨ rdV (ρ.z.rl 0) ≤ 0) ∧ (ρ.z.rl 0).length ≤ 2000
theorem vcliN3_0 : VC TTliN invliN msliN 3 tliN3 wliN3_0 := by
  intro ρ kn hi hp
  have hi : ivliN3 ρ := hi
  unfold ivliN3 at hi
  have hF : ρ.z.F = oct.Φ := kn.F
  simp only [h_nil, h_cons, d_le, d_eq, d_not, d_var, d_lit, d_cel, d_leq, d_fn, d_and, d_iff, IE.den, LE.den, AL.den, lenV, true_and, and_true, pcliN3_0, hF, pi2, pi3, pi4, pi5, pi6, pi7, pl1, pi8, pi9, pl3, pi10, pi11, pb1, pl2] at hp
  obtain ⟨p1, p2, p3, p4, p5, p6, p7, p8⟩ := hp
  exfalso
  have hB' : ¬ lsB (ρ.z.rl 0) (ρ.i .i64 1) = true := by assumption
  obtain ⟨hj, t, hw, hn, h1, h2⟩ := hi
  have kr := tx_rng t
  have hu := u64_rng kn.ok 1009
  have q := tx_end (m := (ρ.i .i64 1)) t (by omega) h1
  exact hB' (lsB_t.2 ⟨q.1, by omega⟩)
theorem vcliN3_1 : VC TTliN invliN msliN 3 tliN3 wliN3_1 := by
  intro ρ kn hi hp
  have hi : ivliN3 ρ := hi
  unfold ivliN3 at hi
  have hF : ρ.z.F = oct.Φ := kn.F
  simp only [h_nil, h_cons, d_le, d_eq, d_not, d_var, d_lit, d_cel, d_leq, d_fn, d_and, d_iff, IE.den, LE.den, AL.den, lenV, true_and, and_true, pcliN3_1, pcliN3_0, hF, pi2, pi3, pi4, pi5, pi6, pi7, pl1, pi8, pi9, pl3, pi10, pi11, pb1, pl2] at hp
  obtain ⟨p1, p2, p3, p4, p5, p6, p7, p8, p9⟩ := hp
  refine (show (1 ≤ (ρ.i .i64 1010) ∧ Nu (ρ.z.rl 0) (ρ.i .i64 1011) (0 : Int) (0 : Int) (0 : Int) ∧ Tx (ρ.z.rl 0) (ρ.i .i64 1010) (ρ.i .i64 1011) ∧ (ρ.l 1012) = txsT (ρ.z.rl 0) (ρ.i .i64 1010).toNat ∧ (ρ.i .u64 1009) + (ρ.i .i64 1010) = rdV (ρ.z.rl 0) ∧ 1 ≤ (ρ.i .u64 1009) ∧ (rdV (ρ.z.rl 0) ≤ (ρ.i .i64 1) ∨ rdV (ρ.z.rl 0) ≤ 0) ∧ (ρ.z.rl 0).length ≤ 2000) ∧ ((12 * ((ρ.z.rl 0).length + 1 - (ρ.i .i64 1011).toNat) - 1 - (0 : Int).toNat : Nat) < 12 * ((ρ.z.rl 0).length + 1 - (ρ.i .i64 1011).toNat)) from ?_)
  obtain ⟨hj, t, hw, hn, h1, h2⟩ := hi
  have kr := tx_rng t
  exact ⟨⟨hj, nu0 kr (by omega), t, hw, hn, by omega, h1, h2⟩, by omega⟩
theorem vcliN3_2 : VC TTliN invliN msliN 3 tliN3 wliN3_2 := by
  intro ρ kn hi hp
  have hi : ivliN3 ρ := hi
  unfold ivliN3 at hi
  have hF : ρ.z.F = oct.Φ := kn.F
  simp only [h_nil, h_cons, d_le, d_eq, d_not, d_var, d_lit, d_cel, d_leq, d_fn, d_and, d_iff, IE.den, LE.den, AL.den, lenV, true_and, and_true, pcliN3_1, pcliN3_0, hF, pi2, pi3, pi4, pi5, pi6, pi7, pl1, pi8, pi9, pl3, pi10, pi11, pb1, pl2] at hp
  obtain ⟨p1, p2, p3, p4, p5, p6, p7, p8, p9⟩ := hp
  refine (show (1 ≤ (ρ.i .i64 1010) ∧ Nu (ρ.z.rl 0) (ρ.i .i64 1011) (ρ.i .i64 1011) (0 : Int) (0 : Int) ∧ Tx (ρ.z.rl 0) (ρ.i .i64 1010) (ρ.i .i64 1011) ∧ (ρ.l 1012) = txsT (ρ.z.rl 0) (ρ.i .i64 1010).toNat ∧ (ρ.i .u64 1009) + (ρ.i .i64 1010) = rdV (ρ.z.rl 0) ∧ 1 ≤ (ρ.i .u64 1009) ∧ (rdV (ρ.z.rl 0) ≤ (ρ.i .i64 1) ∨ rdV (ρ.z.rl 0) ≤ 0) ∧ (ρ.z.rl 0).length ≤ 2000) ∧ ((12 * ((ρ.z.rl 0).length + 1 - (ρ.i .i64 1011).toNat) - 1 - (0 : Int).toNat : Nat) < 12 * ((ρ.z.rl 0).length + 1 - (ρ.i .i64 1011).toNat)) from ?_)
  obtain ⟨hj, t, hw, hn, h1, h2⟩ := hi
  have kr := tx_rng t
  exact ⟨⟨hj, nu0 kr (by omega), t, hw, hn, by omega, h1, h2⟩, by omega⟩
def ivliN4 (ρ : Rho) : Prop := Nu (ρ.z.rl 0) (ρ.i .i64 1003) (ρ.i .i64 1004) (ρ.i .i64 1007) (ρ.i .u64 1008) ∧ Tx (ρ.z.rl 0) 0 (ρ.i .i64 1003) ∧ (ρ.i .u64 1002) = rdV (ρ.z.rl 0) ∧ 1 ≤ (ρ.i .u64 1002) ∧ (rdV (ρ.z.rl 0) ≤ (ρ.i .i64 1) ∨ rdV (ρ.z.rl 0) ≤ 0) ∧ (ρ.z.rl 0).length ≤ 2000
theorem vcgliN4_0 : VC TTliN invliN msliN 4 tliN4 wliN4_0 ∧ VC TTliN invliN msliN 4 tliN4 wliN4_4 ∧ VC TTliN invliN msliN 4 tliN4 wliN4_8 ∧ VC TTliN invliN msliN 4 tliN4 wliN4_13 := by
  refine ⟨?_, ?_, ?_, ?_⟩
  all_goals
    intro ρ kn hi hp
    have hi : ivliN4 ρ := hi
    unfold ivliN4 at hi
    have hF : ρ.z.F = oct.Φ := kn.F
    simp only [h_nil, h_cons, d_le, d_eq, d_not, d_var, d_lit, d_cel, d_leq, d_fn, d_and, d_iff, IE.den, LE.den, AL.den, lenV, true_and, and_true, pcliN4_0, pcliN4_4, pcliN4_2, pcliN4_1, pcliN4_9, pcliN4_7, pcliN4_5, pcliN4_3, pcliN4_10, pcliN4_8, hF, pi2, pi3, pi4, pi5, pi6, pi7, pl1, pi8, pi9, pl3, pi10, pi11, pb1, pl2] at hp
    have p1 := And.left hp
    replace hp := And.right hp
    repeat (have _ := And.left hp; replace hp := And.right hp)
    refine all_cons (show (clampK .i64 (ρ.z.F.i 11 [.lst (ρ.z.rl 0), .int .i64 (ρ.i .i64 1)])) = (0 : Int) from ?_) (all_cons (show (clampK .i64 (ρ.z.F.i 10 [.lst (ρ.z.rl 0), .int .i64 (ρ.i .i64 1)])) = (110 : Int) from ?_) (all_nil))
    all_goals try simp only [hF, pi2, pi3, pi4, pi5, pi6, pi7, pl1, pi8, pi9, pl3, pi10, pi11, pb1, pl2]
    all_goals
      have hl := kn.ok.rl 0
      try simp only [rdE_in, rdN_in, rdV_in, txtE_in, txtN_ind hl, lsE_in, lsN_in hl] at *
      obtain ⟨u, t, hn, h0, h1, h2⟩ := hi
      have kr := tx_rng t
      first
        | (have k := nu_end u (by omega) (by omega); have k4 := text_no (R := (ρ.z.rl 0)) (a := (ρ.i .i64 1003)) (by omega); have q := tx_err (m := (ρ.i .i64 1)) t (by omega) h1 (e := txtE (List.drop ((ρ.i .i64 1003)).toNat (ρ.z.rl 0))) rfl (by omega); have q2 : lsN (ρ.z.rl 0) (ρ.i .i64 1) = 0 := lsN_no (by omega); omega)
        | (have k := nu_bad u (b := clampK .u8 (intV (celV (ρ.z.rl 0) ((ρ.i .i64 1004) + (ρ.i .i64 1007)) 0))) (by omega) (by omega) rfl (by omega); have k4 := text_no (R := (ρ.z.rl 0)) (a := (ρ.i .i64 1003)) (by omega); have q := tx_err (m := (ρ.i .i64 1)) t (by omega) h1 (e := txtE (List.drop ((ρ.i .i64 1003)).toNat (ρ.z.rl 0))) rfl (by omega); have q2 : lsN (ρ.z.rl 0) (ρ.i .i64 1) = 0 := lsN_no (by omega); omega)
        | (have k := nu_read u (b := clampK .u8 (intV (celV (ρ.z.rl 0) ((ρ.i .i64 1004) + (ρ.i .i64 1007)) 0))) (by omega) (by omega) rfl (by omega) (by omega) (by omega); have k4 := text_long kr k.1 k.2.1 k.2.2 (by omega); have q := tx_err (m := (ρ.i .i64 1)) t (by omega) h1 (e := txtE (List.drop ((ρ.i .i64 1003)).toNat (ρ.z.rl 0))) rfl (by omega); have q2 : lsN (ρ.z.rl 0) (ρ.i .i64 1) = 0 := lsN_no (by omega); omega)
theorem vcliN4_1 : VC TTliN invliN msliN 4 tliN4 wliN4_1 := by
  intro ρ kn hi hp
  have hi : ivliN4 ρ := hi
  unfold ivliN4 at hi
  have hF : ρ.z.F = oct.Φ := kn.F
  simp only [h_nil, h_cons, d_le, d_eq, d_not, d_var, d_lit, d_cel, d_leq, d_fn, d_and, d_iff, IE.den, LE.den, AL.den, lenV, true_and, and_true, pcliN4_2, pcliN4_1, pcliN4_0, hF, pi2, pi3, pi4, pi5, pi6, pi7, pl1, pi8, pi9, pl3, pi10, pi11, pb1, pl2] at hp
  obtain ⟨p1, p2, p3, p4, p5, p6, p7, p8, p9, p10, p11, p12, p13, p14⟩ := hp
  refine (show (Nu (ρ.z.rl 0) (ρ.i .i64 1003) (ρ.i .i64 1004) ((ρ.i .i64 1007) + (1 : Int)) (binI BinOp.or .u64 (ρ.i .u64 1008) (binI BinOp.shl .u64 (binI BinOp.and .u8 (clampK .u8 (intV (celV (ρ.z.rl 0) ((ρ.i .i64 1004) + (ρ.i .i64 1007)) 0))) (127 : Int)) ((7 : Int) * (ρ.i .i64 1007)))) ∧ Tx (ρ.z.rl 0) 0 (ρ.i .i64 1003) ∧ (ρ.i .u64 1002) = rdV (ρ.z.rl 0) ∧ 1 ≤ (ρ.i .u64 1002) ∧ (rdV (ρ.z.rl 0) ≤ (ρ.i .i64 1) ∨ rdV (ρ.z.rl 0) ≤ 0) ∧ (ρ.z.rl 0).length ≤ 2000) ∧ ((12 * ((ρ.z.rl 0).length + 1 - (ρ.i .i64 1003).toNat) - 1 - ((ρ.i .i64 1007) + (1 : Int)).toNat : Nat) < 12 * ((ρ.z.rl 0).length + 1 - (ρ.i .i64 1003).toNat) - 1 - (ρ.i .i64 1007).toNat) from ?_)
  obtain ⟨u, t, hn, h0, h1, h2⟩ := hi
  have kr := tx_rng t
  exact ⟨⟨nu_go u (b := clampK .u8 (intV (celV (ρ.z.rl 0) ((ρ.i .i64 1004) + (ρ.i .i64 1007)) 0))) (by omega) (by omega) rfl (by omega) (by omega) (by omega), t, hn, h0, h1, h2⟩, by omega⟩
theorem vcliN4_2 : VC TTliN invliN msliN 4 tliN4 wliN4_2 := by
  intro ρ kn hi hp
  have hi : ivliN4 ρ := hi
  unfold ivliN4 at hi
  have hF : ρ.z.F = oct.Φ := kn.F
  simp only [h_nil, h_cons, d_le, d_eq, d_not, d_var, d_lit, d_cel, d_leq, d_fn, d_and, d_iff, IE.den, LE.den, AL.den, lenV, true_and, and_true, pcliN4_6, pcliN4_4, pcliN4_2, pcliN4_1, pcliN4_0, hF, pi2, pi3, pi4, pi5, pi6, pi7, pl1, pi8, pi9, pl3, pi10, pi11, pb1, pl2] at hp
  obtain ⟨p1, p2, p3, p4, p5, p6, p7, p8, p9, p10, p11, p12, p13, p14, p15, p16⟩ := hp
  refine (show (1 ≤ (1 : Int) ∧ Tx (ρ.z.rl 0) (1 : Int) (((ρ.i .i64 1003) + ((ρ.i .i64 1007) + (1 : Int))) + (binI BinOp.or .u64 (ρ.i .u64 1008) (binI BinOp.shl .u64 (binI BinOp.and .u8 (clampK .u8 (intV (celV (ρ.z.rl 0) ((ρ.i .i64 1004) + (ρ.i .i64 1007)) 0))) (127 : Int)) ((7 : Int) * (ρ.i .i64 1007))))) ∧ ([[Go.Value.string (byteL ((ρ.z.rl 0).take (binI BinOp.or .u64 (ρ.i .u64 1008) (binI BinOp.shl .u64 (binI BinOp.and .u8 (clampK .u8 (intV (celV (ρ.z.rl 0) ((ρ.i .i64 1004) + (ρ.i .i64 1007)) 0))) (127 : Int)) ((7 : Int) * (ρ.i .i64 1007)))).toNat))]] : LV) = txsT (ρ.z.rl 0) (1 : Int).toNat ∧ ((ρ.i .u64 1002) - (1 : Int)) + (1 : Int) = rdV (ρ.z.rl 0) ∧ (rdV (ρ.z.rl 0) ≤ (ρ.i .i64 1) ∨ rdV (ρ.z.rl 0) ≤ 0) ∧ (ρ.z.rl 0).length ≤ 2000) ∧ ((12 * ((ρ.z.rl 0).length + 1 - (((ρ.i .i64 1003) + ((ρ.i .i64 1007) + (1 : Int))) + (binI BinOp.or .u64 (ρ.i .u64 1008) (binI BinOp.shl .u64 (binI BinOp.and .u8 (clampK .u8 (intV (celV (ρ.z.rl 0) ((ρ.i .i64 1004) + (ρ.i .i64 1007)) 0))) (127 : Int)) ((7 : Int) * (ρ.i .i64 1007))))).toNat) : Nat) < 12 * ((ρ.z.rl 0).length + 1 - (ρ.i .i64 1003).toNat) - 1 - (ρ.i .i64 1007).toNat) from ?_)
  obtain ⟨u, t, hn, h0, h1, h2⟩ := hi
  have kr := tx_rng t
  obtain ⟨k1, k2, k3⟩ := nu_read u (b := clampK .u8 (intV (celV (ρ.z.rl 0) ((ρ.i .i64 1004) + (ρ.i .i64 1007)) 0))) (by omega) (by omega) rfl (by omega) (by omega) (by omega)
  have kv := rdV_rng (List.drop ((ρ.i .i64 1003)).toNat (ρ.z.rl 0))
  rw [k3] at kv
  have hT := kn.rom 0 _ _ rfl
  obtain ⟨e1, e2, e3⟩ := text_ok hT kr k1 k2 k3 (by omega) (by omega)
  have t2 := txs t e1
  have w2 := txs_s t (W := []) rfl
  rw [e2, ← Int.add_assoc] at t2
  rw [e3] at w2
  refine ⟨⟨by omega, t2, ?_, by omega, h1, h2⟩, by omega⟩
  first
    | exact w2
    | (rw [show ∀ x : Int, x = 0 → x.toNat = 0 from fun x h => by omega] at w2 ⊢
       · simp only [List.take_zero] at w2 ⊢
         exact w2
       all_goals omega)
theorem vcliN4_3 : VC TTliN invliN msliN 4 tliN4 wliN4_3 := by
  intro ρ kn hi hp
  have hi : ivliN4 ρ := hi
  unfold ivliN4 at hi
  have hF : ρ.z.F = oct.Φ := kn.F
  simp only [h_nil, h_cons, d_le, d_eq, d_not, d_var, d_lit, d_cel, d_leq, d_fn, d_and, d_iff, IE.den, LE.den, AL.den, lenV, true_and, and_true, pcliN4_6, pcliN4_4, pcliN4_2, pcliN4_1, pcliN4_0, hF, pi2, pi3, pi4, pi5, pi6, pi7, pl1, pi8, pi9, pl3, pi10, pi11, pb1, pl2] at hp
  obtain ⟨p1, p2, p3, p4, p5, p6, p7, p8, p9, p10, p11, p12, p13, p14, p15, p16⟩ := hp
  refine (show (1 ≤ (1 : Int) ∧ Tx (ρ.z.rl 0) (1 : Int) (((ρ.i .i64 1003) + ((ρ.i .i64 1007) + (1 : Int))) + (binI BinOp.or .u64 (ρ.i .u64 1008) (binI BinOp.shl .u64 (binI BinOp.and .u8 (clampK .u8 (intV (celV (ρ.z.rl 0) ((ρ.i .i64 1004) + (ρ.i .i64 1007)) 0))) (127 : Int)) ((7 : Int) * (ρ.i .i64 1007))))) ∧ ([[Go.Value.string (byteL (((ρ.z.rl 0).drop ((ρ.i .i64 1003) + ((ρ.i .i64 1007) + (1 : Int))).toNat).take (binI BinOp.or .u64 (ρ.i .u64 1008) (binI BinOp.shl .u64 (binI BinOp.and .u8 (clampK .u8 (intV (celV (ρ.z.rl 0) ((ρ.i .i64 1004) + (ρ.i .i64 1007)) 0))) (127 : Int)) ((7 : Int) * (ρ.i .i64 1007)))).toNat))]] : LV) = txsT (ρ.z.rl 0) (1 : Int).toNat ∧ ((ρ.i .u64 1002) - (1 : Int)) + (1 : Int) = rdV (ρ.z.rl 0) ∧ (rdV (ρ.z.rl 0) ≤ (ρ.i .i64 1) ∨ rdV (ρ.z.rl 0) ≤ 0) ∧ (ρ.z.rl 0).length ≤ 2000) ∧ ((12 * ((ρ.z.rl 0).length + 1 - (((ρ.i .i64 1003) + ((ρ.i .i64 1007) + (1 : Int))) + (binI BinOp.or .u64 (ρ.i .u64 1008) (binI BinOp.shl .u64 (binI BinOp.and .u8 (clampK .u8 (intV (celV (ρ.z.rl 0) ((ρ.i .i64 1004) + (ρ.i .i64 1007)) 0))) (127 : Int)) ((7 : Int) * (ρ.i .i64 1007))))).toNat) : Nat) < 12 * ((ρ.z.rl 0).length + 1 - (ρ.i .i64 1003).toNat) - 1 - (ρ.i .i64 1007).toNat) from ?_)
  obtain ⟨u, t, hn, h0, h1, h2⟩ := hi
  have kr := tx_rng t
  obtain ⟨k1, k2, k3⟩ := nu_read u (b := clampK .u8 (intV (celV (ρ.z.rl 0) ((ρ.i .i64 1004) + (ρ.i .i64 1007)) 0))) (by omega) (by omega) rfl (by omega) (by omega) (by omega)
  have kv := rdV_rng (List.drop ((ρ.i .i64 1003)).toNat (ρ.z.rl 0))
  rw [k3] at kv
  have hT := kn.rom 0 _ _ rfl
  obtain ⟨e1, e2, e3⟩ := text_ok hT kr k1 k2 k3 (by omega) (by omega)
  have t2 := txs t e1
  have w2 := txs_s t (W := []) rfl
  rw [e2, ← Int.add_assoc] at t2
  rw [e3] at w2
  refine ⟨⟨by omega, t2, ?_, by omega, h1, h2⟩, by omega⟩
  first
    | exact w2
    | (rw [show ∀ x : Int, x = 0 → x.toNat = 0 from fun x h => by omega] at w2 ⊢
       · simp only [List.take_zero] at w2 ⊢
         exact w2
       all_goals omega)
theorem vcliN4_5 : VC TTliN invliN msliN 4 tliN4 wliN4_5 := by
  intro ρ kn hi hp
  have hi : ivliN4 ρ := hi
  unfold ivliN4 at hi
  have hF : ρ.z.F = oct.Φ := kn.F
  simp only [h_nil, h_cons, d_le, d_eq, d_not, d_var, d_lit, d_cel, d_leq, d_fn, d_and, d_iff, IE.den, LE.den, AL.den, lenV, true_and, and_true, pcliN4_3, pcliN4_1, pcliN4_0, hF, pi2, pi3, pi4, pi5, pi6, pi7, pl1, pi8, pi9, pl3, pi10, pi11, pb1, pl2] at hp
  obtain ⟨p1, p2, p3, p4, p5, p6, p7, p8, p9, p10, p11, p12, p13, p14⟩ := hp
  refine all_cons (show (clampK .i64 (ρ.z.F.i 11 [.lst (ρ.z.rl 0), .int .i64 (ρ.i .i64 1)])) = (0 : Int) from ?_) (all_cons (show (clampK .i64 (ρ.z.F.i 10 [.lst (ρ.z.rl 0), .int .i64 (ρ.i .i64 1)])) = (111 : Int) from ?_) (all_nil))
  all_goals try simp only [hF, pi2, pi3, pi4, pi5, pi6, pi7, pl1, pi8, pi9, pl3, pi10, pi11, pb1, pl2]
  all_goals
    have hl := kn.ok.rl 0
    try simp only [rdE_in, rdN_in, rdV_in, txtE_in, txtN_ind hl, lsE_in, lsN_in hl] at *
    obtain ⟨u, t, hn, h0, h1, h2⟩ := hi
    have kr := tx_rng t
    first
      | (have k := nu_end u (by omega) (by omega); have k4 := text_no (R := (ρ.z.rl 0)) (a := (ρ.i .i64 1003)) (by omega); have q := tx_err (m := (ρ.i .i64 1)) t (by omega) h1 (e := txtE (List.drop ((ρ.i .i64 1003)).toNat (ρ.z.rl 0))) rfl (by omega); have q2 : lsN (ρ.z.rl 0) (ρ.i .i64 1) = 0 := lsN_no (by omega); omega)
      | (have k := nu_bad u (b := clampK .u8 (intV (celV (ρ.z.rl 0) ((ρ.i .i64 1004) + (ρ.i .i64 1007)) 0))) (by omega) (by omega) rfl (by omega); have k4 := text_no (R := (ρ.z.rl 0)) (a := (ρ.i .i64 1003)) (by omega); have q := tx_err (m := (ρ.i .i64 1)) t (by omega) h1 (e := txtE (List.drop ((ρ.i .i64 1003)).toNat (ρ.z.rl 0))) rfl (by omega); have q2 : lsN (ρ.z.rl 0) (ρ.i .i64 1) = 0 := lsN_no (by omega); omega)
      | (have k := nu_read u (b := clampK .u8 (intV (celV (ρ.z.rl 0) ((ρ.i .i64 1004) + (ρ.i .i64 1007)) 0))) (by omega) (by omega) rfl (by omega) (by omega) (by omega); have k4 := text_long kr k.1 k.2.1 k.2.2 (by omega); have q := tx_err (m := (ρ.i .i64 1)) t (by omega) h1 (e := txtE (List.drop ((ρ.i .i64 1003)).toNat (ρ.z.rl 0))) rfl (by omega); have q2 : lsN (ρ.z.rl 0) (ρ.i .i64 1) = 0 := lsN_no (by omega); omega)
theorem vcliN4_6 : VC TTliN invliN msliN 4 tliN4 wliN4_6 := by
  intro ρ kn hi hp
  have hi : ivliN4 ρ := hi
  unfold ivliN4 at hi
  have hF : ρ.z.F = oct.Φ := kn.F
  simp only [h_nil, h_cons, d_le, d_eq, d_not, d_var, d_lit, d_cel, d_leq, d_fn, d_and, d_iff, IE.den, LE.den, AL.den, lenV, true_and, and_true, pcliN4_11, pcliN4_9, pcliN4_7, pcliN4_5, pcliN4_3, pcliN4_1, pcliN4_0, hF, pi2, pi3, pi4, pi5, pi6, pi7, pl1, pi8, pi9, pl3, pi10, pi11, pb1, pl2] at hp
  obtain ⟨p1, p2, p3, p4, p5, p6, p7, p8, p9, p10, p11, p12, p13, p14, p15, p16, p17, p18⟩ := hp
  refine (show (1 ≤ (1 : Int) ∧ Tx (ρ.z.rl 0) (1 : Int) (((ρ.i .i64 1003) + ((ρ.i .i64 1007) + (1 : Int))) + (binI BinOp.or .u64 (ρ.i .u64 1008) (binI BinOp.shl .u64 (binI BinOp.and .u8 (clampK .u8 (intV (celV (ρ.z.rl 0) ((ρ.i .i64 1004) + (ρ.i .i64 1007)) 0))) (127 : Int)) ((7 : Int) * (ρ.i .i64 1007))))) ∧ ([[Go.Value.string (byteL ((ρ.z.rl 0).take (binI BinOp.or .u64 (ρ.i .u64 1008) (binI BinOp.shl .u64 (binI BinOp.and .u8 (clampK .u8 (intV (celV (ρ.z.rl 0) ((ρ.i .i64 1004) + (ρ.i .i64 1007)) 0))) (127 : Int)) ((7 : Int) * (ρ.i .i64 1007)))).toNat))]] : LV) = txsT (ρ.z.rl 0) (1 : Int).toNat ∧ ((ρ.i .u64 1002) - (1 : Int)) + (1 : Int) = rdV (ρ.z.rl 0) ∧ (rdV (ρ.z.rl 0) ≤ (ρ.i .i64 1) ∨ rdV (ρ.z.rl 0) ≤ 0) ∧ (ρ.z.rl 0).length ≤ 2000) ∧ ((12 * ((ρ.z.rl 0).length + 1 - (((ρ.i .i64 1003) + ((ρ.i .i64 1007) + (1 : Int))) + (binI BinOp.or .u64 (ρ.i .u64 1008) (binI BinOp.shl .u64 (binI BinOp.and .u8 (clampK .u8 (intV (celV (ρ.z.rl 0) ((ρ.i .i64 1004) + (ρ.i .i64 1007)) 0))) (127 : Int)) ((7 : Int) * (ρ.i .i64 1007))))).toNat) : Nat) < 12 * ((ρ.z.rl 0).length + 1 - (ρ.i .i64 1003).toNat) - 1 - (ρ.i .i64 1007).toNat) from ?_)
  obtain ⟨u, t, hn, h0, h1, h2⟩ := hi
  have kr := tx_rng t
  obtain ⟨k1, k2, k3⟩ := nu_read u (b := clampK .u8 (intV (celV (ρ.z.rl 0) ((ρ.i .i64 1004) + (ρ.i .i64 1007)) 0))) (by omega) (by omega) rfl (by omega) (by omega) (by omega)
  have kv := rdV_rng (List.drop ((ρ.i .i64 1003)).toNat (ρ.z.rl 0))
  rw [k3] at kv
  have hT := kn.rom 0 _ _ rfl
  obtain ⟨e1, e2, e3⟩ := text_ok hT kr k1 k2 k3 (by omega) (by omega)
  have t2 := txs t e1
  have w2 := txs_s t (W := []) rfl
  rw [e2, ← Int.add_assoc] at t2
  rw [e3] at w2
  refine ⟨⟨by omega, t2, ?_, by omega, h1, h2⟩, by omega⟩
  first
    | exact w2
    | (rw [show ∀ x : Int, x = 0 → x.toNat = 0 from fun x h => by omega] at w2 ⊢
       · simp only [List.take_zero] at w2 ⊢
         exact w2
       all_goals omega)
theorem vcliN4_7 : VC TTliN invliN msliN 4 tliN4 wliN4_7 := by
  intro ρ kn hi hp
  have hi : ivliN4 ρ := hi
  unfold ivliN4 at hi
  have hF : ρ.z.F = oct.Φ := kn.F
  simp only [h_nil, h_cons, d_le, d_eq, d_not, d_var, d_lit, d_cel, d_leq, d_fn, d_and, d_iff, IE.den, LE.den, AL.den, lenV, true_and, and_true, pcliN4_11, pcliN4_9, pcliN4_7, pcliN4_5, pcliN4_3, pcliN4_1, pcliN4_0, hF, pi2, pi3, pi4, pi5, pi6, pi7, pl1, pi8, pi9, pl3, pi10, pi11, pb1, pl2] at hp
  obtain ⟨p1, p2, p3, p4, p5, p6, p7, p8, p9, p10, p11, p12, p13, p14, p15, p16, p17, p18⟩ := hp
  refine (show (1 ≤ (1 : Int) ∧ Tx (ρ.z.rl 0) (1 : Int) (((ρ.i .i64 1003) + ((ρ.i .i64 1007) + (1 : Int))) + (binI BinOp.or .u64 (ρ.i .u64 1008) (binI BinOp.shl .u64 (binI BinOp.and .u8 (clampK .u8 (intV (celV (ρ.z.rl 0) ((ρ.i .i64 1004) + (ρ.i .i64 1007)) 0))) (127 : Int)) ((7 : Int) * (ρ.i .i64 1007))))) ∧ ([[Go.Value.string (byteL (((ρ.z.rl 0).drop ((ρ.i .i64 1003) + ((ρ.i .i64 1007) + (1 : Int))).toNat).take (binI BinOp.or .u64 (ρ.i .u64 1008) (binI BinOp.shl .u64 (binI BinOp.and .u8 (clampK .u8 (intV (celV (ρ.z.rl 0) ((ρ.i .i64 1004) + (ρ.i .i64 1007)) 0))) (127 : Int)) ((7 : Int) * (ρ.i .i64 1007)))).toNat))]] : LV) = txsT (ρ.z.rl 0) (1 : Int).toNat ∧ ((ρ.i .u64 1002) - (1 : Int)) + (1 : Int) = rdV (ρ.z.rl 0) ∧ (rdV (ρ.z.rl 0) ≤ (ρ.i .i64 1) ∨ rdV (ρ.z.rl 0) ≤ 0) ∧ (ρ.z.rl 0).length ≤ 2000) ∧ ((12 * ((ρ.z.rl 0).length + 1 - (((ρ.i .i64 1003) + ((ρ.i .i64 1007) + (1 : Int))) + (binI BinOp.or .u64 (ρ.i .u64 1008) (binI BinOp.shl .u64 (binI BinOp.and .u8 (clampK .u8 (intV (celV (ρ.z.rl 0) ((ρ.i .i64 1004) + (ρ.i .i64 1007)) 0))) (127 : Int)) ((7 : Int) * (ρ.i .i64 1007))))).toNat) : Nat) < 12 * ((ρ.z.rl 0).length + 1 - (ρ.i .i64 1003).toNat) - 1 - (ρ.i .i64 1007).toNat) from ?_)
  obtain ⟨u, t, hn, h0, h1, h2⟩ := hi
  have kr := tx_rng t
  obtain ⟨k1, k2, k3⟩ := nu_read u (b := clampK .u8 (intV (celV (ρ.z.rl 0) ((ρ.i .i64 1004) + (ρ.i .i64 1007)) 0))) (by omega) (by omega) rfl (by omega) (by omega) (by omega)
  have kv := rdV_rng (List.drop ((ρ.i .i64 1003)).toNat (ρ.z.rl 0))
  rw [k3] at kv
  have hT := kn.rom 0 _ _ rfl
  obtain ⟨e1, e2, e3⟩ := text_ok hT kr k1 k2 k3 (by omega) (by omega)
  have t2 := txs t e1
  have w2 := txs_s t (W := []) rfl
  rw [e2, ← Int.add_assoc] at t2
  rw [e3] at w2
  refine ⟨⟨by omega, t2, ?_, by omega, h1, h2⟩, by omega⟩
  first
    | exact w2
    | (rw [show ∀ x : Int, x = 0 → x.toNat = 0 from fun x h => by omega] at w2 ⊢
       · simp only [List.take_zero] at w2 ⊢
         exact w2
       all_goals omega)
theorem vcliN4_9 : VC TTliN invliN msliN 4 tliN4 wliN4_9 := by
  intro ρ kn hi hp
  have hi : ivliN4 ρ := hi
  unfold ivliN4 at hi
  have hF : ρ.z.F = oct.Φ := kn.F
  simp only [h_nil, h_cons, d_le, d_eq, d_not, d_var, d_lit, d_cel, d_leq, d_fn, d_and, d_iff, IE.den, LE.den, AL.den, lenV, true_and, and_true, pcliN4_7, pcliN4_5, pcliN4_3, pcliN4_1, pcliN4_0, hF, pi2, pi3, pi4, pi5, pi6, pi7, pl1, pi8, pi9, pl3, pi10, pi11, pb1, pl2] at hp
  obtain ⟨p1, p2, p3, p4, p5, p6, p7, p8, p9, p10, p11, p12, p13, p14, p15, p16⟩ := hp
  refine all_cons (show (clampK .i64 (ρ.z.F.i 11 [.lst (ρ.z.rl 0), .int .i64 (ρ.i .i64 1)])) = (0 : Int) from ?_) (all_cons (show (clampK .i64 (ρ.z.F.i 10 [.lst (ρ.z.rl 0), .int .i64 (ρ.i .i64 1)])) = (111 : Int) from ?_) (all_nil))
  all_goals try simp only [hF, pi2, pi3, pi4, pi5, pi6, pi7, pl1, pi8, pi9, pl3, pi10, pi11, pb1, pl2]
  all_goals
    have hl := kn.ok.rl 0
    try simp only [rdE_in, rdN_in, rdV_in, txtE_in, txtN_ind hl, lsE_in, lsN_in hl] at *
    obtain ⟨u, t, hn, h0, h1, h2⟩ := hi
    have kr := tx_rng t
    first
      | (have k := nu_end u (by omega) (by omega); have k4 := text_no (R := (ρ.z.rl 0)) (a := (ρ.i .i64 1003)) (by omega); have q := tx_err (m := (ρ.i .i64 1)) t (by omega) h1 (e := txtE (List.drop ((ρ.i .i64 1003)).toNat (ρ.z.rl 0))) rfl (by omega); have q2 : lsN (ρ.z.rl 0) (ρ.i .i64 1) = 0 := lsN_no (by omega); omega)
      | (have k := nu_bad u (b := clampK .u8 (intV (celV (ρ.z.rl 0) ((ρ.i .i64 1004) + (ρ.i .i64 1007)) 0))) (by omega) (by omega) rfl (by omega); have k4 := text_no (R := (ρ.z.rl 0)) (a := (ρ.i .i64 1003)) (by omega); have q := tx_err (m := (ρ.i .i64 1)) t (by omega) h1 (e := txtE (List.drop ((ρ.i .i64 1003)).toNat (ρ.z.rl 0))) rfl (by omega); have q2 : lsN (ρ.z.rl 0) (ρ.i .i64 1) = 0 := lsN_no (by omega); omega)
      | (have k := nu_read u (b := clampK .u8 (intV (celV (ρ.z.rl 0) ((ρ.i .i64 1004) + (ρ.i .i64 1007)) 0))) (by omega) (by omega) rfl (by omega) (by omega) (by omega); have k4 := text_long kr k.1 k.2.1 k.2.2 (by omega); have q := tx_err (m := (ρ.i .i64 1)) t (by omega) h1 (e := txtE (List.drop ((ρ.i .i64 1003)).toNat (ρ.z.rl 0))) rfl (by omega); have q2 : lsN (ρ.z.rl 0) (ρ.i .i64 1) = 0 := lsN_no (by omega); omega)
theorem vcliN4_10 : VC TTliN invliN msliN 4 tliN4 wliN4_10 := by
  intro ρ kn hi hp
  have hi : ivliN4 ρ := hi
  unfold ivliN4 at hi
  have hF : ρ.z.F = oct.Φ := kn.F
  simp only [h_nil, h_cons, d_le, d_eq, d_not, d_var, d_lit, d_cel, d_leq, d_fn, d_and, d_iff, IE.den, LE.den, AL.den, lenV, true_and, and_true, pcliN4_8, pcliN4_5, pcliN4_3, pcliN4_1, pcliN4_0, hF, pi2, pi3, pi4, pi5, pi6, pi7, pl1, pi8, pi9, pl3, pi10, pi11, pb1, pl2] at hp
  obtain ⟨p1, p2, p3, p4, p5, p6, p7, p8, p9, p10, p11, p12, p13, p14, p15, p16⟩ := hp
  refine (show (Nu (ρ.z.rl 0) (ρ.i .i64 1003) (ρ.i .i64 1004) ((ρ.i .i64 1007) + (1 : Int)) (binI BinOp.or .u64 (ρ.i .u64 1008) (binI BinOp.shl .u64 (binI BinOp.and .u8 (clampK .u8 (intV (celV (ρ.z.rl 0) ((ρ.i .i64 1004) + (ρ.i .i64 1007)) 0))) (127 : Int)) ((7 : Int) * (ρ.i .i64 1007)))) ∧ Tx (ρ.z.rl 0) 0 (ρ.i .i64 1003) ∧ (ρ.i .u64 1002) = rdV (ρ.z.rl 0) ∧ 1 ≤ (ρ.i .u64 1002) ∧ (rdV (ρ.z.rl 0) ≤ (ρ.i .i64 1) ∨ rdV (ρ.z.rl 0) ≤ 0) ∧ (ρ.z.rl 0).length ≤ 2000) ∧ ((12 * ((ρ.z.rl 0).length + 1 - (ρ.i .i64 1003).toNat) - 1 - ((ρ.i .i64 1007) + (1 : Int)).toNat : Nat) < 12 * ((ρ.z.rl 0).length + 1 - (ρ.i .i64 1003).toNat) - 1 - (ρ.i .i64 1007).toNat) from ?_)
  obtain ⟨u, t, hn, h0, h1, h2⟩ := hi
  have kr := tx_rng t
  exact ⟨⟨nu_go u (b := clampK .u8 (intV (celV (ρ.z.rl 0) ((ρ.i .i64 1004) + (ρ.i .i64 1007)) 0))) (by omega) (by omega) rfl (by omega) (by omega) (by omega), t, hn, h0, h1, h2⟩, by omega⟩
theorem vcliN4_11 : VC TTliN invliN msliN 4 tliN4 wliN4_11 := by
  intro ρ kn hi hp
  have hi : ivliN4 ρ := hi
  unfold ivliN4 at hi
  have hF : ρ.z.F = oct.Φ := kn.F
  simp only [h_nil, h_cons, d_le, d_eq, d_not, d_var, d_lit, d_cel, d_leq, d_fn, d_and, d_iff, IE.den, LE.den, AL.den, lenV, true_and, and_true, pcliN4_12, pcliN4_10, pcliN4_8, pcliN4_5, pcliN4_3, pcliN4_1, pcliN4_0, hF, pi2, pi3, pi4, pi5, pi6, pi7, pl1, pi8, pi9, pl3, pi10, pi11, pb1, pl2] at hp
  obtain ⟨p1, p2, p3, p4, p5, p6, p7, p8, p9, p10, p11, p12, p13, p14, p15, p16, p17, p18⟩ := hp
  refine (show (1 ≤ (1 : Int) ∧ Tx (ρ.z.rl 0) (1 : Int) (((ρ.i .i64 1003) + ((ρ.i .i64 1007) + (1 : Int))) + (binI BinOp.or .u64 (ρ.i .u64 1008) (binI BinOp.shl .u64 (binI BinOp.and .u8 (clampK .u8 (intV (celV (ρ.z.rl 0) ((ρ.i .i64 1004) + (ρ.i .i64 1007)) 0))) (127 : Int)) ((7 : Int) * (ρ.i .i64 1007))))) ∧ ([[Go.Value.string (byteL ((ρ.z.rl 0).take (binI BinOp.or .u64 (ρ.i .u64 1008) (binI BinOp.shl .u64 (binI BinOp.and .u8 (clampK .u8 (intV (celV (ρ.z.rl 0) ((ρ.i .i64 1004) + (ρ.i .i64 1007)) 0))) (127 : Int)) ((7 : Int) * (ρ.i .i64 1007)))).toNat))]] : LV) = txsT (ρ.z.rl 0) (1 : Int).toNat ∧ ((ρ.i .u64 1002) - (1 : Int)) + (1 : Int) = rdV (ρ.z.rl 0) ∧ (rdV (ρ.z.rl 0) ≤ (ρ.i .i64 1) ∨ rdV (ρ.z.rl 0) ≤ 0) ∧ (ρ.z.rl 0).length ≤ 2000) ∧ ((12 * ((ρ.z.rl 0).length + 1 - (((ρ.i .i64 1003) + ((ρ.i .i64 1007) + (1 : Int))) + (binI BinOp.or .u64 (ρ.i .u64 1008) (binI BinOp.shl .u64 (binI BinOp.and .u8 (clampK .u8 (intV (celV (ρ.z.rl 0) ((ρ.i .i64 1004) + (ρ.i .i64 1007)) 0))) (127 : Int)) ((7 : Int) * (ρ.i .i64 1007))))).toNat) : Nat) < 12 * ((ρ.z.rl 0).length + 1 - (ρ.i .i64 1003).toNat) - 1 - (ρ.i .i64 1007).toNat) from ?_)
  obtain ⟨u, t, hn, h0, h1, h2⟩ := hi
  have kr := tx_rng t
  obtain ⟨k1, k2, k3⟩ := nu_read u (b := clampK .u8 (intV (celV (ρ.z.rl 0) ((ρ.i .i64 1004) + (ρ.i .i64 1007)) 0))) (by omega) (by omega) rfl (by omega) (by omega) (by omega)
  have kv := rdV_rng (List.drop ((ρ.i .i64 1003)).toNat (ρ.z.rl 0))
  rw [k3] at kv
  have hT := kn.rom 0 _ _ rfl
  obtain ⟨e1, e2, e3⟩ := text_ok hT kr k1 k2 k3 (by omega) (by omega)
  have t2 := txs t e1
  have w2 := txs_s t (W := []) rfl
  rw [e2, ← Int.add_assoc] at t2
  rw [e3] at w2
  refine ⟨⟨by omega, t2, ?_, by omega, h1, h2⟩, by omega⟩
  first
    | exact w2
    | (rw [show ∀ x : Int, x = 0 → x.toNat = 0 from fun x h => by omega] at w2 ⊢
       · simp only [List.take_zero] at w2 ⊢
         exact w2
       all_goals omega)
theorem vcliN4_12 : VC TTliN invliN msliN 4 tliN4 wliN4_12 := by
  intro ρ kn hi hp
  have hi : ivliN4 ρ := hi
  unfold ivliN4 at hi
  have hF : ρ.z.F = oct.Φ := kn.F
  simp only [h_nil, h_cons, d_le, d_eq, d_not, d_var, d_lit, d_cel, d_leq, d_fn, d_and, d_iff, IE.den, LE.den, AL.den, lenV, true_and, and_true, pcliN4_12, pcliN4_10, pcliN4_8, pcliN4_5, pcliN4_3, pcliN4_1, pcliN4_0, hF, pi2, pi3, pi4, pi5, pi6, pi7, pl1, pi8, pi9, pl3, pi10, pi11, pb1, pl2] at hp
  obtain ⟨p1, p2, p3, p4, p5, p6, p7, p8, p9, p10, p11, p12, p13, p14, p15, p16, p17, p18⟩ := hp
  refine (show (1 ≤ (1 : Int) ∧ Tx (ρ.z.rl 0) (1 : Int) (((ρ.i .i64 1003) + ((ρ.i .i64 1007) + (1 : Int))) + (binI BinOp.or .u64 (ρ.i .u64 1008) (binI BinOp.shl .u64 (binI BinOp.and .u8 (clampK .u8 (intV (celV (ρ.z.rl 0) ((ρ.i .i64 1004) + (ρ.i .i64 1007)) 0))) (127 : Int)) ((7 : Int) * (ρ.i .i64 1007))))) ∧ ([[Go.Value.string (byteL (((ρ.z.rl 0).drop ((ρ.i .i64 1003) + ((ρ.i .i64 1007) + (1 : Int))).toNat).take (binI BinOp.or .u64 (ρ.i .u64 1008) (binI BinOp.shl .u64 (binI BinOp.and .u8 (clampK .u8 (intV (celV (ρ.z.rl 0) ((ρ.i .i64 1004) + (ρ.i .i64 1007)) 0))) (127 : Int)) ((7 : Int) * (ρ.i .i64 1007)))).toNat))]] : LV) = txsT (ρ.z.rl 0) (1 : Int).toNat ∧ ((ρ.i .u64 1002) - (1 : Int)) + (1 : Int) = rdV (ρ.z.rl 0) ∧ (rdV (ρ.z.rl 0) ≤ (ρ.i .i64 1) ∨ rdV (ρ.z.rl 0) ≤ 0) ∧ (ρ.z.rl 0).length ≤ 2000) ∧ ((12 * ((ρ.z.rl 0).length + 1 - (((ρ.i .i64 1003) + ((ρ.i .i64 1007) + (1 : Int))) + (binI BinOp.or .u64 (ρ.i .u64 1008) (binI BinOp.shl .u64 (binI BinOp.and .u8 (clampK .u8 (intV (celV (ρ.z.rl 0) ((ρ.i .i64 1004) + (ρ.i .i64 1007)) 0))) (127 : Int)) ((7 : Int) * (ρ.i .i64 1007))))).toNat) : Nat) < 12 * ((ρ.z.rl 0).length + 1 - (ρ.i .i64 1003).toNat) - 1 - (ρ.i .i64 1007).toNat) from ?_)
  obtain ⟨u, t, hn, h0, h1, h2⟩ := hi
  have kr := tx_rng t
  obtain ⟨k1, k2, k3⟩ := nu_read u (b := clampK .u8 (intV (celV (ρ.z.rl 0) ((ρ.i .i64 1004) + (ρ.i .i64 1007)) 0))) (by omega) (by omega) rfl (by omega) (by omega) (by omega)
  have kv := rdV_rng (List.drop ((ρ.i .i64 1003)).toNat (ρ.z.rl 0))
  rw [k3] at kv
  have hT := kn.rom 0 _ _ rfl
  obtain ⟨e1, e2, e3⟩ := text_ok hT kr k1 k2 k3 (by omega) (by omega)
  have t2 := txs t e1
  have w2 := txs_s t (W := []) rfl
  rw [e2, ← Int.add_assoc] at t2
  rw [e3] at w2
  refine ⟨⟨by omega, t2, ?_, by omega, h1, h2⟩, by omega⟩
  first
    | exact w2
    | (rw [show ∀ x : Int, x = 0 → x.toNat = 0 from fun x h => by omega] at w2 ⊢
       · simp only [List.take_zero] at w2 ⊢
         exact w2
       all_goals omega)
def ivliN5 (ρ : Rho) : Prop := 1 ≤ (ρ.i .i64 1010) ∧ Nu (ρ.z.rl 0) (ρ.i .i64 1011) (ρ.i .i64 1013) (ρ.i .i64 1016) (ρ.i .u64 1017) ∧ Tx (ρ.z.rl 0) (ρ.i .i64 1010) (ρ.i .i64 1011) ∧ (ρ.l 1012) = txsT (ρ.z.rl 0) (ρ.i .i64 1010).toNat ∧ (ρ.i .u64 1009) + (ρ.i .i64 1010) = rdV (ρ.z.rl 0) ∧ 1 ≤ (ρ.i .u64 1009) ∧ (rdV (ρ.z.rl 0) ≤ (ρ.i .i64 1) ∨ rdV (ρ.z.rl 0) ≤ 0) ∧ (ρ.z.rl 0).length ≤ 2000
theorem vcgliN5_0 : VC TTliN invliN msliN 5 tliN5 wliN5_0 ∧ VC TTliN invliN msliN 5 tliN5 wliN5_4 ∧ VC TTliN invliN msliN 5 tliN5 wliN5_8 ∧ VC TTliN invliN msliN 5 tliN5 wliN5_13 := by
  refine ⟨?_, ?_, ?_, ?_⟩
  all_goals
    intro ρ kn hi hp
    have hi : ivliN5 ρ := hi
    unfold ivliN5 at hi
    have hF : ρ.z.F = oct.Φ := kn.F
    simp only [h_nil, h_cons, d_le, d_eq, d_not, d_var, d_lit, d_cel, d_leq, d_fn, d_and, d_iff, IE.den, LE.den, AL.den, lenV, true_and, and_true, pcliN5_0, pcliN5_4, pcliN5_2, pcliN5_1, pcliN5_9, pcliN5_7, pcliN5_5, pcliN5_3, pcliN5_10, pcliN5_8, hF, pi2, pi3, pi4, pi5, pi6, pi7, pl1, pi8, pi9, pl3, pi10, pi11, pb1, pl2] at hp
    have p1 := And.left hp
    replace hp := And.right hp
    repeat (have _ := And.left hp; replace hp := And.right hp)
    refine all_cons (show (clampK .i64 (ρ.z.F.i 11 [.lst (ρ.z.rl 0), .int .i64 (ρ.i .i64 1)])) = (0 : Int) from ?_) (all_cons (show (clampK .i64 (ρ.z.F.i 10 [.lst (ρ.z.rl 0), .int .i64 (ρ.i .i64 1)])) = (110 : Int) from ?_) (all_nil))
    all_goals try simp only [hF, pi2, pi3, pi4, pi5, pi6, pi7, pl1, pi8, pi9, pl3, pi10, pi11, pb1, pl2]
    all_goals
      have hl := kn.ok.rl 0
      try simp only [rdE_in, rdN_in, rdV_in, txtE_in, txtN_ind hl, lsE_in, lsN_in hl] at *
      obtain ⟨hj, u, t, hw, hn, h0, h1, h2⟩ := hi
      have kr := tx_rng t
      first
        | (have k := nu_end u (by omega) (by omega); have k4 := text_no (R := (ρ.z.rl 0)) (a := (ρ.i .i64 1011)) (by omega); have q := tx_err (m := (ρ.i .i64 1)) t (by omega) h1 (e := txtE (List.drop ((ρ.i .i64 1011)).toNat (ρ.z.rl 0))) rfl (by omega); have q2 : lsN (ρ.z.rl 0) (ρ.i .i64 1) = 0 := lsN_no (by omega); omega)
        | (have k := nu_bad u (b := clampK .u8 (intV (celV (ρ.z.rl 0) ((ρ.i .i64 1013) + (ρ.i .i64 1016)) 0))) (by omega) (by omega) rfl (by omega); have k4 := text_no (R := (ρ.z.rl 0)) (a := (ρ.i .i64 1011)) (by omega); have q := tx_err (m := (ρ.i .i64 1)) t (by omega) h1 (e := txtE (List.drop ((ρ.i .i64 1011)).toNat (ρ.z.rl 0))) rfl (by omega); have q2 : lsN (ρ.z.rl 0) (ρ.i .i64 1) = 0 := lsN_no (by omega); omega)
        | (have k := nu_read u (b := clampK .u8 (intV (celV (ρ.z.rl 0) ((ρ.i .i64 1013) + (ρ.i .i64 1016)) 0))) (by omega) (by omega) rfl (by omega) (by omega) (by omega); have k4 := text_long kr k.1 k.2.1 k.2.2 (by omega); have q := tx_err (m := (ρ.i .i64 1)) t (by omega) h1 (e := txtE (List.drop ((ρ.i .i64 1011)).toNat (ρ.z.rl 0))) rfl (by omega); have q2 : lsN (ρ.z.rl 0) (ρ.i .i64 1) = 0 := lsN_no (by omega); omega)
theorem vcliN5_1 : VC TTliN invliN msliN 5 tliN5 wliN5_1 := by
  intro ρ kn hi hp
  have hi : ivliN5 ρ := hi
  unfold ivliN5 at hi
  have hF : ρ.z.F = oct.Φ := kn.F
  simp only [h_nil, h_cons, d_le, d_eq, d_not, d_var, d_lit, d_cel, d_leq, d_fn, d_and, d_iff, IE.den, LE.den, AL.den, lenV, true_and, and_true, pcliN5_2, pcliN5_1, pcliN5_0, hF, pi2, pi3, pi4, pi5, pi6, pi7, pl1, pi8, pi9, pl3, pi10, pi11, pb1, pl2] at hp
  obtain ⟨p1, p2, p3, p4, p5, p6, p7, p8, p9, p10, p11, p12, p13, p14, p15, p16, p17⟩ := hp
  refine (show (1 ≤ (ρ.i .i64 1010) ∧ Nu (ρ.z.rl 0) (ρ.i .i64 1011) (ρ.i .i64 1013) ((ρ.i .i64 1016) + (1 : Int)) (binI BinOp.or .u64 (ρ.i .u64 1017) (binI BinOp.shl .u64 (binI BinOp.and .u8 (clampK .u8 (intV (celV (ρ.z.rl 0) ((ρ.i .i64 1013) + (ρ.i .i64 1016)) 0))) (127 : Int)) ((7 : Int) * (ρ.i .i64 1016)))) ∧ Tx (ρ.z.rl 0) (ρ.i .i64 1010) (ρ.i .i64 1011) ∧ (ρ.l 1012) = txsT (ρ.z.rl 0) (ρ.i .i64 1010).toNat ∧ (ρ.i .u64 1009) + (ρ.i .i64 1010) = rdV (ρ.z.rl 0) ∧ 1 ≤ (ρ.i .u64 1009) ∧ (rdV (ρ.z.rl 0) ≤ (ρ.i .i64 1) ∨ rdV (ρ.z.rl 0) ≤ 0) ∧ (ρ.z.rl 0).length ≤ 2000) ∧ ((12 * ((ρ.z.rl 0).length + 1 - (ρ.i .i64 1011).toNat) - 1 - ((ρ.i .i64 1016) + (1 : Int)).toNat : Nat) < 12 * ((ρ.z.rl 0).length + 1 - (ρ.i .i64 1011).toNat) - 1 - (ρ.i .i64 1016).toNat) from ?_)
  obtain ⟨hj, u, t, hw, hn, h0, h1, h2⟩ := hi
  have kr := tx_rng t
  exact ⟨⟨hj, nu_go u (b := clampK .u8 (intV (celV (ρ.z.rl 0) ((ρ.i .i64 1013) + (ρ.i .i64 1016)) 0))) (by omega) (by omega) rfl (by omega) (by omega) (by omega), t, hw, hn, h0, h1, h2⟩, by omega⟩
theorem vcliN5_2 : VC TTliN invliN msliN 5 tliN5 wliN5_2 := by
  intro ρ kn hi hp
  have hi : ivliN5 ρ := hi
  unfold ivliN5 at hi
  have hF : ρ.z.F = oct.Φ := kn.F
  simp only [h_nil, h_cons, d_le, d_eq, d_not, d_var, d_lit, d_cel, d_leq, d_fn, d_and, d_iff, IE.den, LE.den, AL.den, lenV, true_and, and_true, pcliN5_6, pcliN5_4, pcliN5_2, pcliN5_1, pcliN5_0, hF, pi2, pi3, pi4, pi5, pi6, pi7, pl1, pi8, pi9, pl3, pi10, pi11, pb1, pl2] at hp
  obtain ⟨p1, p2, p3, p4, p5, p6, p7, p8, p9, p10, p11, p12, p13, p14, p15, p16, p17, p18, p19⟩ := hp
  refine (show (1 ≤ ((ρ.i .i64 1010) + (1 : Int)) ∧ Tx (ρ.z.rl 0) ((ρ.i .i64 1010) + (1 : Int)) (((ρ.i .i64 1011) + ((ρ.i .i64 1016) + (1 : Int))) + (binI BinOp.or .u64 (ρ.i .u64 1017) (binI BinOp.shl .u64 (binI BinOp.and .u8 (clampK .u8 (intV (celV (ρ.z.rl 0) ((ρ.i .i64 1013) + (ρ.i .i64 1016)) 0))) (127 : Int)) ((7 : Int) * (ρ.i .i64 1016))))) ∧ ((ρ.l 1012) ++ ([[Go.Value.string (byteL ((ρ.z.rl 0).take (binI BinOp.or .u64 (ρ.i .u64 1017) (binI BinOp.shl .u64 (binI BinOp.and .u8 (clampK .u8 (intV (celV (ρ.z.rl 0) ((ρ.i .i64 1013) + (ρ.i .i64 1016)) 0))) (127 : Int)) ((7 : Int) * (ρ.i .i64 1016)))).toNat))]] : LV)) = txsT (ρ.z.rl 0) ((ρ.i .i64 1010) + (1 : Int)).toNat ∧ ((ρ.i .u64 1009) - (1 : Int)) + ((ρ.i .i64 1010) + (1 : Int)) = rdV (ρ.z.rl 0) ∧ (rdV (ρ.z.rl 0) ≤ (ρ.i .i64 1) ∨ rdV (ρ.z.rl 0) ≤ 0) ∧ (ρ.z.rl 0).length ≤ 2000) ∧ ((12 * ((ρ.z.rl 0).length + 1 - (((ρ.i .i64 1011) + ((ρ.i .i64 1016) + (1 : Int))) + (binI BinOp.or .u64 (ρ.i .u64 1017) (binI BinOp.shl .u64 (binI BinOp.and .u8 (clampK .u8 (intV (celV (ρ.z.rl 0) ((ρ.i .i64 1013) + (ρ.i .i64 1016)) 0))) (127 : Int)) ((7 : Int) * (ρ.i .i64 1016))))).toNat) : Nat) < 12 * ((ρ.z.rl 0).length + 1 - (ρ.i .i64 1011).toNat) - 1 - (ρ.i .i64 1016).toNat) from ?_)
  obtain ⟨hj, u, t, hw, hn, h0, h1, h2⟩ := hi
  have kr := tx_rng t
  obtain ⟨k1, k2, k3⟩ := nu_read u (b := clampK .u8 (intV (celV (ρ.z.rl 0) ((ρ.i .i64 1013) + (ρ.i .i64 1016)) 0))) (by omega) (by omega) rfl (by omega) (by omega) (by omega)
  have kv := rdV_rng (List.drop ((ρ.i .i64 1011)).toNat (ρ.z.rl 0))
  rw [k3] at kv
  have hT := kn.rom 0 _ _ rfl
  obtain ⟨e1, e2, e3⟩ := text_ok hT kr k1 k2 k3 (by omega) (by omega)
  have t2 := txs t e1
  have w2 := txs_s t (W := ρ.l 1012) hw
  rw [e2, ← Int.add_assoc] at t2
  rw [e3] at w2
  refine ⟨⟨by omega, t2, ?_, by omega, h1, h2⟩, by omega⟩
  first
    | exact w2
    | (rw [show ∀ x : Int, x = 0 → x.toNat = 0 from fun x h => by omega] at w2 ⊢
       · simp only [List.take_zero] at w2 ⊢
         exact w2
       all_goals omega)
theorem vcliN5_3 : VC TTliN invliN msliN 5 tliN5 wliN5_3 := by
  intro ρ kn hi hp
  have hi : ivliN5 ρ := hi
  unfold ivliN5 at hi
  have hF : ρ.z.F = oct.Φ := kn.F
  simp only [h_nil, h_cons, d_le, d_eq, d_not, d_var, d_lit, d_cel, d_leq, d_fn, d_and, d_iff, IE.den, LE.den, AL.den, lenV, true_and, and_true, pcliN5_6, pcliN5_4, pcliN5_2, pcliN5_1, pcliN5_0, hF, pi2, pi3, pi4, pi5, pi6, pi7, pl1, pi8, pi9, pl3, pi10, pi11, pb1, pl2] at hp
  obtain ⟨p1, p2, p3, p4, p5, p6, p7, p8, p9, p10, p11, p12, p13, p14, p15, p16, p17, p18, p19⟩ := hp
  refine (show (1 ≤ ((ρ.i .i64 1010) + (1 : Int)) ∧ Tx (ρ.z.rl 0) ((ρ.i .i64 1010) + (1 : Int)) (((ρ.i .i64 1011) + ((ρ.i .i64 1016) + (1 : Int))) + (binI BinOp.or .u64 (ρ.i .u64 1017) (binI BinOp.shl .u64 (binI BinOp.and .u8 (clampK .u8 (intV (celV (ρ.z.rl 0) ((ρ.i .i64 1013) + (ρ.i .i64 1016)) 0))) (127 : Int)) ((7 : Int) * (ρ.i .i64 1016))))) ∧ ((ρ.l 1012) ++ ([[Go.Value.string (byteL (((ρ.z.rl 0).drop ((ρ.i .i64 1011) + ((ρ.i .i64 1016) + (1 : Int))).toNat).take (binI BinOp.or .u64 (ρ.i .u64 1017) (binI BinOp.shl .u64 (binI BinOp.and .u8 (clampK .u8 (intV (celV (ρ.z.rl 0) ((ρ.i .i64 1013) + (ρ.i .i64 1016)) 0))) (127 : Int)) ((7 : Int) * (ρ.i .i64 1016)))).toNat))]] : LV)) = txsT (ρ.z.rl 0) ((ρ.i .i64 1010) + (1 : Int)).toNat ∧ ((ρ.i .u64 1009) - (1 : Int)) + ((ρ.i .i64 1010) + (1 : Int)) = rdV (ρ.z.rl 0) ∧ (rdV (ρ.z.rl 0) ≤ (ρ.i .i64 1) ∨ rdV (ρ.z.rl 0) ≤ 0) ∧ (ρ.z.rl 0).length ≤ 2000) ∧ ((12 * ((ρ.z.rl 0).length + 1 - (((ρ.i .i64 1011) + ((ρ.i .i64 1016) + (1 : Int))) + (binI BinOp.or .u64 (ρ.i .u64 1017) (binI BinOp.shl .u64 (binI BinOp.and .u8 (clampK .u8 (intV (celV (ρ.z.rl 0) ((ρ.i .i64 1013) + (ρ.i .i64 1016)) 0))) (127 : Int)) ((7 : Int) * (ρ.i .i64 1016))))).toNat) : Nat) < 12 * ((ρ.z.rl 0).length + 1 - (ρ.i .i64 1011).toNat) - 1 - (ρ.i .i64 1016).toNat) from ?_)
  obtain ⟨hj, u, t, hw, hn, h0, h1, h2⟩ := hi
  have kr := tx_rng t
  obtain ⟨k1, k2, k3⟩ := nu_read u (b := clampK .u8 (intV (celV (ρ.z.rl 0) ((ρ.i .i64 1013) + (ρ.i .i64 1016)) 0))) (by omega) (by omega) rfl (by omega) (by omega) (by omega)
  have kv := rdV_rng (List.drop ((ρ.i .i64 1011)).toNat (ρ.z.rl 0))
  rw [k3] at kv
  have hT := kn.rom 0 _ _ rfl
  obtain ⟨e1, e2, e3⟩ := text_ok hT kr k1 k2 k3 (by omega) (by omega)
  have t2 := txs t e1
  have w2 := txs_s t (W := ρ.l 1012) hw
  rw [e2, ← Int.add_assoc] at t2
  rw [e3] at w2
  refine ⟨⟨by omega, t2, ?_, by omega, h1, h2⟩, by omega⟩
  first
    | exact w2
    | (rw [show ∀ x : Int, x = 0 → x.toNat = 0 from fun x h => by omega] at w2 ⊢
       · simp only [List.take_zero] at w2 ⊢
         exact w2
       all_goals omega)
theorem vcliN5_5 : VC TTliN invliN msliN 5 tliN5 wliN5_5 := by
  intro ρ kn hi hp
  have hi : ivliN5 ρ := hi
  unfold ivliN5 at hi
  have hF : ρ.z.F = oct.Φ := kn.F
  simp only [h_nil, h_cons, d_le, d_eq, d_not, d_var, d_lit, d_cel, d_leq, d_fn, d_and, d_iff, IE.den, LE.den, AL.den, lenV, true_and, and_true, pcliN5_3, pcliN5_1, pcliN5_0, hF, pi2, pi3, pi4, pi5, pi6, pi7, pl1, pi8, pi9, pl3, pi10, pi11, pb1, pl2] at hp
  obtain ⟨p1, p2, p3, p4, p5, p6, p7, p8, p9, p10, p11, p12, p13, p14, p15, p16, p17⟩ := hp
  refine all_cons (show (clampK .i64 (ρ.z.F.i 11 [.lst (ρ.z.rl 0), .int .i64 (ρ.i .i64 1)])) = (0 : Int) from ?_) (all_cons (show (clampK .i64 (ρ.z.F.i 10 [.lst (ρ.z.rl 0), .int .i64 (ρ.i .i64 1)])) = (111 : Int) from ?_) (all_nil))
  all_goals try simp only [hF, pi2, pi3, pi4, pi5, pi6, pi7, pl1, pi8, pi9, pl3, pi10, pi11, pb1, pl2]
  all_goals
    have hl := kn.ok.rl 0
    try simp only [rdE_in, rdN_in, rdV_in, txtE_in, txtN_ind hl, lsE_in, lsN_in hl] at *
    obtain ⟨hj, u, t, hw, hn, h0, h1, h2⟩ := hi
    have kr := tx_rng t
    first
      | (have k := nu_end u (by omega) (by omega); have k4 := text_no (R := (ρ.z.rl 0)) (a := (ρ.i .i64 1011)) (by omega); have q := tx_err (m := (ρ.i .i64 1)) t (by omega) h1 (e := txtE (List.drop ((ρ.i .i64 1011)).toNat (ρ.z.rl 0))) rfl (by omega); have q2 : lsN (ρ.z.rl 0) (ρ.i .i64 1) = 0 := lsN_no (by omega); omega)
      | (have k := nu_bad u (b := clampK .u8 (intV (celV (ρ.z.rl 0) ((ρ.i .i64 1013) + (ρ.i .i64 1016)) 0))) (by omega) (by omega) rfl (by omega); have k4 := text_no (R := (ρ.z.rl 0)) (a := (ρ.i .i64 1011)) (by omega); have q := tx_err (m := (ρ.i .i64 1)) t (by omega) h1 (e := txtE (List.drop ((ρ.i .i64 1011)).toNat (ρ.z.rl 0))) rfl (by omega); have q2 : lsN (ρ.z.rl 0) (ρ.i .i64 1) = 0 := lsN_no (by omega); omega)
      | (have k := nu_read u (b := clampK .u8 (intV (celV (ρ.z.rl 0) ((ρ.i .i64 1013) + (ρ.i .i64 1016)) 0))) (by omega) (by omega) rfl (by omega) (by omega) (by omega); have k4 := text_long kr k.1 k.2.1 k.2.2 (by omega); have q := tx_err (m := (ρ.i .i64 1)) t (by omega) h1 (e := txtE (List.drop ((ρ.i .i64 1011)).toNat (ρ.z.rl 0))) rfl (by omega); have q2 : lsN (ρ.z.rl 0) (ρ.i .i64 1) = 0 := lsN_no (by omega); omega)
theorem vcliN5_6 : VC TTliN invliN msliN 5 tliN5 wliN5_6 := by
  intro ρ kn hi hp
  have hi : ivliN5 ρ := hi
  unfold ivliN5 at hi
  have hF : ρ.z.F = oct.Φ := kn.F
  simp only [h_nil, h_cons, d_le, d_eq, d_not, d_var, d_lit, d_cel, d_leq, d_fn, d_and, d_iff, IE.den, LE.den, AL.den, lenV, true_and, and_true, pcliN5_11, pcliN5_9, pcliN5_7, pcliN5_5, pcliN5_3, pcliN5_1, pcliN5_0, hF, pi2, pi3, pi4, pi5, pi6, pi7, pl1, pi8, pi9, pl3, pi10, pi11, pb1, pl2] at hp
  obtain ⟨p1, p2, p3, p4, p5, p6, p7, p8, p9, p10, p11, p12, p13, p14, p15, p16, p17, p18, p19, p20, p21⟩ := hp
  refine (show (1 ≤ ((ρ.i .i64 1010) + (1 : Int)) ∧ Tx (ρ.z.rl 0) ((ρ.i .i64 1010) + (1 : Int)) (((ρ.i .i64 1011) + ((ρ.i .i64 1016) + (1 : Int))) + (binI BinOp.or .u64 (ρ.i .u64 1017) (binI BinOp.shl .u64 (binI BinOp.and .u8 (clampK .u8 (intV (celV (ρ.z.rl 0) ((ρ.i .i64 1013) + (ρ.i .i64 1016)) 0))) (127 : Int)) ((7 : Int) * (ρ.i .i64 1016))))) ∧ ((ρ.l 1012) ++ ([[Go.Value.string (byteL ((ρ.z.rl 0).take (binI BinOp.or .u64 (ρ.i .u64 1017) (binI BinOp.shl .u64 (binI BinOp.and .u8 (clampK .u8 (intV (celV (ρ.z.rl 0) ((ρ.i .i64 1013) + (ρ.i .i64 1016)) 0))) (127 : Int)) ((7 : Int) * (ρ.i .i64 1016)))).toNat))]] : LV)) = txsT (ρ.z.rl 0) ((ρ.i .i64 1010) + (1 : Int)).toNat ∧ ((ρ.i .u64 1009) - (1 : Int)) + ((ρ.i .i64 1010) + (1 : Int)) = rdV (ρ.z.rl 0) ∧ (rdV (ρ.z.rl 0) ≤ (ρ.i .i64 1) ∨ rdV (ρ.z.rl 0) ≤ 0) ∧ (ρ.z.rl 0).length ≤ 2000) ∧ ((12 * ((ρ.z.rl 0).length + 1 - (((ρ.i .i64 1011) + ((ρ.i .i64 1016) + (1 : Int))) + (binI BinOp.or .u64 (ρ.i .u64 1017) (binI BinOp.shl .u64 (binI BinOp.and .u8 (clampK .u8 (intV (celV (ρ.z.rl 0) ((ρ.i .i64 1013) + (ρ.i .i64 1016)) 0))) (127 : Int)) ((7 : Int) * (ρ.i .i64 1016))))).toNat) : Nat) < 12 * ((ρ.z.rl 0).length + 1 - (ρ.i .i64 1011).toNat) - 1 - (ρ.i .i64 1016).toNat) from ?_)
  obtain ⟨hj, u, t, hw, hn, h0, h1, h2⟩ := hi
  have kr := tx_rng t
  obtain ⟨k1, k2, k3⟩ := nu_read u (b := clampK .u8 (intV (celV (ρ.z.rl 0) ((ρ.i .i64 1013) + (ρ.i .i64 1016)) 0))) (by omega) (by omega) rfl (by omega) (by omega) (by omega)
  have kv := rdV_rng (List.drop ((ρ.i .i64 1011)).toNat (ρ.z.rl 0))
  rw [k3] at kv
  have hT := kn.rom 0 _ _ rfl
  obtain ⟨e1, e2, e3⟩ := text_ok hT kr k1 k2 k3 (by omega) (by omega)
  have t2 := txs t e1
  have w2 := txs_s t (W := ρ.l 1012) hw
  rw [e2, ← Int.add_assoc] at t2
  rw [e3] at w2
  refine ⟨⟨by omega, t2, ?_, by omega, h1, h2⟩, by omega⟩
  first
    | exact w2
    | (rw [show ∀ x : Int, x = 0 → x.toNat = 0 from fun x h => by omega] at w2 ⊢
       · simp only [List.take_zero] at w2 ⊢
         exact w2
       all_goals omega)
theorem vcliN5_7 : VC TTliN invliN msliN 5 tliN5 wliN5_7 := by
  intro ρ kn hi hp
  have hi : ivliN5 ρ := hi
  unfold ivliN5 at hi
  have hF : ρ.z.F = oct.Φ := kn.F
  simp only [h_nil, h_cons, d_le, d_eq, d_not, d_var, d_lit, d_cel, d_leq, d_fn, d_and, d_iff, IE.den, LE.den, AL.den, lenV, true_and, and_true, pcliN5_11, pcliN5_9, pcliN5_7, pcliN5_5, pcliN5_3, pcliN5_1, pcliN5_0, hF, pi2, pi3, pi4, pi5, pi6, pi7, pl1, pi8, pi9, pl3, pi10, pi11, pb1, pl2] at hp
  obtain ⟨p1, p2, p3, p4, p5, p6, p7, p8, p9, p10, p11, p12, p13, p14, p15, p16, p17, p18, p19, p20, p21⟩ := hp
  refine (show (1 ≤ ((ρ.i .i64 1010) + (1 : Int)) ∧ Tx (ρ.z.rl 0) ((ρ.i .i64 1010) + (1 : Int)) (((ρ.i .i64 1011) + ((ρ.i .i64 1016) + (1 : Int))) + (binI BinOp.or .u64 (ρ.i .u64 1017) (binI BinOp.shl .u64 (binI BinOp.and .u8 (clampK .u8 (intV (celV (ρ.z.rl 0) ((ρ.i .i64 1013) + (ρ.i .i64 1016)) 0))) (127 : Int)) ((7 : Int) * (ρ.i .i64 1016))))) ∧ ((ρ.l 1012) ++ ([[Go.Value.string (byteL (((ρ.z.rl 0).drop ((ρ.i .i64 1011) + ((ρ.i .i64 1016) + (1 : Int))).toNat).take (binI BinOp.or .u64 (ρ.i .u64 1017) (binI BinOp.shl .u64 (binI BinOp.and .u8 (clampK .u8 (intV (celV (ρ.z.rl 0) ((ρ.i .i64 1013) + (ρ.i .i64 1016)) 0))) (127 : Int)) ((7 : Int) * (ρ.i .i64 1016)))).toNat))]] : LV)) = txsT (ρ.z.rl 0) ((ρ.i .i64 1010) + (1 : Int)).toNat ∧ ((ρ.i .u64 1009) - (1 : Int)) + ((ρ.i .i64 1010) + (1 : Int)) = rdV (ρ.z.rl 0) ∧ (rdV (ρ.z.rl 0) ≤ (ρ.i .i64 1) ∨ rdV (ρ.z.rl 0) ≤ 0) ∧ (ρ.z.rl 0).length ≤ 2000) ∧ ((12 * ((ρ.z.rl 0).length + 1 - (((ρ.i .i64 1011) + ((ρ.i .i64 1016) + (1 : Int))) + (binI BinOp.or .u64 (ρ.i .u64 1017) (binI BinOp.shl .u64 (binI BinOp.and .u8 (clampK .u8 (intV (celV (ρ.z.rl 0) ((ρ.i .i64 1013) + (ρ.i .i64 1016)) 0))) (127 : Int)) ((7 : Int) * (ρ.i .i64 1016))))).toNat) : Nat) < 12 * ((ρ.z.rl 0).length + 1 - (ρ.i .i64 1011).toNat) - 1 - (ρ.i .i64 1016).toNat) from ?_)
  obtain ⟨hj, u, t, hw, hn, h0, h1, h2⟩ := hi
  have kr := tx_rng t
  obtain ⟨k1, k2, k3⟩ := nu_read u (b := clampK .u8 (intV (celV (ρ.z.rl 0) ((ρ.i .i64 1013) + (ρ.i .i64 1016)) 0))) (by omega) (by omega) rfl (by omega) (by omega) (by omega)
  have kv := rdV_rng (List.drop ((ρ.i .i64 1011)).toNat (ρ.z.rl 0))
  rw [k3] at kv
  have hT := kn.rom 0 _ _ rfl
  obtain ⟨e1, e2, e3⟩ := text_ok hT kr k1 k2 k3 (by omega) (by omega)
  have t2 := txs t e1
  have w2 := txs_s t (W := ρ.l 1012) hw
  rw [e2, ← Int.add_assoc] at t2
  rw [e3] at w2
  refine ⟨⟨by omega, t2, ?_, by omega, h1, h2⟩, by omega⟩
  first
    | exact w2
    | (rw [show ∀ x : Int, x = 0 → x.toNat = 0 from fun x h => by omega] at w2 ⊢
       · simp only [List.take_zero] at w2 ⊢
         exact w2
       all_goals omega)
theorem vcliN5_9 : VC TTliN invliN msliN 5 tliN5 wliN5_9 := by
  intro ρ kn hi hp
  have hi : ivliN5 ρ := hi
  unfold ivliN5 at hi
  have hF : ρ.z.F = oct.Φ := kn.F
  simp only [h_nil, h_cons, d_le, d_eq, d_not, d_var, d_lit, d_cel, d_leq, d_fn, d_and, d_iff, IE.den, LE.den, AL.den, lenV, true_and, and_true, pcliN5_7, pcliN5_5, pcliN5_3, pcliN5_1, pcliN5_0, hF, pi2, pi3, pi4, pi5, pi6, pi7, pl1, pi8, pi9, pl3, pi10, pi11, pb1, pl2] at hp
  obtain ⟨p1, p2, p3, p4, p5, p6, p7, p8, p9, p10, p11, p12, p13, p14, p15, p16, p17, p18, p19⟩ := hp
  refine all_cons (show (clampK .i64 (ρ.z.F.i 11 [.lst (ρ.z.rl 0), .int .i64 (ρ.i .i64 1)])) = (0 : Int) from ?_) (all_cons (show (clampK .i64 (ρ.z.F.i 10 [.lst (ρ.z.rl 0), .int .i64 (ρ.i .i64 1)])) = (111 : Int) from ?_) (all_nil))
  all_goals try simp only [hF, pi2, pi3, pi4, pi5, pi6, pi7, pl1, pi8, pi9, pl3, pi10, pi11, pb1, pl2]
  all_goals
    have hl := kn.ok.rl 0
    try simp only [rdE_in, rdN_in, rdV_in, txtE_in, txtN_ind hl, lsE_in, lsN_in hl] at *
    obtain ⟨hj, u, t, hw, hn, h0, h1, h2⟩ := hi
    have kr := tx_rng t
    first
      | (have k := nu_end u (by omega) (by omega); have k4 := text_no (R := (ρ.z.rl 0)) (a := (ρ.i .i64 1011)) (by omega); have q := tx_err (m := (ρ.i .i64 1)) t (by omega) h1 (e := txtE (List.drop ((ρ.i .i64 1011)).toNat (ρ.z.rl 0))) rfl (by omega); have q2 : lsN (ρ.z.rl 0) (ρ.i .i64 1) = 0 := lsN_no (by omega); omega)
      | (have k := nu_bad u (b := clampK .u8 (intV (celV (ρ.z.rl 0) ((ρ.i .i64 1013) + (ρ.i .i64 1016)) 0))) (by omega) (by omega) rfl (by omega); have k4 := text_no (R := (ρ.z.rl 0)) (a := (ρ.i .i64 1011)) (by omega); have q := tx_err (m := (ρ.i .i64 1)) t (by omega) h1 (e := txtE (List.drop ((ρ.i .i64 1011)).toNat (ρ.z.rl 0))) rfl (by omega); have q2 : lsN (ρ.z.rl 0) (ρ.i .i64 1) = 0 := lsN_no (by omega); omega)
      | (have k := nu_read u (b := clampK .u8 (intV (celV (ρ.z.rl 0) ((ρ.i .i64 1013) + (ρ.i .i64 1016)) 0))) (by omega) (by omega) rfl (by omega) (by omega) (by omega); have k4 := text_long kr k.1 k.2.1 k.2.2 (by omega); have q := tx_err (m := (ρ.i .i64 1)) t (by omega) h1 (e := txtE (List.drop ((ρ.i .i64 1011)).toNat (ρ.z.rl 0))) rfl (by omega); have q2 : lsN (ρ.z.rl 0) (ρ.i .i64 1) = 0 := lsN_no (by omega); omega)
theorem vcliN5_10 : VC TTliN invliN msliN 5 tliN5 wliN5_10 := by
  intro ρ kn hi hp
  have hi : ivliN5 ρ := hi
  unfold ivliN5 at hi
  have hF : ρ.z.F = oct.Φ := kn.F
  simp only [h_nil, h_cons, d_le, d_eq, d_not, d_var, d_lit, d_cel, d_leq, d_fn, d_and, d_iff, IE.den, LE.den, AL.den, lenV, true_and, and_true, pcliN5_8, pcliN5_5, pcliN5_3, pcliN5_1, pcliN5_0, hF, pi2, pi3, pi4, pi5, pi6, pi7, pl1, pi8, pi9, pl3, pi10, pi11, pb1, pl2] at hp
  obtain ⟨p1, p2, p3, p4, p5, p6, p7, p8, p9, p10, p11, p12, p13, p14, p15, p16, p17, p18, p19⟩ := hp
  refine (show (1 ≤ (ρ.i .i64 1010) ∧ Nu (ρ.z.rl 0) (ρ.i .i64 1011) (ρ.i .i64 1013) ((ρ.i .i64 1016) + (1 : Int)) (binI BinOp.or .u64 (ρ.i .u64 1017) (binI BinOp.shl .u64 (binI BinOp.and .u8 (clampK .u8 (intV (celV (ρ.z.rl 0) ((ρ.i .i64 1013) + (ρ.i .i64 1016)) 0))) (127 : Int)) ((7 : Int) * (ρ.i .i64 1016)))) ∧ Tx (ρ.z.rl 0) (ρ.i .i64 1010) (ρ.i .i64 1011) ∧ (ρ.l 1012) = txsT (ρ.z.rl 0) (ρ.i .i64 1010).toNat ∧ (ρ.i .u64 1009) + (ρ.i .i64 1010) = rdV (ρ.z.rl 0) ∧ 1 ≤ (ρ.i .u64 1009) ∧ (rdV (ρ.z.rl 0) ≤ (ρ.i .i64 1) ∨ rdV (ρ.z.rl 0) ≤ 0) ∧ (ρ.z.rl 0).length ≤ 2000) ∧ ((12 * ((ρ.z.rl 0).length + 1 - (ρ.i .i64 1011).toNat) - 1 - ((ρ.i .i64 1016) + (1 : Int)).toNat : Nat) < 12 * ((ρ.z.rl 0).length + 1 - (ρ.i .i64 1011).toNat) - 1 - (ρ.i .i64 1016).toNat) from ?_)
  obtain ⟨hj, u, t, hw, hn, h0, h1, h2⟩ := hi
  have kr := tx_rng t
  exact ⟨⟨hj, nu_go u (b := clampK .u8 (intV (celV (ρ.z.rl 0) ((ρ.i .i64 1013) + (ρ.i .i64 1016)) 0))) (by omega) (by omega) rfl (by omega) (by omega) (by omega), t, hw, hn, h0, h1, h2⟩, by omega⟩
theorem vcliN5_11 : VC TTliN invliN msliN 5 tliN5 wliN5_11 := by
  intro ρ kn hi hp
  have hi : ivliN5 ρ := hi
  unfold ivliN5 at hi
  have hF : ρ.z.F = oct.Φ := kn.F
  simp only [h_nil, h_cons, d_le, d_eq, d_not, d_var, d_lit, d_cel, d_leq, d_fn, d_and, d_iff, IE.den, LE.den, AL.den, lenV, true_and, and_true, pcliN5_12, pcliN5_10, pcliN5_8, pcliN5_5, pcliN5_3, pcliN5_1, pcliN5_0, hF, pi2, pi3, pi4, pi5, pi6, pi7, pl1, pi8, pi9, pl3, pi10, pi11, pb1, pl2] at hp
  obtain ⟨p1, p2, p3, p4, p5, p6, p7, p8, p9, p10, p11, p12, p13, p14, p15, p16, p17, p18, p19, p20, p21⟩ := hp
  refine (show (1 ≤ ((ρ.i .i64 1010) + (1 : Int)) ∧ Tx (ρ.z.rl 0) ((ρ.i .i64 1010) + (1 : Int)) (((ρ.i .i64 1011) + ((ρ.i .i64 1016) + (1 : Int))) + (binI BinOp.or .u64 (ρ.i .u64 1017) (binI BinOp.shl .u64 (binI BinOp.and .u8 (clampK .u8 (intV (celV (ρ.z.rl 0) ((ρ.i .i64 1013) + (ρ.i .i64 1016)) 0))) (127 : Int)) ((7 : Int) * (ρ.i .i64 1016))))) ∧ ((ρ.l 1012) ++ ([[Go.Value.string (byteL ((ρ.z.rl 0).take (binI BinOp.or .u64 (ρ.i .u64 1017) (binI BinOp.shl .u64 (binI BinOp.and .u8 (clampK .u8 (intV (celV (ρ.z.rl 0) ((ρ.i .i64 1013) + (ρ.i .i64 1016)) 0))) (127 : Int)) ((7 : Int) * (ρ.i .i64 1016)))).toNat))]] : LV)) = txsT (ρ.z.rl 0) ((ρ.i .i64 1010) + (1 : Int)).toNat ∧ ((ρ.i .u64 1009) - (1 : Int)) + ((ρ.i .i64 1010) + (1 : Int)) = rdV (ρ.z.rl 0) ∧ (rdV (ρ.z.rl 0) ≤ (ρ.i .i64 1) ∨ rdV (ρ.z.rl 0) ≤ 0) ∧ (ρ.z.rl 0).length ≤ 2000) ∧ ((12 * ((ρ.z.rl 0).length + 1 - (((ρ.i .i64 1011) + ((ρ.i .i64 1016) + (1 : Int))) + (binI BinOp.or .u64 (ρ.i .u64 1017) (binI BinOp.shl .u64 (binI BinOp.and .u8 (clampK .u8 (intV (celV (ρ.z.rl 0) ((ρ.i .i64 1013) + (ρ.i .i64 1016)) 0))) (127 : Int)) ((7 : Int) * (ρ.i .i64 1016))))).toNat) : Nat) < 12 * ((ρ.z.rl 0).length + 1 - (ρ.i .i64 1011).toNat) - 1 - (ρ.i .i64 1016).toNat) from ?_)
  obtain ⟨hj, u, t, hw, hn, h0, h1, h2⟩ := hi
  have kr := tx_rng t
  obtain ⟨k1, k2, k3⟩ := nu_read u (b := clampK .u8 (intV (celV (ρ.z.rl 0) ((ρ.i .i64 1013) + (ρ.i .i64 1016)) 0))) (by omega) (by omega) rfl (by omega) (by omega) (by omega)
  have kv := rdV_rng (List.drop ((ρ.i .i64 1011)).toNat (ρ.z.rl 0))
  rw [k3] at kv
  have hT := kn.rom 0 _ _ rfl
  obtain ⟨e1, e2, e3⟩ := text_ok hT kr k1 k2 k3 (by omega) (by omega)
  have t2 := txs t e1
  have w2 := txs_s t (W := ρ.l 1012) hw
  rw [e2, ← Int.add_assoc] at t2
  rw [e3] at w2
  refine ⟨⟨by omega, t2, ?_, by omega, h1, h2⟩, by omega⟩
  first
    | exact w2
    | (rw [show ∀ x : Int, x = 0 → x.toNat = 0 from fun x h => by omega] at w2 ⊢
       · simp only [List.take_zero] at w2 ⊢
         exact w2
       all_goals omega)
theorem vcliN5_12 : VC TTliN invliN msliN 5 tliN5 wliN5_12 := by
  intro ρ kn hi hp
  have hi : ivliN5 ρ := hi
  unfold ivliN5 at hi
  have hF : ρ.z.F = oct.Φ := kn.F
  simp only [h_nil, h_cons, d_le, d_eq, d_not, d_var, d_lit, d_cel, d_leq, d_fn, d_and, d_iff, IE.den, LE.den, AL.den, lenV, true_and, and_true, pcliN5_12, pcliN5_10, pcliN5_8, pcliN5_5, pcliN5_3, pcliN5_1, pcliN5_0, hF, pi2, pi3, pi4, pi5, pi6, pi7, pl1, pi8, pi9, pl3, pi10, pi11, pb1, pl2] at hp
  obtain ⟨p1, p2, p3, p4, p5, p6, p7, p8, p9, p10, p11, p12, p13, p14, p15, p16, p17, p18, p19, p20, p21⟩ := hp
  refine (show (1 ≤ ((ρ.i .i64 1010) + (1 : Int)) ∧ Tx (ρ.z.rl 0) ((ρ.i .i64 1010) + (1 : Int)) (((ρ.i .i64 1011) + ((ρ.i .i64 1016) + (1 : Int))) + (binI BinOp.or .u64 (ρ.i .u64 1017) (binI BinOp.shl .u64 (binI BinOp.and .u8 (clampK .u8 (intV (celV (ρ.z.rl 0) ((ρ.i .i64 1013) + (ρ.i .i64 1016)) 0))) (127 : Int)) ((7 : Int) * (ρ.i .i64 1016))))) ∧ ((ρ.l 1012) ++ ([[Go.Value.string (byteL (((ρ.z.rl 0).drop ((ρ.i .i64 1011) + ((ρ.i .i64 1016) + (1 : Int))).toNat).take (binI BinOp.or .u64 (ρ.i .u64 1017) (binI BinOp.shl .u64 (binI BinOp.and .u8 (clampK .u8 (intV (celV (ρ.z.rl 0) ((ρ.i .i64 1013) + (ρ.i .i64 1016)) 0))) (127 : Int)) ((7 : Int) * (ρ.i .i64 1016)))).toNat))]] : LV)) = txsT (ρ.z.rl 0) ((ρ.i .i64 1010) + (1 : Int)).toNat ∧ ((ρ.i .u64 1009) - (1 : Int)) + ((ρ.i .i64 1010) + (1 : Int)) = rdV (ρ.z.rl 0) ∧ (rdV (ρ.z.rl 0) ≤ (ρ.i .i64 1) ∨ rdV (ρ.z.rl 0) ≤ 0) ∧ (ρ.z.rl 0).length ≤ 2000) ∧ ((12 * ((ρ.z.rl 0).length + 1 - (((ρ.i .i64 1011) + ((ρ.i .i64 1016) + (1 : Int))) + (binI BinOp.or .u64 (ρ.i .u64 1017) (binI BinOp.shl .u64 (binI BinOp.and .u8 (clampK .u8 (intV (celV (ρ.z.rl 0) ((ρ.i .i64 1013) + (ρ.i .i64 1016)) 0))) (127 : Int)) ((7 : Int) * (ρ.i .i64 1016))))).toNat) : Nat) < 12 * ((ρ.z.rl 0).length + 1 - (ρ.i .i64 1011).toNat) - 1 - (ρ.i .i64 1016).toNat) from ?_)
  obtain ⟨hj, u, t, hw, hn, h0, h1, h2⟩ := hi
  have kr := tx_rng t
  obtain ⟨k1, k2, k3⟩ := nu_read u (b := clampK .u8 (intV (celV (ρ.z.rl 0) ((ρ.i .i64 1013) + (ρ.i .i64 1016)) 0))) (by omega) (by omega) rfl (by omega) (by omega) (by omega)
  have kv := rdV_rng (List.drop ((ρ.i .i64 1011)).toNat (ρ.z.rl 0))
  rw [k3] at kv
  have hT := kn.rom 0 _ _ rfl
  obtain ⟨e1, e2, e3⟩ := text_ok hT kr k1 k2 k3 (by omega) (by omega)
  have t2 := txs t e1
  have w2 := txs_s t (W := ρ.l 1012) hw
  rw [e2, ← Int.add_assoc] at t2
  rw [e3] at w2
  refine ⟨⟨by omega, t2, ?_, by omega, h1, h2⟩, by omega⟩
  first
    | exact w2
    | (rw [show ∀ x : Int, x = 0 → x.toNat = 0 from fun x h => by omega] at w2 ⊢
       · simp only [List.take_zero] at w2 ⊢
         exact w2
       all_goals omega)
theorem vcsliN0 : ∀ v ∈ vwliN 0, VC TTliN invliN msliN 0 (startF 33 cListN.pat (.lit true :: cListN.pre)) v := all_cons vcliN0_0 (all_nil)
theorem okliN0 : cfgOk (startF 33 cListN.pat (.lit true :: cListN.pre)) = true := by kernel_rfl
theorem sgliN0 : segL cListN.roms cListN (seg TTliN selliN 400 tmliN (startF 33 cListN.pat (.lit true :: cListN.pre))) = (true, codesR tmliN (views (seg TTliN selliN 400 tmliN (startF 33 cListN.pat (.lit true :: cListN.pre)))), vwliN 0) := by kernel_rfl
theorem vcsliN1 : ∀ v ∈ vwliN 1, VC TTliN invliN msliN 1 tliN1 v := all_cons vcliN1_0 (all_cons vcliN1_1 (all_cons vcliN1_2 (all_cons vcgliN1_1.1 (all_cons vcliN1_4 (all_cons vcgliN1_1.2.1 (all_cons vcliN1_6 (all_cons vcliN1_7 (all_cons vcgliN1_1.2.2.1 (all_cons vcliN1_9 (all_cons vcgliN1_1.2.2.2.1 (all_cons vcliN1_11 (all_cons vcliN1_12 (all_cons vcliN1_13 (all_cons vcgliN1_1.2.2.2.2.1 (all_cons vcliN1_15 (all_cons vcgliN1_1.2.2.2.2.2 (all_nil)))))))))))))))))
theorem okliN1 : cfgOk tliN1 = true := by kernel_rfl
theorem sgliN1 : segL cListN.roms cListN (seg TTliN selliN 400 tmliN tliN1) = (true, codesR tmliN (views (seg TTliN selliN 400 tmliN tliN1)), vwliN 1) := by kernel_rfl
theorem vcsliN2 : ∀ v ∈ vwliN 2, VC TTliN invliN msliN 2 tliN2 v := all_cons vcliN2_0 (all_cons vcliN2_1 (all_cons vcliN2_2 (all_nil)))
theorem okliN2 : cfgOk tliN2 = true := by kernel_rfl
theorem sgliN2 : segL cListN.roms cListN (seg TTliN selliN 400 tmliN tliN2) = (true, codesR tmliN (views (seg TTliN selliN 400 tmliN tliN2)), vwliN 2) := by kernel_rfl
theorem vcsliN3 : ∀ v ∈ vwliN 3, VC TTliN invliN msliN 3 tliN3 v := all_cons vcliN3_0 (all_cons vcliN3_1 (all_cons vcliN3_2 (all_nil)))
theorem okliN3 : cfgOk tliN3 = true := by kernel_rfl
theorem sgliN3 : segL cListN.roms cListN (seg TTliN selliN 400 tmliN tliN3) = (true, codesR tmliN (views (seg TTliN selliN 400 tmliN tliN3)), vwliN 3) := by kernel_rfl
theorem vcsliN4 : ∀ v ∈ vwliN 4, VC TTliN invliN msliN 4 tliN4 v := all_cons vcgliN4_0.1 (all_cons vcliN4_1 (all_cons vcliN4_2 (all_cons vcliN4_3 (all_cons vcgliN4_0.2.1 (all_cons vcliN4_5 (all_cons vcliN4_6 (all_cons vcliN4_7 (all_cons vcgliN4_0.2.2.1 (all_cons vcliN4_9 (all_cons vcliN4_10 (all_cons vcliN4_11 (all_cons vcliN4_12 (all_cons vcgliN4_0.2.2.2 (all_nil))))))))))))))
theorem okliN4 : cfgOk tliN4 = true := by kernel_rfl
theorem sgliN4 : segL cListN.roms cListN (seg TTliN selliN 400 tmliN tliN4) = (true, codesR tmliN (views (seg TTliN selliN 400 tmliN tliN4)), vwliN 4) := by kernel_rfl
theorem vcsliN5 : ∀ v ∈ vwliN 5, VC TTliN invliN msliN 5 tliN5 v := all_cons vcgliN5_0.1 (all_cons vcliN5_1 (all_cons vcliN5_2 (all_cons vcliN5_3 (all_cons vcgliN5_0.2.1 (all_cons vcliN5_5 (all_cons vcliN5_6 (all_cons vcliN5_7 (all_cons vcgliN5_0.2.2.1 (all_cons vcliN5_9 (all_cons vcliN5_10 (all_cons vcliN5_11 (all_cons vcliN5_12 (all_cons vcgliN5_0.2.2.2 (all_nil))))))))))))))
theorem okliN5 : cfgOk tliN5 = true := by kernel_rfl
theorem sgliN5 : segL cListN.roms cListN (seg TTliN selliN 400 tmliN tliN5) = (true, codesR tmliN (views (seg TTliN selliN 400 tmliN tliN5)), vwliN 5) := by kernel_rfl
theorem lnliN0 : ∀ ρ, Known TTliN (startF 33 cListN.pat (.lit true :: cListN.pre)) ρ → invliN 0 ρ.lt → Holds ρ (leanOf (Cfg.pc (startF 33 cListN.pat (.lit true :: cListN.pre)))) := by
  intro ρ _ _
  exact (show Holds ρ [] from fun p hp => by cases hp)
theorem lnliN1 : ∀ ρ, Known TTliN tliN1 ρ → invliN 1 ρ.lt → Holds ρ (leanOf (Cfg.pc tliN1)) := by
  intro ρ kn hi
  refine (show Holds ρ [.le (.var .i64 1001) (.lit 9)] from ?_)
  have hi : Nu (ρ.z.rl 0) 0 0 (ρ.i .i64 1001) (ρ.i .u64 1000) ∧ (ρ.z.rl 0).length ≤ 2000 := hi
  have hF : ρ.z.F = oct.Φ := kn.F
  simp only [h_nil, h_cons, d_le, d_eq, d_not, d_var, d_lit, d_cel, d_leq, d_fn, d_and, d_iff, IE.den, LE.den, AL.den, lenV, true_and, and_true, hF, pi2, pi3, pi4, pi5, pi6, pi7, pl1, pi8, pi9, pl3, pi10, pi11, pb1, pl2]
  have h9 := nu9 hi.1
  omega
theorem lnliN2 : ∀ ρ, Known TTliN tliN2 ρ → invliN 2 ρ.lt → Holds ρ (leanOf (Cfg.pc tliN2)) := by
  intro ρ _ _
  exact (show Holds ρ [] from fun p hp => by cases hp)
theorem lnliN3 : ∀ ρ, Known TTliN tliN3 ρ → invliN 3 ρ.lt → Holds ρ (leanOf (Cfg.pc tliN3)) := by
  intro ρ kn hi
  refine (show Holds ρ [.le (.var .i64 1010) (.lit 2000)] from ?_)
  have hi : 1 ≤ (ρ.i .i64 1010) ∧ Tx (ρ.z.rl 0) (ρ.i .i64 1010) (ρ.i .i64 1011) ∧ (ρ.l 1012) = txsT (ρ.z.rl 0) (ρ.i .i64 1010).toNat ∧ (ρ.i .u64 1009) + (ρ.i .i64 1010) = rdV (ρ.z.rl 0) ∧ (rdV (ρ.z.rl 0) ≤ (ρ.i .i64 1) ∨ rdV (ρ.z.rl 0) ≤ 0) ∧ (ρ.z.rl 0).length ≤ 2000 := hi
  have hF : ρ.z.F = oct.Φ := kn.F
  simp only [h_nil, h_cons, d_le, d_eq, d_not, d_var, d_lit, d_cel, d_leq, d_fn, d_and, d_iff, IE.den, LE.den, AL.den, lenV, true_and, and_true, hF, pi2, pi3, pi4, pi5, pi6, pi7, pl1, pi8, pi9, pl3, pi10, pi11, pb1, pl2]
  obtain ⟨hj, t, hw, hn, h1, h2⟩ := hi
  have k1 := tx_le t
  have k2 := tx_rng t
  omega
theorem lnliN4 : ∀ ρ, Known TTliN tliN4 ρ → invliN 4 ρ.lt → Holds ρ (leanOf (Cfg.pc tliN4)) := by
  intro ρ kn hi
  refine (show Holds ρ [.le (.var .i64 1007) (.lit 9)] from ?_)
  have hi : Nu (ρ.z.rl 0) (ρ.i .i64 1003) (ρ.i .i64 1004) (ρ.i .i64 1007) (ρ.i .u64 1008) ∧ Tx (ρ.z.rl 0) 0 (ρ.i .i64 1003) ∧ (ρ.i .u64 1002) = rdV (ρ.z.rl 0) ∧ 1 ≤ (ρ.i .u64 1002) ∧ (rdV (ρ.z.rl 0) ≤ (ρ.i .i64 1) ∨ rdV (ρ.z.rl 0) ≤ 0) ∧ (ρ.z.rl 0).length ≤ 2000 := hi
  have hF : ρ.z.F = oct.Φ := kn.F
  simp only [h_nil, h_cons, d_le, d_eq, d_not, d_var, d_lit, d_cel, d_leq, d_fn, d_and, d_iff, IE.den, LE.den, AL.den, lenV, true_and, and_true, hF, pi2, pi3, pi4, pi5, pi6, pi7, pl1, pi8, pi9, pl3, pi10, pi11, pb1, pl2]
  have h9 := nu9 hi.1
  omega
theorem lnliN5 : ∀ ρ, Known TTliN tliN5 ρ → invliN 5 ρ.lt → Holds ρ (leanOf (Cfg.pc tliN5)) := by
  intro ρ kn hi
  refine (show Holds ρ [.le (.var .i64 1016) (.lit 9), .le (.var .i64 1010) (.lit 2000)] from ?_)
  have hi : 1 ≤ (ρ.i .i64 1010) ∧ Nu (ρ.z.rl 0) (ρ.i .i64 1011) (ρ.i .i64 1013) (ρ.i .i64 1016) (ρ.i .u64 1017) ∧ Tx (ρ.z.rl 0) (ρ.i .i64 1010) (ρ.i .i64 1011) ∧ (ρ.l 1012) = txsT (ρ.z.rl 0) (ρ.i .i64 1010).toNat ∧ (ρ.i .u64 1009) + (ρ.i .i64 1010) = rdV (ρ.z.rl 0) ∧ 1 ≤ (ρ.i .u64 1009) ∧ (rdV (ρ.z.rl 0) ≤ (ρ.i .i64 1) ∨ rdV (ρ.z.rl 0) ≤ 0) ∧ (ρ.z.rl 0).length ≤ 2000 := hi
  have hF : ρ.z.F = oct.Φ := kn.F
  simp only [h_nil, h_cons, d_le, d_eq, d_not, d_var, d_lit, d_cel, d_leq, d_fn, d_and, d_iff, IE.den, LE.den, AL.den, lenV, true_and, and_true, hF, pi2, pi3, pi4, pi5, pi6, pi7, pl1, pi8, pi9, pl3, pi10, pi11, pb1, pl2]
  obtain ⟨hj, u, t, hw, hn, h0, h1, h2⟩ := hi
  have h9 := nu9 u
  have k1 := tx_le t
  have k2 := tx_rng t
  omega
theorem told_liN : Sx.Told oct.Φ cListN := by
  refine told_of (cs := []) (all_nil) (sel := selliN) 400 tmliN invliN msliN vwliN 0 (pc0 := (.lit true :: cListN.pre)) (by kernel_rfl) (by kernel_rfl) (by kernel_rfl) (post_nil rfl) ?_ ?_ ?_ rfl (fun ρ _ h => h.cons (p := .lit true) (by simp only [BE.den])) (fun _ _ _ _ => trivial) ?_
  · intro k C h
    have := lk_mem h
    simp only [tmliN, List.mem_cons, Prod.mk.injEq, List.not_mem_nil, or_false] at this
    rcases this with ⟨rfl, rfl⟩ | ⟨rfl, rfl⟩ | ⟨rfl, rfl⟩ | ⟨rfl, rfl⟩ | ⟨rfl, rfl⟩ | ⟨rfl, rfl⟩
    · exact okliN0
    · exact okliN1
    · exact okliN2
    · exact okliN3
    · exact okliN4
    · exact okliN5
  · intro k C h
    have := lk_mem h
    simp only [tmliN, List.mem_cons, Prod.mk.injEq, List.not_mem_nil, or_false] at this
    rcases this with ⟨rfl, rfl⟩ | ⟨rfl, rfl⟩ | ⟨rfl, rfl⟩ | ⟨rfl, rfl⟩ | ⟨rfl, rfl⟩ | ⟨rfl, rfl⟩
    · exact sgliN0
    · exact sgliN1
    · exact sgliN2
    · exact sgliN3
    · exact sgliN4
    · exact sgliN5
  · intro k C h
    have := lk_mem h
    simp only [tmliN, List.mem_cons, Prod.mk.injEq, List.not_mem_nil, or_false] at this
    rcases this with ⟨rfl, rfl⟩ | ⟨rfl, rfl⟩ | ⟨rfl, rfl⟩ | ⟨rfl, rfl⟩ | ⟨rfl, rfl⟩ | ⟨rfl, rfl⟩
    · exact vcsliN0
    · exact vcsliN1
    · exact vcsliN2
    · exact vcsliN3
    · exact vcsliN4
    · exact vcsliN5
  · intro k C h
    have := lk_mem h
    simp only [tmliN, List.mem_cons, Prod.mk.injEq, List.not_mem_nil, or_false] at this
    rcases this with ⟨rfl, rfl⟩ | ⟨rfl, rfl⟩ | ⟨rfl, rfl⟩ | ⟨rfl, rfl⟩ | ⟨rfl, rfl⟩ | ⟨rfl, rfl⟩
    · exact lnliN0
    · exact lnliN1
    · exact lnliN2
    · exact lnliN3
    · exact lnliN4
    · exact lnliN5
end Go.Proofs.Ytjgkaimgocnkmaa.oct
