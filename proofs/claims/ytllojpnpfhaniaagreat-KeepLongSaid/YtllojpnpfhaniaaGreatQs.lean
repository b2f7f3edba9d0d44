/- Layer seal: a frame, told. No condition. -/
import Derived.Test.YtllojpnpfhaniaaGreatQo
set_option linter.unusedVariables false
set_option linter.unusedSimpArgs false
set_option linter.deprecated false
namespace Go.Proofs.YtllojpnpfhaniaaGreat.oct
open Go Go.Proofs.YtllojpnpfhaniaaGreat.Sx
noncomputable section
abbrev TTseal : Tab := T oct.Φ cSeal.roms [cNumber]
def tseal1 : Cfg := { top := ⟨96, over (opqS 10000 24) [(0, (SV.ptr 3 0)), (4, (SV.int .i64 (IE.var .i64 1000)))], ogt (loopTodo (bodyOf (T oct.Φ [] []) 96) 0), [], false, none⟩, rest := [⟨79, over (opqS 30000 7) [(0, (SV.slice 2 0 2 2)), (3, (SV.ptr 3 0))], ogt (callTodo (bodyOf (T oct.Φ [] []) 79) 2 [0]), [], false, none⟩, ⟨58, over (opqS 50000 21) [(12, (SV.sll 0 1 1 (IE.lit 0) (IE.len (LE.fn 1 (AL.int .u64 (IE.len (LE.rom 0)) AL.nil))) (some (IE.len (LE.fn 1 (AL.int .u64 (IE.len (LE.rom 0)) AL.nil)))))), (13, (SV.rom 0 (IE.lit 0) (IE.len (LE.rom 0)) none))], ogt (callTodo (bodyOf (T oct.Φ [] []) 58) 4 [5, 6, 7, 8, 9, 10]), [], false, none⟩], heap := [(3, .rowl (LE.var 1002) (IE.lit 256) [(CK.int .u32)] 97 4 1), (2, .cells [(SV.sll 0 1 1 (IE.lit 0) (IE.len (LE.fn 1 (AL.int .u64 (IE.len (LE.rom 0)) AL.nil))) (some (IE.len (LE.fn 1 (AL.int .u64 (IE.len (LE.rom 0)) AL.nil))))), (SV.rom 0 (IE.lit 0) (IE.len (LE.rom 0)) none)] 22), (0, .rowl (LE.fn 1 (AL.int .u64 (IE.len (LE.rom 0)) AL.nil)) (IE.len (LE.fn 1 (AL.int .u64 (IE.len (LE.rom 0)) AL.nil))) [(CK.int .u8)] 5 1 1)], next := 5, pc := .lit true :: ([] ++ [(BE.le (IE.len (LE.rom 0)) (IE.lit 65536)), (BE.le (IE.len (LE.fn 1 (AL.int .u64 (IE.len (LE.rom 0)) AL.nil))) (IE.lit 10)), (BE.le (IE.lit 1) (IE.len (LE.fn 1 (AL.int .u64 (IE.len (LE.rom 0)) AL.nil)))), (BE.le (IE.lit 0) (IE.var .i64 1000))]) }
def tseal2 : Cfg := { top := ⟨96, over (opqS 10000 24) [(0, (SV.ptr 3 0)), (2, (SV.int .i64 (IE.var .i64 1001))), (3, (SV.int .u32 (IE.var .u32 1003))), (4, (SV.int .i64 (IE.var .i64 1001))), (9, (SV.int .i64 (IE.var .i64 1000)))], ogt (loopTodo (bodyOf (T oct.Φ [] []) 96) 1), [], false, none⟩, rest := [⟨79, over (opqS 30000 7) [(0, (SV.slice 2 0 2 2)), (3, (SV.ptr 3 0))], ogt (callTodo (bodyOf (T oct.Φ [] []) 79) 2 [0]), [], false, none⟩, ⟨58, over (opqS 50000 21) [(12, (SV.sll 0 1 1 (IE.lit 0) (IE.len (LE.fn 1 (AL.int .u64 (IE.len (LE.rom 0)) AL.nil))) (some (IE.len (LE.fn 1 (AL.int .u64 (IE.len (LE.rom 0)) AL.nil)))))), (13, (SV.rom 0 (IE.lit 0) (IE.len (LE.rom 0)) none))], ogt (callTodo (bodyOf (T oct.Φ [] []) 58) 4 [5, 6, 7, 8, 9, 10]), [], false, none⟩], heap := [(3, .rowl (LE.var 1002) (IE.lit 256) [(CK.int .u32)] 97 4 1), (2, .cells [(SV.sll 0 1 1 (IE.lit 0) (IE.len (LE.fn 1 (AL.int .u64 (IE.len (LE.rom 0)) AL.nil))) (some (IE.len (LE.fn 1 (AL.int .u64 (IE.len (LE.rom 0)) AL.nil))))), (SV.rom 0 (IE.lit 0) (IE.len (LE.rom 0)) none)] 22), (0, .rowl (LE.fn 1 (AL.int .u64 (IE.len (LE.rom 0)) AL.nil)) (IE.len (LE.fn 1 (AL.int .u64 (IE.len (LE.rom 0)) AL.nil))) [(CK.int .u8)] 5 1 1)], next := 5, pc := .lit true :: ([] ++ [(BE.le (IE.lit 1) (IE.len (LE.fn 1 (AL.int .u64 (IE.len (LE.rom 0)) AL.nil)))), (BE.le (IE.len (LE.fn 1 (AL.int .u64 (IE.len (LE.rom 0)) AL.nil))) (IE.lit 10)), (BE.le (IE.len (LE.rom 0)) (IE.lit 65536)), (BE.le (IE.lit 0) (IE.var .i64 1000)), (BE.not (BE.le (IE.lit 256) (IE.var .i64 1001))), (BE.le (IE.lit 0) (IE.var .i64 1001)), (BE.le (IE.lit 0) (IE.var .u32 1003))]) }
def tseal3 : Cfg := { top := ⟨108, over (opqS 10000 28) [(0, (SV.ptr 3 0)), (1, (SV.int .u32 (IE.var .u32 1003))), (9, (SV.sll 0 1 1 (IE.lit 0) (IE.len (LE.fn 1 (AL.int .u64 (IE.len (LE.rom 0)) AL.nil))) (some (IE.len (LE.fn 1 (AL.int .u64 (IE.len (LE.rom 0)) AL.nil)))))), (10, (SV.int .i64 (IE.len (LE.fn 1 (AL.int .u64 (IE.len (LE.rom 0)) AL.nil))))), (11, (SV.int .i64 (IE.var .i64 1004)))], ogt (loopTodo (bodyOf (T oct.Φ [] []) 108) 0), [], false, none⟩, rest := [⟨107, over (opqS 30000 21) [(2, (SV.func (Go.Fn.func 108) [(SV.ptr 3 0)] [])), (9, (SV.slice 2 0 2 2)), (10, (SV.int .i64 (IE.lit 2))), (11, (SV.int .i64 (IE.lit 0)))], ogt (callTodo (bodyOf (T oct.Φ [] []) 107) 4 [3, 4]), [], false, none⟩, ⟨97, over (opqS 50000 10) [], ogt (callTodo (bodyOf (T oct.Φ [] []) 97) 1 [3, 4, 5]), [], false, none⟩, ⟨79, over (opqS 70000 7) [], ogt (callTodo (bodyOf (T oct.Φ [] []) 79) 3 [1, 2]), [], false, none⟩, ⟨58, over (opqS 90000 21) [(12, (SV.sll 0 1 1 (IE.lit 0) (IE.len (LE.fn 1 (AL.int .u64 (IE.len (LE.rom 0)) AL.nil))) (some (IE.len (LE.fn 1 (AL.int .u64 (IE.len (LE.rom 0)) AL.nil)))))), (13, (SV.rom 0 (IE.lit 0) (IE.len (LE.rom 0)) none))], ogt (callTodo (bodyOf (T oct.Φ [] []) 58) 4 [5, 6, 7, 8, 9, 10]), [], false, none⟩], heap := [(3, .rowl (LE.var 1002) (IE.lit 256) [(CK.int .u32)] 97 4 1), (0, .rowl (LE.fn 1 (AL.int .u64 (IE.len (LE.rom 0)) AL.nil)) (IE.len (LE.fn 1 (AL.int .u64 (IE.len (LE.rom 0)) AL.nil))) [(CK.int .u8)] 5 1 1), (2, .cells [(SV.sll 0 1 1 (IE.lit 0) (IE.len (LE.fn 1 (AL.int .u64 (IE.len (LE.rom 0)) AL.nil))) (some (IE.len (LE.fn 1 (AL.int .u64 (IE.len (LE.rom 0)) AL.nil))))), (SV.rom 0 (IE.lit 0) (IE.len (LE.rom 0)) none)] 22)], next := 5, pc := .lit true :: ([] ++ [(BE.le (IE.lit 1) (IE.len (LE.fn 1 (AL.int .u64 (IE.len (LE.rom 0)) AL.nil)))), (BE.le (IE.len (LE.fn 1 (AL.int .u64 (IE.len (LE.rom 0)) AL.nil))) (IE.lit 10)), (BE.le (IE.len (LE.rom 0)) (IE.lit 65536)), (BE.le (IE.lit 0) (IE.var .i64 1004))]) }
def tseal4 : Cfg := { top := ⟨108, over (opqS 10000 28) [(0, (SV.ptr 3 0)), (1, (SV.int .u32 (IE.var .u32 1003))), (9, (SV.rom 0 (IE.lit 0) (IE.len (LE.rom 0)) none)), (10, (SV.int .i64 (IE.len (LE.rom 0)))), (11, (SV.int .i64 (IE.var .i64 1004)))], ogt (loopTodo (bodyOf (T oct.Φ [] []) 108) 0), [], false, none⟩, rest := [⟨107, over (opqS 30000 21) [(2, (SV.func (Go.Fn.func 108) [(SV.ptr 3 0)] [])), (9, (SV.slice 2 0 2 2)), (10, (SV.int .i64 (IE.lit 2))), (11, (SV.int .i64 (IE.lit 1)))], ogt (callTodo (bodyOf (T oct.Φ [] []) 107) 4 [3, 4]), [], false, none⟩, ⟨97, over (opqS 50000 10) [], ogt (callTodo (bodyOf (T oct.Φ [] []) 97) 1 [3, 4, 5]), [], false, none⟩, ⟨79, over (opqS 70000 7) [], ogt (callTodo (bodyOf (T oct.Φ [] []) 79) 3 [1, 2]), [], false, none⟩, ⟨58, over (opqS 90000 21) [(12, (SV.sll 0 1 1 (IE.lit 0) (IE.len (LE.fn 1 (AL.int .u64 (IE.len (LE.rom 0)) AL.nil))) (some (IE.len (LE.fn 1 (AL.int .u64 (IE.len (LE.rom 0)) AL.nil)))))), (13, (SV.rom 0 (IE.lit 0) (IE.len (LE.rom 0)) none))], ogt (callTodo (bodyOf (T oct.Φ [] []) 58) 4 [5, 6, 7, 8, 9, 10]), [], false, none⟩], heap := [(3, .rowl (LE.var 1002) (IE.lit 256) [(CK.int .u32)] 97 4 1), (2, .cells [(SV.sll 0 1 1 (IE.lit 0) (IE.len (LE.fn 1 (AL.int .u64 (IE.len (LE.rom 0)) AL.nil))) (some (IE.len (LE.fn 1 (AL.int .u64 (IE.len (LE.rom 0)) AL.nil))))), (SV.rom 0 (IE.lit 0) (IE.len (LE.rom 0)) none)] 22), (0, .rowl (LE.fn 1 (AL.int .u64 (IE.len (LE.rom 0)) AL.nil)) (IE.len (LE.fn 1 (AL.int .u64 (IE.len (LE.rom 0)) AL.nil))) [(CK.int .u8)] 5 1 1)], next := 5, pc := .lit true :: ([] ++ [(BE.le (IE.len (LE.rom 0)) (IE.lit 65536)), (BE.le (IE.len (LE.fn 1 (AL.int .u64 (IE.len (LE.rom 0)) AL.nil))) (IE.lit 10)), (BE.le (IE.lit 1) (IE.len (LE.fn 1 (AL.int .u64 (IE.len (LE.rom 0)) AL.nil)))), (BE.le (IE.lit 0) (IE.var .i64 1004)), (BE.le (IE.var .i64 1004) (IE.len (LE.rom 0)))]) }
def tmseal : List (Nat × Cfg) := [(0, startF 58 cSeal.pat (.lit true :: cSeal.pre)), (1, tseal1), (2, tseal2), (3, tseal3), (4, tseal4)]
def selseal : Sel := [(96, 1, 2, 1), (96, 2, 2, 2), (108, 1, 1273004, 3), (108, 1, 1275004, 4)]
def wseal0_0 : VW := (VW.cut 1 [(BE.le (IE.lit 1) (IE.len (LE.fn 1 (AL.int .u64 (IE.len (LE.rom 0)) AL.nil)))), (BE.le (IE.len (LE.fn 1 (AL.int .u64 (IE.len (LE.rom 0)) AL.nil))) (IE.lit 10)), (BE.lit true), (BE.le (IE.len (LE.rom 0)) (IE.lit 65536))] (Sx.Sub.mk [(.i64, (1000, (IE.lit 0)))] [] [(1002, (LE.rep (AL.int .u32 (IE.lit 0) AL.nil) (IE.lit 256)))] [] [] []))
def vwseal0 : List VW := [wseal0_0]
def pcseal1_0 : List BE := [(BE.lit true), (BE.le (IE.len (LE.rom 0)) (IE.lit 65536)), (BE.le (IE.len (LE.fn 1 (AL.int .u64 (IE.len (LE.rom 0)) AL.nil))) (IE.lit 10)), (BE.le (IE.lit 1) (IE.len (LE.fn 1 (AL.int .u64 (IE.len (LE.rom 0)) AL.nil)))), (BE.le (IE.lit 0) (IE.var .i64 1000))]
def wseal1_0 : VW := (VW.cut 3 ((BE.le (IE.lit 256) (IE.var .i64 1000)) :: pcseal1_0) (Sx.Sub.mk [(.i64, (1004, (IE.lit 0))), (.u32, (1003, (IE.lit 4294967295)))] [] [(1002, (LE.var 1002))] [] [] []))
def wseal1_1 : VW := (VW.cut 2 ((BE.not (BE.le (IE.lit 256) (IE.var .i64 1000))) :: pcseal1_0) (Sx.Sub.mk [(.i64, (1000, (IE.lit 0))), (.u32, (1003, (IE.var .i64 1000))), (.i64, (1001, (IE.var .i64 1000)))] [] [(1002, (LE.var 1002))] [] [] []))
def vwseal1 : List VW := [wseal1_0, wseal1_1]
def pcseal2_0 : List BE := [(BE.lit true), (BE.le (IE.lit 1) (IE.len (LE.fn 1 (AL.int .u64 (IE.len (LE.rom 0)) AL.nil)))), (BE.le (IE.len (LE.fn 1 (AL.int .u64 (IE.len (LE.rom 0)) AL.nil))) (IE.lit 10)), (BE.le (IE.len (LE.rom 0)) (IE.lit 65536)), (BE.le (IE.lit 0) (IE.var .i64 1000)), (BE.not (BE.le (IE.lit 256) (IE.var .i64 1001))), (BE.le (IE.lit 0) (IE.var .i64 1001)), (BE.le (IE.lit 0) (IE.var .u32 1003))]
def wseal2_0 : VW := (VW.cut 1 ((BE.le (IE.lit 8) (IE.var .i64 1000)) :: pcseal2_0) (Sx.Sub.mk [(.i64, (1000, (IE.add (IE.var .i64 1001) (IE.lit 1))))] [] [(1002, (LE.set (LE.var 1002) (IE.var .i64 1001) (AL.int .u32 (IE.var .u32 1003) AL.nil)))] [] [] []))
def wseal2_1 : VW := (VW.cut 2 ((BE.not (BE.le (IE.lit 8) (IE.var .i64 1000))) :: pcseal2_0) (Sx.Sub.mk [(.i64, (1000, (IE.add (IE.var .i64 1000) (IE.lit 1)))), (.u32, (1003, (IE.bin BinOp.xor .u32 (IE.bin BinOp.shr .u32 (IE.var .u32 1003) (IE.lit 1)) (IE.mul (IE.lit 3988292384) (IE.bin BinOp.and .u32 (IE.var .u32 1003) (IE.lit 1)))))), (.i64, (1001, (IE.var .i64 1001)))] [] [(1002, (LE.var 1002))] [] [] []))
def vwseal2 : List VW := [wseal2_0, wseal2_1]
def pcseal3_0 : List BE := [(BE.lit true), (BE.le (IE.lit 1) (IE.len (LE.fn 1 (AL.int .u64 (IE.len (LE.rom 0)) AL.nil)))), (BE.le (IE.len (LE.fn 1 (AL.int .u64 (IE.len (LE.rom 0)) AL.nil))) (IE.lit 10)), (BE.le (IE.len (LE.rom 0)) (IE.lit 65536)), (BE.le (IE.lit 0) (IE.var .i64 1004))]
def wseal3_0 : VW := (VW.cut 4 ((BE.le (IE.len (LE.fn 1 (AL.int .u64 (IE.len (LE.rom 0)) AL.nil))) (IE.var .i64 1004)) :: pcseal3_0) (Sx.Sub.mk [(.i64, (1004, (IE.lit 0))), (.u32, (1003, (IE.var .u32 1003)))] [] [(1002, (LE.var 1002))] [] [] []))
def wseal3_1 : VW := (VW.cut 3 ((BE.not (BE.le (IE.len (LE.fn 1 (AL.int .u64 (IE.len (LE.rom 0)) AL.nil))) (IE.var .i64 1004))) :: pcseal3_0) (Sx.Sub.mk [(.i64, (1004, (IE.add (IE.var .i64 1004) (IE.lit 1)))), (.u32, (1003, (IE.bin BinOp.xor .u32 (IE.bin BinOp.shr .u32 (IE.var .u32 1003) (IE.lit 8)) (IE.cel .u32 (LE.var 1002) (IE.bin BinOp.xor .u8 (IE.wrap .u8 (IE.var .u32 1003)) (IE.cel .u8 (LE.fn 1 (AL.int .u64 (IE.len (LE.rom 0)) AL.nil)) (IE.var .i64 1004) 0)) 0))))] [] [(1002, (LE.var 1002))] [] [] []))
def vwseal3 : List VW := [wseal3_0, wseal3_1]
def pcseal4_0 : List BE := [(BE.lit true), (BE.le (IE.len (LE.rom 0)) (IE.lit 65536)), (BE.le (IE.len (LE.fn 1 (AL.int .u64 (IE.len (LE.rom 0)) AL.nil))) (IE.lit 10)), (BE.le (IE.lit 1) (IE.len (LE.fn 1 (AL.int .u64 (IE.len (LE.rom 0)) AL.nil)))), (BE.le (IE.lit 0) (IE.var .i64 1004)), (BE.le (IE.var .i64 1004) (IE.len (LE.rom 0)))]
def pcseal4_1 : List BE := ((BE.le (IE.len (LE.rom 0)) (IE.var .i64 1004)) :: pcseal4_0)
def wseal4_0 : VW := (VW.done ((BE.le (IE.add (IE.len (LE.fn 1 (AL.int .u64 (IE.len (LE.rom 0)) AL.nil))) (IE.len (LE.rom 0))) (IE.len (LE.fn 1 (AL.int .u64 (IE.len (LE.rom 0)) AL.nil)))) :: pcseal4_1) (some [(G.i (IE.len (LE.fn 3 (AL.lst (LE.rom 0) AL.nil))) (IE.add (IE.add (IE.len (LE.fn 1 (AL.int .u64 (IE.len (LE.rom 0)) AL.nil))) (IE.len (LE.rom 0))) (IE.lit 4))), (G.l (LE.fn 3 (AL.lst (LE.rom 0) AL.nil)) (LE.cat (LE.cat (LE.fn 1 (AL.int .u64 (IE.len (LE.rom 0)) AL.nil)) (LE.rom 0)) (LE.cat (LE.one (AL.int .u8 (IE.wrap .u8 (IE.bin BinOp.shr .u32 (IE.bin BinOp.xor .u32 (IE.lit 4294967295) (IE.var .u32 1003)) (IE.lit 24))) AL.nil)) (LE.cat (LE.one (AL.int .u8 (IE.wrap .u8 (IE.bin BinOp.shr .u32 (IE.bin BinOp.xor .u32 (IE.lit 4294967295) (IE.var .u32 1003)) (IE.lit 16))) AL.nil)) (LE.cat (LE.one (AL.int .u8 (IE.wrap .u8 (IE.bin BinOp.shr .u32 (IE.bin BinOp.xor .u32 (IE.lit 4294967295) (IE.var .u32 1003)) (IE.lit 8))) AL.nil)) (LE.one (AL.int .u8 (IE.wrap .u8 (IE.bin BinOp.xor .u32 (IE.lit 4294967295) (IE.var .u32 1003))) AL.nil))))))), (G.i (IE.len (LE.fn 3 (AL.lst (LE.rom 0) AL.nil))) (IE.add (IE.add (IE.len (LE.fn 1 (AL.int .u64 (IE.len (LE.rom 0)) AL.nil))) (IE.len (LE.rom 0))) (IE.lit 4)))]))
def wseal4_1 : VW := (VW.done ((BE.not (BE.le (IE.add (IE.len (LE.fn 1 (AL.int .u64 (IE.len (LE.rom 0)) AL.nil))) (IE.len (LE.rom 0))) (IE.len (LE.fn 1 (AL.int .u64 (IE.len (LE.rom 0)) AL.nil))))) :: pcseal4_1) (some [(G.i (IE.len (LE.fn 3 (AL.lst (LE.rom 0) AL.nil))) (IE.add (IE.add (IE.len (LE.fn 1 (AL.int .u64 (IE.len (LE.rom 0)) AL.nil))) (IE.len (LE.rom 0))) (IE.lit 4))), (G.l (LE.fn 3 (AL.lst (LE.rom 0) AL.nil)) (LE.cat (LE.cat (LE.fn 1 (AL.int .u64 (IE.len (LE.rom 0)) AL.nil)) (LE.rom 0)) (LE.cat (LE.one (AL.int .u8 (IE.wrap .u8 (IE.bin BinOp.shr .u32 (IE.bin BinOp.xor .u32 (IE.lit 4294967295) (IE.var .u32 1003)) (IE.lit 24))) AL.nil)) (LE.cat (LE.one (AL.int .u8 (IE.wrap .u8 (IE.bin BinOp.shr .u32 (IE.bin BinOp.xor .u32 (IE.lit 4294967295) (IE.var .u32 1003)) (IE.lit 16))) AL.nil)) (LE.cat (LE.one (AL.int .u8 (IE.wrap .u8 (IE.bin BinOp.shr .u32 (IE.bin BinOp.xor .u32 (IE.lit 4294967295) (IE.var .u32 1003)) (IE.lit 8))) AL.nil)) (LE.one (AL.int .u8 (IE.wrap .u8 (IE.bin BinOp.xor .u32 (IE.lit 4294967295) (IE.var .u32 1003))) AL.nil))))))), (G.i (IE.len (LE.fn 3 (AL.lst (LE.rom 0) AL.nil))) (IE.add (IE.add (IE.len (LE.fn 1 (AL.int .u64 (IE.len (LE.rom 0)) AL.nil))) (IE.len (LE.rom 0))) (IE.lit 4)))]))
def wseal4_2 : VW := (VW.cut 4 ((BE.not (BE.le (IE.len (LE.rom 0)) (IE.var .i64 1004))) :: pcseal4_0) (Sx.Sub.mk [(.i64, (1004, (IE.add (IE.var .i64 1004) (IE.lit 1)))), (.u32, (1003, (IE.bin BinOp.xor .u32 (IE.bin BinOp.shr .u32 (IE.var .u32 1003) (IE.lit 8)) (IE.cel .u32 (LE.var 1002) (IE.bin BinOp.xor .u8 (IE.wrap .u8 (IE.var .u32 1003)) (IE.cel .u8 (LE.rom 0) (IE.var .i64 1004) 0)) 0))))] [] [(1002, (LE.var 1002))] [] [] []))
def vwseal4 : List VW := [wseal4_0, wseal4_1, wseal4_2]
def vwseal : Nat → List VW
 | 0 => vwseal0
 | 1 => vwseal1
 | 2 => vwseal2
 | 3 => vwseal3
 | 4 => vwseal4
 | _ => []
end
def invseal : Nat → Lt → Prop
 | 1, l => (l.l 1002) = tabL (l.i .i64 1000).toNat ∧ (l.i .i64 1000) ≤ 256
 | 2, l => (l.l 1002) = tabL (l.i .i64 1001).toNat ∧ (l.i .u32 1003) = (stn (l.i .i64 1000).toNat (l.i .i64 1001).toNat : Int) ∧ (l.i .i64 1000) ≤ 8 ∧ (l.i .i64 1001) < 256
 | 3, l => (l.l 1002) = tabL 256 ∧ (l.i .u32 1003) = (crcT (headL (l.z.rl 0)) (l.i .i64 1004).toNat : Int) ∧ (l.i .i64 1004) ≤ ((numL (clampK .u64 ((l.z.rl 0).length : Int))).length : Int)
 | 4, l => (l.l 1002) = tabL 256 ∧ (l.i .u32 1003) = (crcT (headL (l.z.rl 0)) ((numL (clampK .u64 ((l.z.rl 0).length : Int))).length + (l.i .i64 1004).toNat) : Int)
 | _, _ => True
def msseal : Nat → Lt → Nat
 | 0, l => (l.z.rl 0).length + 2581
 | 1, l => 10 * (256 - (l.i .i64 1000).toNat) + (l.z.rl 0).length + 20
 | 2, l => 10 * (256 - (l.i .i64 1001).toNat) - 1 - (l.i .i64 1000).toNat + (l.z.rl 0).length + 20
 | 3, l => ((numL (clampK .u64 ((l.z.rl 0).length : Int))).length - (l.i .i64 1004).toNat) + (l.z.rl 0).length + 5
 | 4, l => (l.z.rl 0).length - (l.i .i64 1004).toNat
 | _, _ => 0
theorem vcseal0_0 : VC TTseal invseal msseal 0 (startF 58 cSeal.pat (.lit true :: cSeal.pre)) wseal0_0 := by
 intro ρ kn hi hp
 have hF : ρ.z.F = oct.Φ := kn.F
 simp only [h_nil, h_cons, d_le, d_eq, d_not, d_var, d_lit, d_cel, d_leq, d_fn, d_and, d_iff, IE.den, LE.den, AL.den, lenV, true_and, and_true, hF, pi2, pi3, pi4, pi5, pi6, pi7, pi20, pl1] at hp
 obtain ⟨p1, p2, p3⟩ := hp
 refine (show ((List.replicate (256 : Int).toNat [Go.Value.int .u32 (0 : Int)]) = tabL (0 : Int).toNat ∧ (0 : Int) ≤ 256) ∧ ((10 * (256 - (0 : Int).toNat) + (ρ.z.rl 0).length + 20 : Nat) < (ρ.z.rl 0).length + 2581) from ?_)
 exact ⟨⟨tab_0, by omega⟩, by omega⟩
def ivseal1 (ρ : Rho) : Prop := (ρ.l 1002) = tabL (ρ.i .i64 1000).toNat ∧ (ρ.i .i64 1000) ≤ 256
theorem vcseal1_0 : VC TTseal invseal msseal 1 tseal1 wseal1_0 := by
 intro ρ kn hi hp
 have hi : ivseal1 ρ := hi
 unfold ivseal1 at hi
 have hF : ρ.z.F = oct.Φ := kn.F
 simp only [h_nil, h_cons, d_le, d_eq, d_not, d_var, d_lit, d_cel, d_leq, d_fn, d_and, d_iff, IE.den, LE.den, AL.den, lenV, true_and, and_true, pcseal1_0, hF, pi2, pi3, pi4, pi5, pi6, pi7, pi20, pl1] at hp
 obtain ⟨p1, p2, p3, p4, p5⟩ := hp
 refine (show ((ρ.l 1002) = tabL 256 ∧ (4294967295 : Int) = (crcT (headL (ρ.z.rl 0)) (0 : Int).toNat : Int) ∧ (0 : Int) ≤ ((numL (clampK .u64 ((ρ.z.rl 0).length : Int))).length : Int)) ∧ ((((numL (clampK .u64 ((ρ.z.rl 0).length : Int))).length - (0 : Int).toNat) + (ρ.z.rl 0).length + 5 : Nat) < 10 * (256 - (ρ.i .i64 1000).toNat) + (ρ.z.rl 0).length + 20) from ?_)
 obtain ⟨h1, h2⟩ := hi
 have hn := num_len (clampK .u64 ((ρ.z.rl 0).length : Int))
 rw [show (ρ.i .i64 1000).toNat = 256 by omega] at h1
 exact ⟨⟨h1, rfl, by omega⟩, by omega⟩
theorem vcseal1_1 : VC TTseal invseal msseal 1 tseal1 wseal1_1 := by
 intro ρ kn hi hp
 have hi : ivseal1 ρ := hi
 unfold ivseal1 at hi
 have hF : ρ.z.F = oct.Φ := kn.F
 simp only [h_nil, h_cons, d_le, d_eq, d_not, d_var, d_lit, d_cel, d_leq, d_fn, d_and, d_iff, IE.den, LE.den, AL.den, lenV, true_and, and_true, pcseal1_0, hF, pi2, pi3, pi4, pi5, pi6, pi7, pi20, pl1] at hp
 obtain ⟨p1, p2, p3, p4, p5⟩ := hp
 refine (show ((ρ.l 1002) = tabL (ρ.i .i64 1000).toNat ∧ (ρ.i .i64 1000) = (stn (0 : Int).toNat (ρ.i .i64 1000).toNat : Int) ∧ (0 : Int) ≤ 8 ∧ (ρ.i .i64 1000) < 256) ∧ ((10 * (256 - (ρ.i .i64 1000).toNat) - 1 - (0 : Int).toNat + (ρ.z.rl 0).length + 20 : Nat) < 10 * (256 - (ρ.i .i64 1000).toNat) + (ρ.z.rl 0).length + 20) from ?_)
 obtain ⟨h1, h2⟩ := hi
 refine ⟨⟨h1, ?_, by omega, by omega⟩, by omega⟩
 show ρ.i .i64 1000 = ((ρ.i .i64 1000).toNat : Int)
 omega
def ivseal2 (ρ : Rho) : Prop := (ρ.l 1002) = tabL (ρ.i .i64 1001).toNat ∧ (ρ.i .u32 1003) = (stn (ρ.i .i64 1000).toNat (ρ.i .i64 1001).toNat : Int) ∧ (ρ.i .i64 1000) ≤ 8 ∧ (ρ.i .i64 1001) < 256
theorem vcseal2_0 : VC TTseal invseal msseal 2 tseal2 wseal2_0 := by
 intro ρ kn hi hp
 have hi : ivseal2 ρ := hi
 unfold ivseal2 at hi
 have hF : ρ.z.F = oct.Φ := kn.F
 simp only [h_nil, h_cons, d_le, d_eq, d_not, d_var, d_lit, d_cel, d_leq, d_fn, d_and, d_iff, IE.den, LE.den, AL.den, lenV, true_and, and_true, pcseal2_0, hF, pi2, pi3, pi4, pi5, pi6, pi7, pi20, pl1] at hp
 obtain ⟨p1, p2, p3, p4, p5, p6, p7, p8⟩ := hp
 refine (show (((ρ.l 1002).set (ρ.i .i64 1001).toNat [Go.Value.int .u32 (ρ.i .u32 1003)]) = tabL ((ρ.i .i64 1001) + (1 : Int)).toNat ∧ ((ρ.i .i64 1001) + (1 : Int)) ≤ 256) ∧ ((10 * (256 - ((ρ.i .i64 1001) + (1 : Int)).toNat) + (ρ.z.rl 0).length + 20 : Nat) < 10 * (256 - (ρ.i .i64 1001).toNat) - 1 - (ρ.i .i64 1000).toNat + (ρ.z.rl 0).length + 20) from ?_)
 obtain ⟨h1, h2, h3, h4⟩ := hi
 rw [show (ρ.i .i64 1000).toNat = 8 by omega] at h2
 rw [h1, h2, tab_set (by omega), show (ρ.i .i64 1001 + 1).toNat = (ρ.i .i64 1001).toNat + 1 by omega]
 exact ⟨⟨rfl, by omega⟩, by omega⟩
theorem vcseal2_1 : VC TTseal invseal msseal 2 tseal2 wseal2_1 := by
 intro ρ kn hi hp
 have hi : ivseal2 ρ := hi
 unfold ivseal2 at hi
 have hF : ρ.z.F = oct.Φ := kn.F
 simp only [h_nil, h_cons, d_le, d_eq, d_not, d_var, d_lit, d_cel, d_leq, d_fn, d_and, d_iff, IE.den, LE.den, AL.den, lenV, true_and, and_true, pcseal2_0, hF, pi2, pi3, pi4, pi5, pi6, pi7, pi20, pl1] at hp
 obtain ⟨p1, p2, p3, p4, p5, p6, p7, p8⟩ := hp
 refine (show ((ρ.l 1002) = tabL (ρ.i .i64 1001).toNat ∧ (binI BinOp.xor .u32 (binI BinOp.shr .u32 (ρ.i .u32 1003) (1 : Int)) ((3988292384 : Int) * (binI BinOp.and .u32 (ρ.i .u32 1003) (1 : Int)))) = (stn ((ρ.i .i64 1000) + (1 : Int)).toNat (ρ.i .i64 1001).toNat : Int) ∧ ((ρ.i .i64 1000) + (1 : Int)) ≤ 8 ∧ (ρ.i .i64 1001) < 256) ∧ ((10 * (256 - (ρ.i .i64 1001).toNat) - 1 - ((ρ.i .i64 1000) + (1 : Int)).toNat + (ρ.z.rl 0).length + 20 : Nat) < 10 * (256 - (ρ.i .i64 1001).toNat) - 1 - (ρ.i .i64 1000).toNat + (ρ.z.rl 0).length + 20) from ?_)
 obtain ⟨h1, h2, h3, h4⟩ := hi
 rw [show (ρ.i .i64 1000 + 1).toNat = (ρ.i .i64 1000).toNat + 1 by omega, stn_succ]
 exact ⟨⟨h1, up_mul (stn_lt _ _ (by omega)) h2, by omega, h4⟩, by omega⟩
def ivseal3 (ρ : Rho) : Prop := (ρ.l 1002) = tabL 256 ∧ (ρ.i .u32 1003) = (crcT (headL (ρ.z.rl 0)) (ρ.i .i64 1004).toNat : Int) ∧ (ρ.i .i64 1004) ≤ ((numL (clampK .u64 ((ρ.z.rl 0).length : Int))).length : Int)
theorem vcseal3_0 : VC TTseal invseal msseal 3 tseal3 wseal3_0 := by
 intro ρ kn hi hp
 have hi : ivseal3 ρ := hi
 unfold ivseal3 at hi
 have hF : ρ.z.F = oct.Φ := kn.F
 simp only [h_nil, h_cons, d_le, d_eq, d_not, d_var, d_lit, d_cel, d_leq, d_fn, d_and, d_iff, IE.den, LE.den, AL.den, lenV, true_and, and_true, pcseal3_0, hF, pi2, pi3, pi4, pi5, pi6, pi7, pi20, pl1] at hp
 obtain ⟨p1, p2, p3, p4, p5⟩ := hp
 refine (show ((ρ.l 1002) = tabL 256 ∧ (ρ.i .u32 1003) = (crcT (headL (ρ.z.rl 0)) ((numL (clampK .u64 ((ρ.z.rl 0).length : Int))).length + (0 : Int).toNat) : Int)) ∧ (((ρ.z.rl 0).length - (0 : Int).toNat : Nat) < ((numL (clampK .u64 ((ρ.z.rl 0).length : Int))).length - (ρ.i .i64 1004).toNat) + (ρ.z.rl 0).length + 5) from ?_)
 obtain ⟨h1, h2, h3⟩ := hi
 refine ⟨⟨h1, ?_⟩, by omega⟩
 rw [h2, show (ρ.i .i64 1004).toNat = (numL (clampK .u64 ((ρ.z.rl 0).length : Int))).length + (0 : Int).toNat by omega]
theorem vcseal3_1 : VC TTseal invseal msseal 3 tseal3 wseal3_1 := by
 intro ρ kn hi hp
 have hi : ivseal3 ρ := hi
 unfold ivseal3 at hi
 have hF : ρ.z.F = oct.Φ := kn.F
 simp only [h_nil, h_cons, d_le, d_eq, d_not, d_var, d_lit, d_cel, d_leq, d_fn, d_and, d_iff, IE.den, LE.den, AL.den, lenV, true_and, and_true, pcseal3_0, hF, pi2, pi3, pi4, pi5, pi6, pi7, pi20, pl1] at hp
 obtain ⟨p1, p2, p3, p4, p5⟩ := hp
 refine (show ((ρ.l 1002) = tabL 256 ∧ (binI BinOp.xor .u32 (binI BinOp.shr .u32 (ρ.i .u32 1003) (8 : Int)) (clampK .u32 (intV (celV (ρ.l 1002) (binI BinOp.xor .u8 (IntKind.wrap .u8 (ρ.i .u32 1003)) (clampK .u8 (intV (celV (ρ.z.F.l 1 [.int .u64 (((ρ.z.rl 0).length : Nat) : Int)]) (ρ.i .i64 1004) 0)))) 0)))) = (crcT (headL (ρ.z.rl 0)) ((ρ.i .i64 1004) + (1 : Int)).toNat : Int) ∧ ((ρ.i .i64 1004) + (1 : Int)) ≤ ((numL (clampK .u64 ((ρ.z.rl 0).length : Int))).length : Int)) ∧ ((((numL (clampK .u64 ((ρ.z.rl 0).length : Int))).length - ((ρ.i .i64 1004) + (1 : Int)).toNat) + (ρ.z.rl 0).length + 5 : Nat) < ((numL (clampK .u64 ((ρ.z.rl 0).length : Int))).length - (ρ.i .i64 1004).toNat) + (ρ.z.rl 0).length + 5) from ?_)
 simp only [hF, pi2, pi3, pi4, pi5, pi6, pi7, pi20, pl1]
 obtain ⟨h1, h2, h3⟩ := hi
 rw [show (ρ.i .i64 1004 + 1).toNat = (ρ.i .i64 1004).toNat + 1 by omega]
 refine ⟨⟨h1, crc_go h1 h2 ?_, by omega⟩, by omega⟩
 rw [b_z (by omega), headL, bI_app_l (by omega)]
def ivseal4 (ρ : Rho) : Prop := (ρ.l 1002) = tabL 256 ∧ (ρ.i .u32 1003) = (crcT (headL (ρ.z.rl 0)) ((numL (clampK .u64 ((ρ.z.rl 0).length : Int))).length + (ρ.i .i64 1004).toNat) : Int)
theorem vcseal4_0 : VC TTseal invseal msseal 4 tseal4 wseal4_0 := by
 intro ρ kn hi hp
 have hi : ivseal4 ρ := hi
 unfold ivseal4 at hi
 have hF : ρ.z.F = oct.Φ := kn.F
 simp only [h_nil, h_cons, d_le, d_eq, d_not, d_var, d_lit, d_cel, d_leq, d_fn, d_and, d_iff, IE.den, LE.den, AL.den, lenV, true_and, and_true, pcseal4_1, pcseal4_0, hF, pi2, pi3, pi4, pi5, pi6, pi7, pi20, pl1] at hp
 obtain ⟨p1, p2, p3, p4, p5, p6, p7⟩ := hp
 refine all_cons (show (((ρ.z.F.l 3 [.lst (ρ.z.rl 0)]).length : Nat) : Int) = (((((ρ.z.F.l 1 [.int .u64 (((ρ.z.rl 0).length : Nat) : Int)]).length : Nat) : Int) + (((ρ.z.rl 0).length : Nat) : Int)) + (4 : Int)) from ?_) (all_cons (show (ρ.z.F.l 3 [.lst (ρ.z.rl 0)]) = (((ρ.z.F.l 1 [.int .u64 (((ρ.z.rl 0).length : Nat) : Int)]) ++ (ρ.z.rl 0)) ++ (([[Go.Value.int .u8 (IntKind.wrap .u8 (binI BinOp.shr .u32 (binI BinOp.xor .u32 (4294967295 : Int) (ρ.i .u32 1003)) (24 : Int)))]] : LV) ++ (([[Go.Value.int .u8 (IntKind.wrap .u8 (binI BinOp.shr .u32 (binI BinOp.xor .u32 (4294967295 : Int) (ρ.i .u32 1003)) (16 : Int)))]] : LV) ++ (([[Go.Value.int .u8 (IntKind.wrap .u8 (binI BinOp.shr .u32 (binI BinOp.xor .u32 (4294967295 : Int) (ρ.i .u32 1003)) (8 : Int)))]] : LV) ++ ([[Go.Value.int .u8 (IntKind.wrap .u8 (binI BinOp.xor .u32 (4294967295 : Int) (ρ.i .u32 1003)))]] : LV))))) from ?_) (all_cons (show (((ρ.z.F.l 3 [.lst (ρ.z.rl 0)]).length : Nat) : Int) = (((((ρ.z.F.l 1 [.int .u64 (((ρ.z.rl 0).length : Nat) : Int)]).length : Nat) : Int) + (((ρ.z.rl 0).length : Nat) : Int)) + (4 : Int)) from ?_) (all_nil)))
 all_goals try simp only [hF, pi2, pi3, pi4, pi5, pi6, pi7, pi20, pl1]
 all_goals
  obtain ⟨h1, h2⟩ := hi
  have hT : Typed byteK (ρ.z.rl 0) := kn.rom 0 _ _ rfl
  have hs := seal_len (ρ.z.rl 0)
  rw [show (numL (clampK .u64 ((ρ.z.rl 0).length : Int))).length + (ρ.i .i64 1004).toNat = (headL (ρ.z.rl 0)).length by rw [head_len]; omega] at h2
  simp only [pl3t hT]
  first
   | omega
   | (rw [four_is (crc_lt _ _) h2]; rfl)
   | (rw [h2]; rfl)
theorem vcseal4_1 : VC TTseal invseal msseal 4 tseal4 wseal4_1 := by
 intro ρ kn hi hp
 have hi : ivseal4 ρ := hi
 unfold ivseal4 at hi
 have hF : ρ.z.F = oct.Φ := kn.F
 simp only [h_nil, h_cons, d_le, d_eq, d_not, d_var, d_lit, d_cel, d_leq, d_fn, d_and, d_iff, IE.den, LE.den, AL.den, lenV, true_and, and_true, pcseal4_1, pcseal4_0, hF, pi2, pi3, pi4, pi5, pi6, pi7, pi20, pl1] at hp
 obtain ⟨p1, p2, p3, p4, p5, p6, p7⟩ := hp
 refine all_cons (show (((ρ.z.F.l 3 [.lst (ρ.z.rl 0)]).length : Nat) : Int) = (((((ρ.z.F.l 1 [.int .u64 (((ρ.z.rl 0).length : Nat) : Int)]).length : Nat) : Int) + (((ρ.z.rl 0).length : Nat) : Int)) + (4 : Int)) from ?_) (all_cons (show (ρ.z.F.l 3 [.lst (ρ.z.rl 0)]) = (((ρ.z.F.l 1 [.int .u64 (((ρ.z.rl 0).length : Nat) : Int)]) ++ (ρ.z.rl 0)) ++ (([[Go.Value.int .u8 (IntKind.wrap .u8 (binI BinOp.shr .u32 (binI BinOp.xor .u32 (4294967295 : Int) (ρ.i .u32 1003)) (24 : Int)))]] : LV) ++ (([[Go.Value.int .u8 (IntKind.wrap .u8 (binI BinOp.shr .u32 (binI BinOp.xor .u32 (4294967295 : Int) (ρ.i .u32 1003)) (16 : Int)))]] : LV) ++ (([[Go.Value.int .u8 (IntKind.wrap .u8 (binI BinOp.shr .u32 (binI BinOp.xor .u32 (4294967295 : Int) (ρ.i .u32 1003)) (8 : Int)))]] : LV) ++ ([[Go.Value.int .u8 (IntKind.wrap .u8 (binI BinOp.xor .u32 (4294967295 : Int) (ρ.i .u32 1003)))]] : LV))))) from ?_) (all_cons (show (((ρ.z.F.l 3 [.lst (ρ.z.rl 0)]).length : Nat) : Int) = (((((ρ.z.F.l 1 [.int .u64 (((ρ.z.rl 0).length : Nat) : Int)]).length : Nat) : Int) + (((ρ.z.rl 0).length : Nat) : Int)) + (4 : Int)) from ?_) (all_nil)))
 all_goals try simp only [hF, pi2, pi3, pi4, pi5, pi6, pi7, pi20, pl1]
 all_goals
  obtain ⟨h1, h2⟩ := hi
  have hT : Typed byteK (ρ.z.rl 0) := kn.rom 0 _ _ rfl
  have hs := seal_len (ρ.z.rl 0)
  rw [show (numL (clampK .u64 ((ρ.z.rl 0).length : Int))).length + (ρ.i .i64 1004).toNat = (headL (ρ.z.rl 0)).length by rw [head_len]; omega] at h2
  simp only [pl3t hT]
  first
   | omega
   | (rw [four_is (crc_lt _ _) h2]; rfl)
   | (rw [h2]; rfl)
theorem vcseal4_2 : VC TTseal invseal msseal 4 tseal4 wseal4_2 := by
 intro ρ kn hi hp
 have hi : ivseal4 ρ := hi
 unfold ivseal4 at hi
 have hF : ρ.z.F = oct.Φ := kn.F
 simp only [h_nil, h_cons, d_le, d_eq, d_not, d_var, d_lit, d_cel, d_leq, d_fn, d_and, d_iff, IE.den, LE.den, AL.den, lenV, true_and, and_true, pcseal4_0, hF, pi2, pi3, pi4, pi5, pi6, pi7, pi20, pl1] at hp
 obtain ⟨p1, p2, p3, p4, p5, p6⟩ := hp
 refine (show ((ρ.l 1002) = tabL 256 ∧ (binI BinOp.xor .u32 (binI BinOp.shr .u32 (ρ.i .u32 1003) (8 : Int)) (clampK .u32 (intV (celV (ρ.l 1002) (binI BinOp.xor .u8 (IntKind.wrap .u8 (ρ.i .u32 1003)) (clampK .u8 (intV (celV (ρ.z.rl 0) (ρ.i .i64 1004) 0)))) 0)))) = (crcT (headL (ρ.z.rl 0)) ((numL (clampK .u64 ((ρ.z.rl 0).length : Int))).length + ((ρ.i .i64 1004) + (1 : Int)).toNat) : Int)) ∧ (((ρ.z.rl 0).length - ((ρ.i .i64 1004) + (1 : Int)).toNat : Nat) < (ρ.z.rl 0).length - (ρ.i .i64 1004).toNat) from ?_)
 obtain ⟨h1, h2⟩ := hi
 rw [show (ρ.i .i64 1004 + 1).toNat = (ρ.i .i64 1004).toNat + 1 by omega, ← Nat.add_assoc]
 refine ⟨⟨h1, crc_go h1 h2 ?_⟩, by omega⟩
 rw [b_z (by omega), headL, bI_app_r]
theorem vcsseal0 : ∀ v ∈ vwseal 0, VC TTseal invseal msseal 0 (startF 58 cSeal.pat (.lit true :: cSeal.pre)) v := all_cons vcseal0_0 (all_nil)
theorem okseal0 : cfgOk (startF 58 cSeal.pat (.lit true :: cSeal.pre)) = true := by kernel_rfl
theorem sgseal0 : segL cSeal.roms cSeal (seg TTseal selseal 2500 tmseal (startF 58 cSeal.pat (.lit true :: cSeal.pre))) = (true, codesR tmseal (views (seg TTseal selseal 2500 tmseal (startF 58 cSeal.pat (.lit true :: cSeal.pre)))), vwseal 0) := by kernel_rfl
theorem vcsseal1 : ∀ v ∈ vwseal 1, VC TTseal invseal msseal 1 tseal1 v := all_cons vcseal1_0 (all_cons vcseal1_1 (all_nil))
theorem okseal1 : cfgOk tseal1 = true := by kernel_rfl
theorem sgseal1 : segL cSeal.roms cSeal (seg TTseal selseal 2500 tmseal tseal1) = (true, codesR tmseal (views (seg TTseal selseal 2500 tmseal tseal1)), vwseal 1) := by kernel_rfl
theorem vcsseal2 : ∀ v ∈ vwseal 2, VC TTseal invseal msseal 2 tseal2 v := all_cons vcseal2_0 (all_cons vcseal2_1 (all_nil))
theorem okseal2 : cfgOk tseal2 = true := by kernel_rfl
theorem sgseal2 : segL cSeal.roms cSeal (seg TTseal selseal 2500 tmseal tseal2) = (true, codesR tmseal (views (seg TTseal selseal 2500 tmseal tseal2)), vwseal 2) := by kernel_rfl
theorem vcsseal3 : ∀ v ∈ vwseal 3, VC TTseal invseal msseal 3 tseal3 v := all_cons vcseal3_0 (all_cons vcseal3_1 (all_nil))
theorem okseal3 : cfgOk tseal3 = true := by kernel_rfl
theorem sgseal3 : segL cSeal.roms cSeal (seg TTseal selseal 2500 tmseal tseal3) = (true, codesR tmseal (views (seg TTseal selseal 2500 tmseal tseal3)), vwseal 3) := by kernel_rfl
theorem vcsseal4 : ∀ v ∈ vwseal 4, VC TTseal invseal msseal 4 tseal4 v := all_cons vcseal4_0 (all_cons vcseal4_1 (all_cons vcseal4_2 (all_nil)))
theorem okseal4 : cfgOk tseal4 = true := by kernel_rfl
theorem sgseal4 : segL cSeal.roms cSeal (seg TTseal selseal 2500 tmseal tseal4) = (true, codesR tmseal (views (seg TTseal selseal 2500 tmseal tseal4)), vwseal 4) := by kernel_rfl
theorem lnseal0 : ∀ ρ, Known TTseal (startF 58 cSeal.pat (.lit true :: cSeal.pre)) ρ → invseal 0 ρ.lt → Holds ρ (leanOf (Cfg.pc (startF 58 cSeal.pat (.lit true :: cSeal.pre)))) := by
 intro ρ _ _
 exact (show Holds ρ [] from fun p hp => by cases hp)
theorem lnseal1 : ∀ ρ, Known TTseal tseal1 ρ → invseal 1 ρ.lt → Holds ρ (leanOf (Cfg.pc tseal1)) := by
 intro ρ _ _
 exact (show Holds ρ [] from fun p hp => by cases hp)
theorem lnseal2 : ∀ ρ, Known TTseal tseal2 ρ → invseal 2 ρ.lt → Holds ρ (leanOf (Cfg.pc tseal2)) := by
 intro ρ _ _
 exact (show Holds ρ [] from fun p hp => by cases hp)
theorem lnseal3 : ∀ ρ, Known TTseal tseal3 ρ → invseal 3 ρ.lt → Holds ρ (leanOf (Cfg.pc tseal3)) := by
 intro ρ _ _
 exact (show Holds ρ [] from fun p hp => by cases hp)
theorem lnseal4 : ∀ ρ, Known TTseal tseal4 ρ → invseal 4 ρ.lt → Holds ρ (leanOf (Cfg.pc tseal4)) := by
 intro ρ _ _
 exact (show Holds ρ [] from fun p hp => by cases hp)
theorem told_seal : Sx.Told oct.Φ cSeal := by
 refine told_of (cs := [cNumber]) (all_cons told_number (all_nil)) (sel := selseal) 2500 tmseal invseal msseal vwseal 0 (pc0 := (.lit true :: cSeal.pre)) (by kernel_rfl) (by kernel_rfl) (by kernel_rfl) (post_se rfl) ?_ ?_ ?_ rfl (fun ρ _ h => h.cons (p := .lit true) (by simp only [BE.den])) (fun _ _ _ _ => trivial) ?_
 ·intro k C h
  have := lk_mem h
  simp only [tmseal, List.mem_cons, Prod.mk.injEq, List.not_mem_nil, or_false] at this
  rcases this with ⟨rfl, rfl⟩ | ⟨rfl, rfl⟩ | ⟨rfl, rfl⟩ | ⟨rfl, rfl⟩ | ⟨rfl, rfl⟩
  ·exact okseal0
  ·exact okseal1
  ·exact okseal2
  ·exact okseal3
  ·exact okseal4
 ·intro k C h
  have := lk_mem h
  simp only [tmseal, List.mem_cons, Prod.mk.injEq, List.not_mem_nil, or_false] at this
  rcases this with ⟨rfl, rfl⟩ | ⟨rfl, rfl⟩ | ⟨rfl, rfl⟩ | ⟨rfl, rfl⟩ | ⟨rfl, rfl⟩
  ·exact sgseal0
  ·exact sgseal1
  ·exact sgseal2
  ·exact sgseal3
  ·exact sgseal4
 ·intro k C h
  have := lk_mem h
  simp only [tmseal, List.mem_cons, Prod.mk.injEq, List.not_mem_nil, or_false] at this
  rcases this with ⟨rfl, rfl⟩ | ⟨rfl, rfl⟩ | ⟨rfl, rfl⟩ | ⟨rfl, rfl⟩ | ⟨rfl, rfl⟩
  ·exact vcsseal0
  ·exact vcsseal1
  ·exact vcsseal2
  ·exact vcsseal3
  ·exact vcsseal4
 ·intro k C h
  have := lk_mem h
  simp only [tmseal, List.mem_cons, Prod.mk.injEq, List.not_mem_nil, or_false] at this
  rcases this with ⟨rfl, rfl⟩ | ⟨rfl, rfl⟩ | ⟨rfl, rfl⟩ | ⟨rfl, rfl⟩ | ⟨rfl, rfl⟩
  ·exact lnseal0
  ·exact lnseal1
  ·exact lnseal2
  ·exact lnseal3
  ·exact lnseal4
end Go.Proofs.YtllojpnpfhaniaaGreat.oct
