/- Layer owner: the law OwnerRises. No condition. -/
import Derived.Test.YtepodgakaajcmaaOd
set_option linter.unusedVariables false
set_option linter.unusedSimpArgs false
set_option linter.deprecated false
namespace Go.Proofs.Ytepodgakaajcmaa.own
open Go Go.Proofs.Ytepodgakaajcmaa.Sx
theorem told_rises0 : Sx.Told own.Φ cRises0 := told_auto (cs := [cWorks, cRight, cRRight, cSi, cHop, cRHop, cSeeks]) (all_cons told_works (all_cons told_right (all_cons told_rright (all_cons told_si (all_cons told_hop (all_cons told_rhop (all_cons told_seeks (all_nil)))))))) 20000 (by kernel_rfl) (by kernel_rfl) (by kernel_rfl) (post_nil rfl) (by kernel_rfl) (by kernel_rfl)
noncomputable section
def trises1 : Cfg := { top := ⟨86, over (opqS 10000 38) [(0, (SV.func (Go.Fn.yield 17) [] [])), (2, (SV.ptr 14 0)), (4, (SV.ptr 18 0))], ogt (loopTodo (bodyOf (T own.Φ [] []) 86) 0), [], false, none⟩, rest := [⟨58, over (opqS 30000 22) [], ogt (rangeTodo (bodyOf (T own.Φ [] []) 58) 0 17), [16], false, none⟩, ⟨7, over (opqS 50000 50) [(6, (SV.ptr 2 0))], ogt (rangeTodo (bodyOf (T own.Φ [] []) 7) 0 12), [11], false, none⟩], heap := [(17, .loop .ready none 58 (over (opqS 200000 22) [(4, (SV.ptr 13 0))]) [15, 16] ((rangeCode (bodyOf (T own.Φ [] []) 58) 0).getD (.skip, .skip)).1 ((rangeCode (bodyOf (T own.Φ [] []) 58) 0).getD (.skip, .skip)).2 16), (14, .cells [(SV.sll 6 7 2 (IE.lit 0) (IE.len (LE.rom 0)) none)] 48), (18, .cells [(SV.bool (BE.lit false)), (SV.int .i64 (IE.var .i64 1000)), (SV.int .i64 (IE.var .i64 1001)), (SV.int .i64 (IE.var .i64 6)), (SV.int .i64 (IE.var .i64 1002)), (SV.int .i64 (IE.var .i64 1003))] 107), (16, .defd true), (11, .defd true), (12, .loop .ready none 7 (over (opqS 300000 50) [(3, (SV.ptr 0 0)), (6, (SV.ptr 2 0)), (8, (SV.ptr 9 0)), (9, (SV.ptr 10 0))]) [25, 26] ((rangeCode (bodyOf (T own.Φ [] []) 7) 0).getD (.skip, .skip)).1 ((rangeCode (bodyOf (T own.Φ [] []) 7) 0).getD (.skip, .skip)).2 11), (2, .cells [(SV.bool (BE.lit false))] 4), (13, .cells [(SV.func (Go.Fn.yield 12) [] [])] 111), (6, .rowl (LE.rom 0) (IE.len (LE.rom 0)) [(CK.int .i64), (CK.int .i64)] 25 7 2), (0, .cells [(SV.int .i64 (IE.var .i64 1)), (SV.int .i64 (IE.var .i64 2)), (SV.int .i64 (IE.var .i64 3))] 23), (9, .cells [(SV.int .i64 (IE.var .i64 1004))] 3), (10, .cells [(SV.int .i64 (IE.var .i64 1002))] 2)], next := 19, pc := .lit true :: ([] ++ [(BE.le (IE.lit 1) (IE.len (LE.rom 0))), (BE.le (IE.len (LE.rom 0)) (IE.lit 100)), (BE.le (IE.lit 1) (IE.var .i64 1)), (BE.le (IE.var .i64 1) (IE.lit 64)), (BE.fn 1 (AL.int .i64 (IE.var .i64 2) (AL.int .i64 (IE.var .i64 3) AL.nil))), (BE.eq (IE.len (LE.rom 0)) (IE.var .i64 1)), (BE.fn 3 (AL.lst (LE.rom 0) (AL.int .i64 (IE.var .i64 1) (AL.int .i64 (IE.var .i64 2) (AL.int .i64 (IE.var .i64 3) AL.nil))))), (BE.le (IE.lit 0) (IE.var .i64 6)), (BE.not (BE.le (IE.var .i64 1) (IE.var .i64 6))), (BE.fn 2 (AL.int .i64 (IE.var .i64 7) AL.nil)), (BE.le (IE.lit 0) (IE.var .i64 1003)), (BE.not (BE.le (IE.len (LE.rom 0)) (IE.var .i64 1003))), (BE.le (IE.var .i64 1004) (IE.len (LE.rom 0)))]) }
def tmrises : List (Nat × Cfg) := [(0, startF 7 cRises.pat (.lit true :: cRises.pre)), (1, trises1)]
def selrises : Sel := [(86, 1, 2, 1)]
def wrises0_0 : VW := (VW.done [(BE.le (IE.var .i64 1) (IE.var .i64 6)), (BE.le (IE.lit 0) (IE.var .i64 6)), (BE.fn 3 (AL.lst (LE.rom 0) (AL.int .i64 (IE.var .i64 1) (AL.int .i64 (IE.var .i64 2) (AL.int .i64 (IE.var .i64 3) AL.nil))))), (BE.eq (IE.len (LE.rom 0)) (IE.var .i64 1)), (BE.fn 1 (AL.int .i64 (IE.var .i64 2) (AL.int .i64 (IE.var .i64 3) AL.nil))), (BE.le (IE.var .i64 1) (IE.lit 64)), (BE.le (IE.lit 1) (IE.var .i64 1)), (BE.le (IE.len (LE.rom 0)) (IE.lit 100)), (BE.lit true), (BE.le (IE.lit 1) (IE.len (LE.rom 0)))] (some []))
def wrises0_1 : VW := (VW.cut 1 [(BE.fn 2 (AL.int .i64 (IE.var .i64 7) AL.nil)), (BE.not (BE.le (IE.var .i64 1) (IE.var .i64 6))), (BE.le (IE.lit 0) (IE.var .i64 6)), (BE.fn 3 (AL.lst (LE.rom 0) (AL.int .i64 (IE.var .i64 1) (AL.int .i64 (IE.var .i64 2) (AL.int .i64 (IE.var .i64 3) AL.nil))))), (BE.eq (IE.len (LE.rom 0)) (IE.var .i64 1)), (BE.fn 1 (AL.int .i64 (IE.var .i64 2) (AL.int .i64 (IE.var .i64 3) AL.nil))), (BE.le (IE.var .i64 1) (IE.lit 64)), (BE.le (IE.lit 1) (IE.var .i64 1)), (BE.le (IE.len (LE.rom 0)) (IE.lit 100)), (BE.lit true), (BE.le (IE.lit 1) (IE.len (LE.rom 0)))] (Sx.Sub.mk [(.i64, (1004, (IE.lit 0))), (.i64, (1003, (IE.var .i64 6))), (.i64, (1002, (IE.var .i64 7))), (.i64, (1001, (IE.var .i64 5))), (.i64, (1000, (IE.var .i64 4)))] [] [] [] [] []))
def wrises0_2 : VW := (VW.done [(BE.not (BE.fn 2 (AL.int .i64 (IE.var .i64 7) AL.nil))), (BE.not (BE.le (IE.var .i64 1) (IE.var .i64 6))), (BE.le (IE.lit 0) (IE.var .i64 6)), (BE.fn 3 (AL.lst (LE.rom 0) (AL.int .i64 (IE.var .i64 1) (AL.int .i64 (IE.var .i64 2) (AL.int .i64 (IE.var .i64 3) AL.nil))))), (BE.eq (IE.len (LE.rom 0)) (IE.var .i64 1)), (BE.fn 1 (AL.int .i64 (IE.var .i64 2) (AL.int .i64 (IE.var .i64 3) AL.nil))), (BE.le (IE.var .i64 1) (IE.lit 64)), (BE.le (IE.lit 1) (IE.var .i64 1)), (BE.le (IE.len (LE.rom 0)) (IE.lit 100)), (BE.lit true), (BE.le (IE.lit 1) (IE.len (LE.rom 0)))] (some []))
def wrises0_3 : VW := (VW.done [(BE.not (BE.le (IE.lit 0) (IE.var .i64 6))), (BE.fn 3 (AL.lst (LE.rom 0) (AL.int .i64 (IE.var .i64 1) (AL.int .i64 (IE.var .i64 2) (AL.int .i64 (IE.var .i64 3) AL.nil))))), (BE.eq (IE.len (LE.rom 0)) (IE.var .i64 1)), (BE.fn 1 (AL.int .i64 (IE.var .i64 2) (AL.int .i64 (IE.var .i64 3) AL.nil))), (BE.le (IE.var .i64 1) (IE.lit 64)), (BE.le (IE.lit 1) (IE.var .i64 1)), (BE.le (IE.len (LE.rom 0)) (IE.lit 100)), (BE.lit true), (BE.le (IE.lit 1) (IE.len (LE.rom 0)))] (some []))
def wrises0_4 : VW := (VW.done [(BE.not (BE.fn 3 (AL.lst (LE.rom 0) (AL.int .i64 (IE.var .i64 1) (AL.int .i64 (IE.var .i64 2) (AL.int .i64 (IE.var .i64 3) AL.nil)))))), (BE.eq (IE.len (LE.rom 0)) (IE.var .i64 1)), (BE.fn 1 (AL.int .i64 (IE.var .i64 2) (AL.int .i64 (IE.var .i64 3) AL.nil))), (BE.le (IE.var .i64 1) (IE.lit 64)), (BE.le (IE.lit 1) (IE.var .i64 1)), (BE.le (IE.len (LE.rom 0)) (IE.lit 100)), (BE.lit true), (BE.le (IE.lit 1) (IE.len (LE.rom 0)))] (some []))
def wrises0_5 : VW := (VW.done [(BE.not (BE.eq (IE.len (LE.rom 0)) (IE.var .i64 1))), (BE.fn 1 (AL.int .i64 (IE.var .i64 2) (AL.int .i64 (IE.var .i64 3) AL.nil))), (BE.le (IE.var .i64 1) (IE.lit 64)), (BE.le (IE.lit 1) (IE.var .i64 1)), (BE.le (IE.len (LE.rom 0)) (IE.lit 100)), (BE.lit true), (BE.le (IE.lit 1) (IE.len (LE.rom 0)))] (some []))
def wrises0_6 : VW := (VW.done [(BE.not (BE.fn 1 (AL.int .i64 (IE.var .i64 2) (AL.int .i64 (IE.var .i64 3) AL.nil)))), (BE.le (IE.var .i64 1) (IE.lit 64)), (BE.le (IE.lit 1) (IE.var .i64 1)), (BE.le (IE.len (LE.rom 0)) (IE.lit 100)), (BE.lit true), (BE.le (IE.lit 1) (IE.len (LE.rom 0)))] (some []))
def wrises0_7 : VW := (VW.done [(BE.not (BE.le (IE.var .i64 1) (IE.lit 64))), (BE.le (IE.lit 1) (IE.var .i64 1)), (BE.le (IE.len (LE.rom 0)) (IE.lit 100)), (BE.lit true), (BE.le (IE.lit 1) (IE.len (LE.rom 0)))] (some []))
def wrises0_8 : VW := (VW.done [(BE.not (BE.le (IE.lit 1) (IE.var .i64 1))), (BE.le (IE.len (LE.rom 0)) (IE.lit 100)), (BE.lit true), (BE.le (IE.lit 1) (IE.len (LE.rom 0)))] (some []))
def wrises0_9 : VW := (VW.done [(BE.not (BE.le (IE.len (LE.rom 0)) (IE.lit 100))), (BE.lit true), (BE.le (IE.lit 1) (IE.len (LE.rom 0)))] (some []))
def vwrises0 : List VW := [wrises0_0, wrises0_1, wrises0_2, wrises0_3, wrises0_4, wrises0_5, wrises0_6, wrises0_7, wrises0_8, wrises0_9]
def wrises1_0 : VW := (VW.done [(BE.eq (IE.cel .i64 (LE.rom 0) (IE.var .i64 1003) 0) (IE.var .i64 1003)), (BE.lit true), (BE.le (IE.lit 1) (IE.len (LE.rom 0))), (BE.le (IE.len (LE.rom 0)) (IE.lit 100)), (BE.le (IE.lit 1) (IE.var .i64 1)), (BE.le (IE.var .i64 1) (IE.lit 64)), (BE.fn 1 (AL.int .i64 (IE.var .i64 2) (AL.int .i64 (IE.var .i64 3) AL.nil))), (BE.eq (IE.len (LE.rom 0)) (IE.var .i64 1)), (BE.fn 3 (AL.lst (LE.rom 0) (AL.int .i64 (IE.var .i64 1) (AL.int .i64 (IE.var .i64 2) (AL.int .i64 (IE.var .i64 3) AL.nil))))), (BE.le (IE.lit 0) (IE.var .i64 6)), (BE.not (BE.le (IE.var .i64 1) (IE.var .i64 6))), (BE.fn 2 (AL.int .i64 (IE.var .i64 7) AL.nil)), (BE.le (IE.lit 0) (IE.var .i64 1003)), (BE.not (BE.le (IE.len (LE.rom 0)) (IE.var .i64 1003))), (BE.le (IE.var .i64 1004) (IE.len (LE.rom 0)))] (some []))
def wrises1_1 : VW := (VW.done [(BE.eq (IE.cel .i64 (LE.rom 0) (IE.var .i64 1003) 0) (IE.var .i64 6)), (BE.not (BE.eq (IE.cel .i64 (LE.rom 0) (IE.var .i64 1003) 0) (IE.var .i64 1003))), (BE.lit true), (BE.le (IE.lit 1) (IE.len (LE.rom 0))), (BE.le (IE.len (LE.rom 0)) (IE.lit 100)), (BE.le (IE.lit 1) (IE.var .i64 1)), (BE.le (IE.var .i64 1) (IE.lit 64)), (BE.fn 1 (AL.int .i64 (IE.var .i64 2) (AL.int .i64 (IE.var .i64 3) AL.nil))), (BE.eq (IE.len (LE.rom 0)) (IE.var .i64 1)), (BE.fn 3 (AL.lst (LE.rom 0) (AL.int .i64 (IE.var .i64 1) (AL.int .i64 (IE.var .i64 2) (AL.int .i64 (IE.var .i64 3) AL.nil))))), (BE.le (IE.lit 0) (IE.var .i64 6)), (BE.not (BE.le (IE.var .i64 1) (IE.var .i64 6))), (BE.fn 2 (AL.int .i64 (IE.var .i64 7) AL.nil)), (BE.le (IE.lit 0) (IE.var .i64 1003)), (BE.not (BE.le (IE.len (LE.rom 0)) (IE.var .i64 1003))), (BE.le (IE.var .i64 1004) (IE.len (LE.rom 0)))] (some []))
def wrises1_2 : VW := (VW.done [(BE.le (IE.cel .i64 (LE.rom 0) (IE.var .i64 1003) 1) (IE.var .i64 1002)), (BE.not (BE.eq (IE.cel .i64 (LE.rom 0) (IE.var .i64 1003) 0) (IE.var .i64 6))), (BE.not (BE.eq (IE.cel .i64 (LE.rom 0) (IE.var .i64 1003) 0) (IE.var .i64 1003))), (BE.lit true), (BE.le (IE.lit 1) (IE.len (LE.rom 0))), (BE.le (IE.len (LE.rom 0)) (IE.lit 100)), (BE.le (IE.lit 1) (IE.var .i64 1)), (BE.le (IE.var .i64 1) (IE.lit 64)), (BE.fn 1 (AL.int .i64 (IE.var .i64 2) (AL.int .i64 (IE.var .i64 3) AL.nil))), (BE.eq (IE.len (LE.rom 0)) (IE.var .i64 1)), (BE.fn 3 (AL.lst (LE.rom 0) (AL.int .i64 (IE.var .i64 1) (AL.int .i64 (IE.var .i64 2) (AL.int .i64 (IE.var .i64 3) AL.nil))))), (BE.le (IE.lit 0) (IE.var .i64 6)), (BE.not (BE.le (IE.var .i64 1) (IE.var .i64 6))), (BE.fn 2 (AL.int .i64 (IE.var .i64 7) AL.nil)), (BE.le (IE.lit 0) (IE.var .i64 1003)), (BE.not (BE.le (IE.len (LE.rom 0)) (IE.var .i64 1003))), (BE.le (IE.var .i64 1004) (IE.len (LE.rom 0)))] (some []))
def wrises1_3 : VW := (VW.done [(BE.le (IE.var .i64 1) (IE.cel .i64 (LE.rom 0) (IE.var .i64 1003) 0)), (BE.le (IE.lit 0) (IE.cel .i64 (LE.rom 0) (IE.var .i64 1003) 0)), (BE.le (IE.add (IE.var .i64 1004) (IE.lit 1)) (IE.var .i64 1)), (BE.not (BE.le (IE.cel .i64 (LE.rom 0) (IE.var .i64 1003) 1) (IE.var .i64 1002))), (BE.not (BE.eq (IE.cel .i64 (LE.rom 0) (IE.var .i64 1003) 0) (IE.var .i64 6))), (BE.not (BE.eq (IE.cel .i64 (LE.rom 0) (IE.var .i64 1003) 0) (IE.var .i64 1003))), (BE.lit true), (BE.le (IE.lit 1) (IE.len (LE.rom 0))), (BE.le (IE.len (LE.rom 0)) (IE.lit 100)), (BE.le (IE.lit 1) (IE.var .i64 1)), (BE.le (IE.var .i64 1) (IE.lit 64)), (BE.fn 1 (AL.int .i64 (IE.var .i64 2) (AL.int .i64 (IE.var .i64 3) AL.nil))), (BE.eq (IE.len (LE.rom 0)) (IE.var .i64 1)), (BE.fn 3 (AL.lst (LE.rom 0) (AL.int .i64 (IE.var .i64 1) (AL.int .i64 (IE.var .i64 2) (AL.int .i64 (IE.var .i64 3) AL.nil))))), (BE.le (IE.lit 0) (IE.var .i64 6)), (BE.not (BE.le (IE.var .i64 1) (IE.var .i64 6))), (BE.fn 2 (AL.int .i64 (IE.var .i64 7) AL.nil)), (BE.le (IE.lit 0) (IE.var .i64 1003)), (BE.not (BE.le (IE.len (LE.rom 0)) (IE.var .i64 1003))), (BE.le (IE.var .i64 1004) (IE.len (LE.rom 0)))] (some [(G.b (BE.lit true) (BE.lit false))]))
def wrises1_4 : VW := (VW.cut 1 [(BE.not (BE.le (IE.var .i64 1) (IE.cel .i64 (LE.rom 0) (IE.var .i64 1003) 0))), (BE.le (IE.lit 0) (IE.cel .i64 (LE.rom 0) (IE.var .i64 1003) 0)), (BE.le (IE.add (IE.var .i64 1004) (IE.lit 1)) (IE.var .i64 1)), (BE.not (BE.le (IE.cel .i64 (LE.rom 0) (IE.var .i64 1003) 1) (IE.var .i64 1002))), (BE.not (BE.eq (IE.cel .i64 (LE.rom 0) (IE.var .i64 1003) 0) (IE.var .i64 6))), (BE.not (BE.eq (IE.cel .i64 (LE.rom 0) (IE.var .i64 1003) 0) (IE.var .i64 1003))), (BE.lit true), (BE.le (IE.lit 1) (IE.len (LE.rom 0))), (BE.le (IE.len (LE.rom 0)) (IE.lit 100)), (BE.le (IE.lit 1) (IE.var .i64 1)), (BE.le (IE.var .i64 1) (IE.lit 64)), (BE.fn 1 (AL.int .i64 (IE.var .i64 2) (AL.int .i64 (IE.var .i64 3) AL.nil))), (BE.eq (IE.len (LE.rom 0)) (IE.var .i64 1)), (BE.fn 3 (AL.lst (LE.rom 0) (AL.int .i64 (IE.var .i64 1) (AL.int .i64 (IE.var .i64 2) (AL.int .i64 (IE.var .i64 3) AL.nil))))), (BE.le (IE.lit 0) (IE.var .i64 6)), (BE.not (BE.le (IE.var .i64 1) (IE.var .i64 6))), (BE.fn 2 (AL.int .i64 (IE.var .i64 7) AL.nil)), (BE.le (IE.lit 0) (IE.var .i64 1003)), (BE.not (BE.le (IE.len (LE.rom 0)) (IE.var .i64 1003))), (BE.le (IE.var .i64 1004) (IE.len (LE.rom 0)))] (Sx.Sub.mk [(.i64, (1004, (IE.add (IE.var .i64 1004) (IE.lit 1)))), (.i64, (1003, (IE.cel .i64 (LE.rom 0) (IE.var .i64 1003) 0))), (.i64, (1002, (IE.cel .i64 (LE.rom 0) (IE.var .i64 1003) 1))), (.i64, (1001, (IE.cel .i64 (LE.rom 0) (IE.var .i64 1003) 1))), (.i64, (1000, (IE.cel .i64 (LE.rom 0) (IE.var .i64 1003) 0)))] [] [] [] [] []))
def wrises1_5 : VW := (VW.done [(BE.not (BE.le (IE.lit 0) (IE.cel .i64 (LE.rom 0) (IE.var .i64 1003) 0))), (BE.le (IE.add (IE.var .i64 1004) (IE.lit 1)) (IE.var .i64 1)), (BE.not (BE.le (IE.cel .i64 (LE.rom 0) (IE.var .i64 1003) 1) (IE.var .i64 1002))), (BE.not (BE.eq (IE.cel .i64 (LE.rom 0) (IE.var .i64 1003) 0) (IE.var .i64 6))), (BE.not (BE.eq (IE.cel .i64 (LE.rom 0) (IE.var .i64 1003) 0) (IE.var .i64 1003))), (BE.lit true), (BE.le (IE.lit 1) (IE.len (LE.rom 0))), (BE.le (IE.len (LE.rom 0)) (IE.lit 100)), (BE.le (IE.lit 1) (IE.var .i64 1)), (BE.le (IE.var .i64 1) (IE.lit 64)), (BE.fn 1 (AL.int .i64 (IE.var .i64 2) (AL.int .i64 (IE.var .i64 3) AL.nil))), (BE.eq (IE.len (LE.rom 0)) (IE.var .i64 1)), (BE.fn 3 (AL.lst (LE.rom 0) (AL.int .i64 (IE.var .i64 1) (AL.int .i64 (IE.var .i64 2) (AL.int .i64 (IE.var .i64 3) AL.nil))))), (BE.le (IE.lit 0) (IE.var .i64 6)), (BE.not (BE.le (IE.var .i64 1) (IE.var .i64 6))), (BE.fn 2 (AL.int .i64 (IE.var .i64 7) AL.nil)), (BE.le (IE.lit 0) (IE.var .i64 1003)), (BE.not (BE.le (IE.len (LE.rom 0)) (IE.var .i64 1003))), (BE.le (IE.var .i64 1004) (IE.len (LE.rom 0)))] (some [(G.b (BE.lit true) (BE.lit false))]))
def wrises1_6 : VW := (VW.done [(BE.not (BE.le (IE.add (IE.var .i64 1004) (IE.lit 1)) (IE.var .i64 1))), (BE.not (BE.le (IE.cel .i64 (LE.rom 0) (IE.var .i64 1003) 1) (IE.var .i64 1002))), (BE.not (BE.eq (IE.cel .i64 (LE.rom 0) (IE.var .i64 1003) 0) (IE.var .i64 6))), (BE.not (BE.eq (IE.cel .i64 (LE.rom 0) (IE.var .i64 1003) 0) (IE.var .i64 1003))), (BE.lit true), (BE.le (IE.lit 1) (IE.len (LE.rom 0))), (BE.le (IE.len (LE.rom 0)) (IE.lit 100)), (BE.le (IE.lit 1) (IE.var .i64 1)), (BE.le (IE.var .i64 1) (IE.lit 64)), (BE.fn 1 (AL.int .i64 (IE.var .i64 2) (AL.int .i64 (IE.var .i64 3) AL.nil))), (BE.eq (IE.len (LE.rom 0)) (IE.var .i64 1)), (BE.fn 3 (AL.lst (LE.rom 0) (AL.int .i64 (IE.var .i64 1) (AL.int .i64 (IE.var .i64 2) (AL.int .i64 (IE.var .i64 3) AL.nil))))), (BE.le (IE.lit 0) (IE.var .i64 6)), (BE.not (BE.le (IE.var .i64 1) (IE.var .i64 6))), (BE.fn 2 (AL.int .i64 (IE.var .i64 7) AL.nil)), (BE.le (IE.lit 0) (IE.var .i64 1003)), (BE.not (BE.le (IE.len (LE.rom 0)) (IE.var .i64 1003))), (BE.le (IE.var .i64 1004) (IE.len (LE.rom 0)))] (some [(G.b (BE.lit true) (BE.lit false))]))
def vwrises1 : List VW := [wrises1_0, wrises1_1, wrises1_2, wrises1_3, wrises1_4, wrises1_5, wrises1_6]
def vwrises : Nat → List VW
  | 0 => vwrises0
  | 1 => vwrises1
  | _ => []
end
def invrises : Nat → Lt → Prop
  | 1, l => (l.i .i64 1004) ≤ ((lowC (l.z.rl 0) (l.i .i64 1002) (l.z.rl 0).length : Nat) : Int)
  | _, _ => True
def msrises : Nat → Lt → Nat
  | 0, l => (l.z.rl 0).length + 1
  | 1, l => (l.z.rl 0).length - lowC (l.z.rl 0) (l.i .i64 1002) (l.z.rl 0).length
  | _, _ => 0
theorem vcrises0_0 : VC (T own.Φ cRises.roms [cWorks, cRight, cRRight, cSi, cHop, cRHop, cSeeks]) invrises msrises 0 (startF 7 cRises.pat (.lit true :: cRises.pre)) wrises0_0 := by
  intro ρ kn hi hp
  exact all_nil
theorem vcrises0_1 : VC (T own.Φ cRises.roms [cWorks, cRight, cRRight, cSi, cHop, cRHop, cSeeks]) invrises msrises 0 (startF 7 cRises.pat (.lit true :: cRises.pre)) wrises0_1 := by
  intro ρ kn hi hp
  have hF : ρ.z.F = own.Φ := kn.F
  simp only [h_nil, h_cons, d_le, d_eq, d_not, d_var, d_lit, d_cel, d_leq, d_fn, d_and, d_iff, IE.den, LE.den, AL.den, lenV, true_and, and_true, hF, pb1, pb2, pb3, pi1, pi2, pl2] at hp
  obtain ⟨p1, p2, p3, p4, p5, p6, p7, p8, p9, p10⟩ := hp
  refine (show ((0 : Int) ≤ ((lowC (ρ.z.rl 0) (ρ.i .i64 7) (ρ.z.rl 0).length : Nat) : Int)) ∧ (((ρ.z.rl 0).length - lowC (ρ.z.rl 0) (ρ.i .i64 7) (ρ.z.rl 0).length : Nat) < (ρ.z.rl 0).length + 1) from ?_)
  exact ⟨by omega, by omega⟩
theorem vcrises0_2 : VC (T own.Φ cRises.roms [cWorks, cRight, cRRight, cSi, cHop, cRHop, cSeeks]) invrises msrises 0 (startF 7 cRises.pat (.lit true :: cRises.pre)) wrises0_2 := by
  intro ρ kn hi hp
  exact all_nil
theorem vcrises0_3 : VC (T own.Φ cRises.roms [cWorks, cRight, cRRight, cSi, cHop, cRHop, cSeeks]) invrises msrises 0 (startF 7 cRises.pat (.lit true :: cRises.pre)) wrises0_3 := by
  intro ρ kn hi hp
  exact all_nil
theorem vcrises0_4 : VC (T own.Φ cRises.roms [cWorks, cRight, cRRight, cSi, cHop, cRHop, cSeeks]) invrises msrises 0 (startF 7 cRises.pat (.lit true :: cRises.pre)) wrises0_4 := by
  intro ρ kn hi hp
  exact all_nil
theorem vcrises0_5 : VC (T own.Φ cRises.roms [cWorks, cRight, cRRight, cSi, cHop, cRHop, cSeeks]) invrises msrises 0 (startF 7 cRises.pat (.lit true :: cRises.pre)) wrises0_5 := by
  intro ρ kn hi hp
  exact all_nil
theorem vcrises0_6 : VC (T own.Φ cRises.roms [cWorks, cRight, cRRight, cSi, cHop, cRHop, cSeeks]) invrises msrises 0 (startF 7 cRises.pat (.lit true :: cRises.pre)) wrises0_6 := by
  intro ρ kn hi hp
  exact all_nil
theorem vcrises0_7 : VC (T own.Φ cRises.roms [cWorks, cRight, cRRight, cSi, cHop, cRHop, cSeeks]) invrises msrises 0 (startF 7 cRises.pat (.lit true :: cRises.pre)) wrises0_7 := by
  intro ρ kn hi hp
  exact all_nil
theorem vcrises0_8 : VC (T own.Φ cRises.roms [cWorks, cRight, cRRight, cSi, cHop, cRHop, cSeeks]) invrises msrises 0 (startF 7 cRises.pat (.lit true :: cRises.pre)) wrises0_8 := by
  intro ρ kn hi hp
  exact all_nil
theorem vcrises0_9 : VC (T own.Φ cRises.roms [cWorks, cRight, cRRight, cSi, cHop, cRHop, cSeeks]) invrises msrises 0 (startF 7 cRises.pat (.lit true :: cRises.pre)) wrises0_9 := by
  intro ρ kn hi hp
  exact all_nil
theorem vcrises1_0 : VC (T own.Φ cRises.roms [cWorks, cRight, cRRight, cSi, cHop, cRHop, cSeeks]) invrises msrises 1 trises1 wrises1_0 := by
  intro ρ kn hi hp
  exact all_nil
theorem vcrises1_1 : VC (T own.Φ cRises.roms [cWorks, cRight, cRRight, cSi, cHop, cRHop, cSeeks]) invrises msrises 1 trises1 wrises1_1 := by
  intro ρ kn hi hp
  exact all_nil
theorem vcrises1_2 : VC (T own.Φ cRises.roms [cWorks, cRight, cRRight, cSi, cHop, cRHop, cSeeks]) invrises msrises 1 trises1 wrises1_2 := by
  intro ρ kn hi hp
  exact all_nil
theorem vcrises1_3 : VC (T own.Φ cRises.roms [cWorks, cRight, cRRight, cSi, cHop, cRHop, cSeeks]) invrises msrises 1 trises1 wrises1_3 := by
  intro ρ kn hi hp
  have hi : (ρ.i .i64 1004) ≤ ((lowC (ρ.z.rl 0) (ρ.i .i64 1002) (ρ.z.rl 0).length : Nat) : Int) := hi
  have hr6 : Typed [(CK.int .i64), (CK.int .i64)] (ρ.z.rl 0) ∧ (((ρ.z.rl 0).length : Nat) : Int) = (((ρ.z.rl 0)).length : Int) := kn.rows 6 _ _ _ _ _ _ rfl
  have hF : ρ.z.F = own.Φ := kn.F
  simp only [h_nil, h_cons, d_le, d_eq, d_not, d_var, d_lit, d_cel, d_leq, d_fn, d_and, d_iff, IE.den, LE.den, AL.den, lenV, true_and, and_true, hF, pb1, pb2, pb3, pi1, pi2, pl2] at hp
  obtain ⟨p1, p2, p3, p4, p5, p6, p7, p8, p9, p10, p11, p12, p13, p14, p15, p16, p17, p18, p19⟩ := hp
  exfalso
  have gg := guess_at (i := ρ.i .i64 1003) (by assumption) (by omega) (by omega)
  omega
theorem vcrises1_4 : VC (T own.Φ cRises.roms [cWorks, cRight, cRRight, cSi, cHop, cRHop, cSeeks]) invrises msrises 1 trises1 wrises1_4 := by
  intro ρ kn hi hp
  have hi : (ρ.i .i64 1004) ≤ ((lowC (ρ.z.rl 0) (ρ.i .i64 1002) (ρ.z.rl 0).length : Nat) : Int) := hi
  have hr6 : Typed [(CK.int .i64), (CK.int .i64)] (ρ.z.rl 0) ∧ (((ρ.z.rl 0).length : Nat) : Int) = (((ρ.z.rl 0)).length : Int) := kn.rows 6 _ _ _ _ _ _ rfl
  have hF : ρ.z.F = own.Φ := kn.F
  simp only [h_nil, h_cons, d_le, d_eq, d_not, d_var, d_lit, d_cel, d_leq, d_fn, d_and, d_iff, IE.den, LE.den, AL.den, lenV, true_and, and_true, hF, pb1, pb2, pb3, pi1, pi2, pl2] at hp
  obtain ⟨p1, p2, p3, p4, p5, p6, p7, p8, p9, p10, p11, p12, p13, p14, p15, p16, p17, p18, p19⟩ := hp
  refine (show (((ρ.i .i64 1004) + (1 : Int)) ≤ ((lowC (ρ.z.rl 0) (clampK .i64 (intV (celV (ρ.z.rl 0) (ρ.i .i64 1003) 1))) (ρ.z.rl 0).length : Nat) : Int)) ∧ (((ρ.z.rl 0).length - lowC (ρ.z.rl 0) (clampK .i64 (intV (celV (ρ.z.rl 0) (ρ.i .i64 1003) 1))) (ρ.z.rl 0).length : Nat) < (ρ.z.rl 0).length - lowC (ρ.z.rl 0) (ρ.i .i64 1002) (ρ.z.rl 0).length) from ?_)
  have gg := guess_at (i := ρ.i .i64 1003) (by assumption) (by omega) (by omega)
  have l1 : lowC (ρ.z.rl 0) (ρ.i .i64 1002) (ρ.z.rl 0).length < lowC (ρ.z.rl 0) (clampK .i64 (intV (celV (ρ.z.rl 0) (ρ.i .i64 1003) 1))) (ρ.z.rl 0).length := low_lt (by omega) (by omega) (by assumption)
  have l2 := low_le (ρ.z.rl 0) (clampK .i64 (intV (celV (ρ.z.rl 0) (ρ.i .i64 1003) 1))) (ρ.z.rl 0).length
  exact ⟨by omega, by omega⟩
theorem vcrises1_5 : VC (T own.Φ cRises.roms [cWorks, cRight, cRRight, cSi, cHop, cRHop, cSeeks]) invrises msrises 1 trises1 wrises1_5 := by
  intro ρ kn hi hp
  have hi : (ρ.i .i64 1004) ≤ ((lowC (ρ.z.rl 0) (ρ.i .i64 1002) (ρ.z.rl 0).length : Nat) : Int) := hi
  have hr6 : Typed [(CK.int .i64), (CK.int .i64)] (ρ.z.rl 0) ∧ (((ρ.z.rl 0).length : Nat) : Int) = (((ρ.z.rl 0)).length : Int) := kn.rows 6 _ _ _ _ _ _ rfl
  have hF : ρ.z.F = own.Φ := kn.F
  simp only [h_nil, h_cons, d_le, d_eq, d_not, d_var, d_lit, d_cel, d_leq, d_fn, d_and, d_iff, IE.den, LE.den, AL.den, lenV, true_and, and_true, hF, pb1, pb2, pb3, pi1, pi2, pl2] at hp
  obtain ⟨p1, p2, p3, p4, p5, p6, p7, p8, p9, p10, p11, p12, p13, p14, p15, p16, p17, p18⟩ := hp
  exfalso
  have gg := guess_at (i := ρ.i .i64 1003) (by assumption) (by omega) (by omega)
  omega
theorem vcrises1_6 : VC (T own.Φ cRises.roms [cWorks, cRight, cRRight, cSi, cHop, cRHop, cSeeks]) invrises msrises 1 trises1 wrises1_6 := by
  intro ρ kn hi hp
  have hi : (ρ.i .i64 1004) ≤ ((lowC (ρ.z.rl 0) (ρ.i .i64 1002) (ρ.z.rl 0).length : Nat) : Int) := hi
  have hr6 : Typed [(CK.int .i64), (CK.int .i64)] (ρ.z.rl 0) ∧ (((ρ.z.rl 0).length : Nat) : Int) = (((ρ.z.rl 0)).length : Int) := kn.rows 6 _ _ _ _ _ _ rfl
  have hF : ρ.z.F = own.Φ := kn.F
  simp only [h_nil, h_cons, d_le, d_eq, d_not, d_var, d_lit, d_cel, d_leq, d_fn, d_and, d_iff, IE.den, LE.den, AL.den, lenV, true_and, and_true, hF, pb1, pb2, pb3, pi1, pi2, pl2] at hp
  obtain ⟨p1, p2, p3, p4, p5, p6, p7, p8, p9, p10, p11, p12, p13, p14, p15, p16, p17⟩ := hp
  exfalso
  have gg := guess_at (i := ρ.i .i64 1003) (by assumption) (by omega) (by omega)
  have l1 : lowC (ρ.z.rl 0) (ρ.i .i64 1002) (ρ.z.rl 0).length < lowC (ρ.z.rl 0) (clampK .i64 (intV (celV (ρ.z.rl 0) (ρ.i .i64 1003) 1))) (ρ.z.rl 0).length := low_lt (by omega) (by omega) (by assumption)
  have l2 := low_le (ρ.z.rl 0) (clampK .i64 (intV (celV (ρ.z.rl 0) (ρ.i .i64 1003) 1))) (ρ.z.rl 0).length
  omega
theorem vcsrises0 : ∀ v ∈ vwrises 0, VC (T own.Φ cRises.roms [cWorks, cRight, cRRight, cSi, cHop, cRHop, cSeeks]) invrises msrises 0 (startF 7 cRises.pat (.lit true :: cRises.pre)) v := all_cons vcrises0_0 (all_cons vcrises0_1 (all_cons vcrises0_2 (all_cons vcrises0_3 (all_cons vcrises0_4 (all_cons vcrises0_5 (all_cons vcrises0_6 (all_cons vcrises0_7 (all_cons vcrises0_8 (all_cons vcrises0_9 (all_nil))))))))))
theorem okrises0 : cfgOk (startF 7 cRises.pat (.lit true :: cRises.pre)) = true := by kernel_rfl
theorem sgrises0 : segL cRises.roms cRises (seg (T own.Φ cRises.roms [cWorks, cRight, cRRight, cSi, cHop, cRHop, cSeeks]) selrises 3000 tmrises (startF 7 cRises.pat (.lit true :: cRises.pre))) = (true, codesR tmrises (views (seg (T own.Φ cRises.roms [cWorks, cRight, cRRight, cSi, cHop, cRHop, cSeeks]) selrises 3000 tmrises (startF 7 cRises.pat (.lit true :: cRises.pre)))), vwrises 0) := by kernel_rfl
theorem vcsrises1 : ∀ v ∈ vwrises 1, VC (T own.Φ cRises.roms [cWorks, cRight, cRRight, cSi, cHop, cRHop, cSeeks]) invrises msrises 1 trises1 v := all_cons vcrises1_0 (all_cons vcrises1_1 (all_cons vcrises1_2 (all_cons vcrises1_3 (all_cons vcrises1_4 (all_cons vcrises1_5 (all_cons vcrises1_6 (all_nil)))))))
theorem okrises1 : cfgOk trises1 = true := by kernel_rfl
theorem sgrises1 : segL cRises.roms cRises (seg (T own.Φ cRises.roms [cWorks, cRight, cRRight, cSi, cHop, cRHop, cSeeks]) selrises 3000 tmrises trises1) = (true, codesR tmrises (views (seg (T own.Φ cRises.roms [cWorks, cRight, cRRight, cSi, cHop, cRHop, cSeeks]) selrises 3000 tmrises trises1)), vwrises 1) := by kernel_rfl
theorem lnrises0 : ∀ ρ, Known (T own.Φ cRises.roms [cWorks, cRight, cRRight, cSi, cHop, cRHop, cSeeks]) (startF 7 cRises.pat (.lit true :: cRises.pre)) ρ → invrises 0 ρ.lt → Holds ρ (leanOf (Cfg.pc (startF 7 cRises.pat (.lit true :: cRises.pre)))) := by
  intro ρ _ _
  exact (show Holds ρ [] from fun p hp => by cases hp)
theorem lnrises1 : ∀ ρ, Known (T own.Φ cRises.roms [cWorks, cRight, cRRight, cSi, cHop, cRHop, cSeeks]) trises1 ρ → invrises 1 ρ.lt → Holds ρ (leanOf (Cfg.pc trises1)) := by
  intro ρ _ _
  exact (show Holds ρ [] from fun p hp => by cases hp)
theorem told_rises : Sx.Told own.Φ cRises := by
  refine told_of (cs := [cWorks, cRight, cRRight, cSi, cHop, cRHop, cSeeks]) (all_cons told_works (all_cons told_right (all_cons told_rright (all_cons told_si (all_cons told_hop (all_cons told_rhop (all_cons told_seeks (all_nil)))))))) (sel := selrises) 3000 tmrises invrises msrises vwrises 0 (pc0 := (.lit true :: cRises.pre)) (by kernel_rfl) (by kernel_rfl) (by kernel_rfl) (post_nil rfl) ?_ ?_ ?_ rfl (fun ρ _ h => h.cons (p := .lit true) (by simp only [BE.den])) (fun _ _ _ _ => trivial) ?_
  · intro k C h
    have := lk_mem h
    simp only [tmrises, List.mem_cons, Prod.mk.injEq, List.not_mem_nil, or_false] at this
    rcases this with ⟨rfl, rfl⟩ | ⟨rfl, rfl⟩
    · exact okrises0
    · exact okrises1
  · intro k C h
    have := lk_mem h
    simp only [tmrises, List.mem_cons, Prod.mk.injEq, List.not_mem_nil, or_false] at this
    rcases this with ⟨rfl, rfl⟩ | ⟨rfl, rfl⟩
    · exact sgrises0
    · exact sgrises1
  · intro k C h
    have := lk_mem h
    simp only [tmrises, List.mem_cons, Prod.mk.injEq, List.not_mem_nil, or_false] at this
    rcases this with ⟨rfl, rfl⟩ | ⟨rfl, rfl⟩
    · exact vcsrises0
    · exact vcsrises1
  · intro k C h
    have := lk_mem h
    simp only [tmrises, List.mem_cons, Prod.mk.injEq, List.not_mem_nil, or_false] at this
    rcases this with ⟨rfl, rfl⟩ | ⟨rfl, rfl⟩
    · exact lnrises0
    · exact lnrises1
end Go.Proofs.Ytepodgakaajcmaa.own
