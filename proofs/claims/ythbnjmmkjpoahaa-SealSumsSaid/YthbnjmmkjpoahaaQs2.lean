/- Layer seal: sums. No condition. -/
import Derived.Test.YthbnjmmkjpoahaaQq0
set_option linter.unusedVariables false
set_option linter.unusedSimpArgs false
set_option linter.deprecated false
namespace Go.Proofs.Ythbnjmmkjpoahaa.oct
open Go Go.Proofs.Ythbnjmmkjpoahaa.Sx
noncomputable section
abbrev TTsu : Tab := TM oct.Φ cSu.roms [cWorks, cRRead, cRSum, cOpenNo, cOpenZ, cOpenY, cSeal, cRSeal, cSealX, cRSealX, cSealNil, cOpenNil] [mFill2]
def tsu1 : Cfg := { top := ⟨35, over (opqS 10000 28) [(0, (SV.ptr 7 0)), (1, (SV.int .u32 (IE.var .u32 1000))), (9, (SV.sll 4 5 1 (IE.lit 0) (IE.len (LE.rom 0)) none)), (10, (SV.int .i64 (IE.len (LE.rom 0)))), (11, (SV.int .i64 (IE.var .i64 1001)))], ogt (loopTodo (bodyOf (T oct.Φ [] []) 35) 0), [], false, none⟩, rest := [⟨34, over (opqS 30000 21) [(2, (SV.func (Go.Fn.func 35) [(SV.ptr 7 0)] [])), (9, (SV.slice 6 0 2 2)), (10, (SV.int .i64 (IE.lit 2))), (11, (SV.int .i64 (IE.lit 0)))], ogt (callTodo (bodyOf (T oct.Φ [] []) 34) 4 [3, 4]), [], false, none⟩, ⟨24, over (opqS 50000 10) [], ogt (callTodo (bodyOf (T oct.Φ [] []) 24) 1 [3, 4, 5]), [], false, none⟩, ⟨12, over (opqS 70000 7) [], ogt (callTodo (bodyOf (T oct.Φ [] []) 12) 3 [1, 2]), [], false, none⟩, ⟨3, over (opqS 90000 58) [(0, (SV.rom 0 (IE.lit 0) (IE.len (LE.rom 0)) none)), (1, (SV.rom 1 (IE.lit 0) (IE.len (LE.rom 1)) none)), (5, (SV.sll 4 5 1 (IE.lit 0) (IE.len (LE.rom 0)) none))], ogt (callTodo (bodyOf (T oct.Φ [] []) 3) 4 [3, 4, 5, 6, 7, 8, 9, 10, 11, 12, 13, 14, 15, 16, 17, 18, 19, 20, 21, 22, 23, 24, 25, 26, 27, 28, 29, 30, 31, 32, 33, 34, 35, 36, 37, 38, 39, 40, 41]), [], false, none⟩], heap := [(7, .rowl (LE.fn 2 (AL.int .i64 (IE.lit 256) AL.nil)) (IE.lit 256) [(CK.int .u32)] 55 8 1), (4, .rowl (LE.cat (LE.rom 0) (LE.one (AL.int .u8 (IE.lit 77) AL.nil))) (IE.add (IE.len (LE.rom 0)) (IE.lit 1)) [(CK.int .u8)] 5 5 1), (6, .cells [(SV.sll 4 5 1 (IE.lit 0) (IE.len (LE.rom 0)) none), (SV.rom 1 (IE.lit 0) (IE.len (LE.rom 1)) none)] 22)], next := 9, pc := .lit true :: ([] ++ [(BE.le (IE.lit 1) (IE.len (LE.rom 1))), (BE.le (IE.lit 1) (IE.len (LE.rom 0))), (BE.le (IE.len (LE.rom 0)) (IE.lit 2000)), (BE.le (IE.len (LE.rom 1)) (IE.lit 2000)), (BE.le (IE.lit 0) (IE.var .i64 1001)), (BE.le (IE.var .i64 1001) (IE.len (LE.rom 0)))]) }
def tsu2 : Cfg := { top := ⟨35, over (opqS 10000 28) [(0, (SV.ptr 7 0)), (1, (SV.int .u32 (IE.var .u32 1000))), (9, (SV.rom 1 (IE.lit 0) (IE.len (LE.rom 1)) none)), (10, (SV.int .i64 (IE.len (LE.rom 1)))), (11, (SV.int .i64 (IE.var .i64 1001)))], ogt (loopTodo (bodyOf (T oct.Φ [] []) 35) 0), [], false, none⟩, rest := [⟨34, over (opqS 30000 21) [(2, (SV.func (Go.Fn.func 35) [(SV.ptr 7 0)] [])), (9, (SV.slice 6 0 2 2)), (10, (SV.int .i64 (IE.lit 2))), (11, (SV.int .i64 (IE.lit 1)))], ogt (callTodo (bodyOf (T oct.Φ [] []) 34) 4 [3, 4]), [], false, none⟩, ⟨24, over (opqS 50000 10) [], ogt (callTodo (bodyOf (T oct.Φ [] []) 24) 1 [3, 4, 5]), [], false, none⟩, ⟨12, over (opqS 70000 7) [], ogt (callTodo (bodyOf (T oct.Φ [] []) 12) 3 [1, 2]), [], false, none⟩, ⟨3, over (opqS 90000 58) [(0, (SV.rom 0 (IE.lit 0) (IE.len (LE.rom 0)) none)), (1, (SV.rom 1 (IE.lit 0) (IE.len (LE.rom 1)) none)), (5, (SV.sll 4 5 1 (IE.lit 0) (IE.len (LE.rom 0)) none))], ogt (callTodo (bodyOf (T oct.Φ [] []) 3) 4 [3, 4, 5, 6, 7, 8, 9, 10, 11, 12, 13, 14, 15, 16, 17, 18, 19, 20, 21, 22, 23, 24, 25, 26, 27, 28, 29, 30, 31, 32, 33, 34, 35, 36, 37, 38, 39, 40, 41]), [], false, none⟩], heap := [(7, .rowl (LE.fn 2 (AL.int .i64 (IE.lit 256) AL.nil)) (IE.lit 256) [(CK.int .u32)] 55 8 1), (6, .cells [(SV.sll 4 5 1 (IE.lit 0) (IE.len (LE.rom 0)) none), (SV.rom 1 (IE.lit 0) (IE.len (LE.rom 1)) none)] 22), (4, .rowl (LE.cat (LE.rom 0) (LE.one (AL.int .u8 (IE.lit 77) AL.nil))) (IE.add (IE.len (LE.rom 0)) (IE.lit 1)) [(CK.int .u8)] 5 5 1)], next := 9, pc := .lit true :: ([] ++ [(BE.le (IE.len (LE.rom 1)) (IE.lit 2000)), (BE.le (IE.len (LE.rom 0)) (IE.lit 2000)), (BE.le (IE.lit 1) (IE.len (LE.rom 0))), (BE.le (IE.lit 1) (IE.len (LE.rom 1))), (BE.le (IE.lit 0) (IE.var .i64 1001)), (BE.le (IE.var .i64 1001) (IE.len (LE.rom 1)))]) }
def tsu3 : Cfg := { top := ⟨35, over (opqS 10000 28) [(0, (SV.ptr 15 0)), (1, (SV.int .u32 (IE.var .u32 1002))), (9, (SV.rom 1 (IE.lit 0) (IE.len (LE.rom 1)) none)), (10, (SV.int .i64 (IE.len (LE.rom 1)))), (11, (SV.int .i64 (IE.var .i64 1003)))], ogt (loopTodo (bodyOf (T oct.Φ [] []) 35) 0), [], false, none⟩, rest := [⟨34, over (opqS 30000 21) [(2, (SV.func (Go.Fn.func 35) [(SV.ptr 15 0)] [])), (9, (SV.slice 14 0 1 1)), (10, (SV.int .i64 (IE.lit 1))), (11, (SV.int .i64 (IE.lit 0)))], ogt (callTodo (bodyOf (T oct.Φ [] []) 34) 4 [3, 4]), [], false, none⟩, ⟨24, over (opqS 50000 10) [], ogt (callTodo (bodyOf (T oct.Φ [] []) 24) 1 [3, 4, 5]), [], false, none⟩, ⟨12, over (opqS 70000 7) [], ogt (callTodo (bodyOf (T oct.Φ [] []) 12) 3 [1, 2]), [], false, none⟩, ⟨3, over (opqS 90000 58) [(0, (SV.rom 0 (IE.lit 0) (IE.len (LE.rom 0)) none)), (1, (SV.rom 1 (IE.lit 0) (IE.len (LE.rom 1)) none)), (5, (SV.sll 4 5 1 (IE.lit 0) (IE.len (LE.rom 0)) none)), (28, (SV.bool (BE.var 1001)))], ogt (callTodo (bodyOf (T oct.Φ [] []) 3) 4 [14, 15, 16, 17, 18, 19, 20, 21, 22, 23, 24, 25, 26, 27, 28, 29, 30, 31, 32, 33, 34, 35, 36, 37, 38, 39, 40, 41]), [], false, none⟩], heap := [(15, .rowl (LE.fn 2 (AL.int .i64 (IE.lit 256) AL.nil)) (IE.lit 256) [(CK.int .u32)] 55 16 1), (14, .cells [(SV.rom 1 (IE.lit 0) (IE.len (LE.rom 1)) none)] 22), (4, .rowl (LE.cat (LE.rom 0) (LE.one (AL.int .u8 (IE.lit 77) AL.nil))) (IE.add (IE.len (LE.rom 0)) (IE.lit 1)) [(CK.int .u8)] 5 5 1)], next := 17, pc := .lit true :: ([] ++ [(BE.le (IE.lit 1) (IE.len (LE.rom 1))), (BE.le (IE.lit 1) (IE.len (LE.rom 0))), (BE.le (IE.len (LE.rom 0)) (IE.lit 2000)), (BE.le (IE.len (LE.rom 1)) (IE.lit 2000)), (BE.le (IE.lit 0) (IE.var .i64 1003)), (BE.le (IE.var .i64 1003) (IE.len (LE.rom 1)))]) }
def tmsu : List (Nat × Cfg) := [(0, startF 3 cSu.pat (.lit true :: cSu.pre)), (1, tsu1), (2, tsu2), (3, tsu3)]
def selsu : Sel := [(35, 1, 34045004, 3), (35, 1, 1273004, 1), (35, 1, 1275004, 2)]
def pcsu0_0 : List BE := [(BE.lit true), (BE.le (IE.lit 1) (IE.len (LE.rom 0))), (BE.le (IE.lit 1) (IE.len (LE.rom 1)))]
def pcsu0_1 : List BE := ((BE.le (IE.len (LE.rom 0)) (IE.lit 2000)) :: pcsu0_0)
def wsu0_0 : VW := (VW.cut 1 ((BE.le (IE.len (LE.rom 1)) (IE.lit 2000)) :: pcsu0_1) (Sx.Sub.mk [(.i64, (1001, (IE.lit 0))), (.u32, (1000, (IE.lit 4294967295)))] [] [] [] [] []))
def wsu0_1 : VW := (VW.done ((BE.not (BE.le (IE.len (LE.rom 1)) (IE.lit 2000))) :: pcsu0_1) (some []))
def wsu0_2 : VW := (VW.done ((BE.not (BE.le (IE.len (LE.rom 0)) (IE.lit 2000))) :: pcsu0_0) (some []))
def vwsu0 : List VW := [wsu0_0, wsu0_1, wsu0_2]
def pcsu1_0 : List BE := [(BE.lit true), (BE.le (IE.lit 1) (IE.len (LE.rom 1))), (BE.le (IE.lit 1) (IE.len (LE.rom 0))), (BE.le (IE.len (LE.rom 0)) (IE.lit 2000)), (BE.le (IE.len (LE.rom 1)) (IE.lit 2000)), (BE.le (IE.lit 0) (IE.var .i64 1001)), (BE.le (IE.var .i64 1001) (IE.len (LE.rom 0)))]
def wsu1_0 : VW := (VW.cut 2 ((BE.le (IE.len (LE.rom 0)) (IE.var .i64 1001)) :: pcsu1_0) (Sx.Sub.mk [(.i64, (1001, (IE.lit 0))), (.u32, (1000, (IE.var .u32 1000)))] [] [] [] [] []))
def wsu1_1 : VW := (VW.cut 1 ((BE.not (BE.le (IE.len (LE.rom 0)) (IE.var .i64 1001))) :: pcsu1_0) (Sx.Sub.mk [(.i64, (1001, (IE.add (IE.var .i64 1001) (IE.lit 1)))), (.u32, (1000, (IE.bin BinOp.xor .u32 (IE.bin BinOp.shr .u32 (IE.var .u32 1000) (IE.lit 8)) (IE.cel .u32 (LE.fn 2 (AL.int .i64 (IE.lit 256) AL.nil)) (IE.bin BinOp.xor .u8 (IE.wrap .u8 (IE.var .u32 1000)) (IE.cel .u8 (LE.rom 0) (IE.var .i64 1001) 0)) 0))))] [] [] [] [] []))
def vwsu1 : List VW := [wsu1_0, wsu1_1]
def pcsu2_0 : List BE := [(BE.lit true), (BE.le (IE.len (LE.rom 1)) (IE.lit 2000)), (BE.le (IE.len (LE.rom 0)) (IE.lit 2000)), (BE.le (IE.lit 1) (IE.len (LE.rom 0))), (BE.le (IE.lit 1) (IE.len (LE.rom 1))), (BE.le (IE.lit 0) (IE.var .i64 1001)), (BE.le (IE.var .i64 1001) (IE.len (LE.rom 1)))]
def pcsu2_1 : List BE := ((BE.le (IE.len (LE.rom 1)) (IE.var .i64 1001)) :: pcsu2_0)
def wsu2_0 : VW := (VW.cut 3 ((BE.eq (IE.bin BinOp.xor .u32 (IE.lit 4294967295) (IE.var .u32 1000)) (IE.fn .u32 20 (AL.lst (LE.cat (LE.rom 0) (LE.rom 1)) AL.nil))) :: pcsu2_1) (Sx.Sub.mk [(.i64, (1003, (IE.lit 0))), (.u32, (1002, (IE.lit 4294967295)))] [(1001, (BE.eq (IE.bin BinOp.xor .u32 (IE.lit 4294967295) (IE.var .u32 1000)) (IE.fn .u32 20 (AL.lst (LE.cat (LE.rom 0) (LE.rom 1)) AL.nil))))] [] [] [] []))
def wsu2_1 : VW := (VW.done ((BE.not (BE.eq (IE.bin BinOp.xor .u32 (IE.lit 4294967295) (IE.var .u32 1000)) (IE.fn .u32 20 (AL.lst (LE.cat (LE.rom 0) (LE.rom 1)) AL.nil)))) :: pcsu2_1) (some [(G.b (BE.lit true) (BE.lit false))]))
def wsu2_2 : VW := (VW.cut 2 ((BE.not (BE.le (IE.len (LE.rom 1)) (IE.var .i64 1001))) :: pcsu2_0) (Sx.Sub.mk [(.i64, (1001, (IE.add (IE.var .i64 1001) (IE.lit 1)))), (.u32, (1000, (IE.bin BinOp.xor .u32 (IE.bin BinOp.shr .u32 (IE.var .u32 1000) (IE.lit 8)) (IE.cel .u32 (LE.fn 2 (AL.int .i64 (IE.lit 256) AL.nil)) (IE.bin BinOp.xor .u8 (IE.wrap .u8 (IE.var .u32 1000)) (IE.cel .u8 (LE.rom 1) (IE.var .i64 1001) 0)) 0))))] [] [] [] [] []))
def vwsu2 : List VW := [wsu2_0, wsu2_1, wsu2_2]
def pcsu3_0 : List BE := [(BE.lit true), (BE.le (IE.lit 1) (IE.len (LE.rom 1))), (BE.le (IE.lit 1) (IE.len (LE.rom 0))), (BE.le (IE.len (LE.rom 0)) (IE.lit 2000)), (BE.le (IE.len (LE.rom 1)) (IE.lit 2000)), (BE.le (IE.lit 0) (IE.var .i64 1003)), (BE.le (IE.var .i64 1003) (IE.len (LE.rom 1)))]
def pcsu3_1 : List BE := ((BE.le (IE.len (LE.rom 1)) (IE.var .i64 1003)) :: pcsu3_0)
def pcsu3_2 : List BE := ((BE.var 1001) :: pcsu3_1)
def wsu3_0 : VW := (VW.done ((BE.eq (IE.bin BinOp.xor .u32 (IE.lit 4294967295) (IE.var .u32 1002)) (IE.fn .u32 20 (AL.lst (LE.rom 1) AL.nil))) :: pcsu3_2) (some []))
def wsu3_1 : VW := (VW.done ((BE.not (BE.eq (IE.bin BinOp.xor .u32 (IE.lit 4294967295) (IE.var .u32 1002)) (IE.fn .u32 20 (AL.lst (LE.rom 1) AL.nil)))) :: pcsu3_2) (some [(G.b (BE.lit true) (BE.lit false))]))
def wsu3_2 : VW := (VW.done ((BE.not (BE.var 1001)) :: pcsu3_1) (some [(G.b (BE.lit true) (BE.lit false))]))
def wsu3_3 : VW := (VW.cut 3 ((BE.not (BE.le (IE.len (LE.rom 1)) (IE.var .i64 1003))) :: pcsu3_0) (Sx.Sub.mk [(.i64, (1003, (IE.add (IE.var .i64 1003) (IE.lit 1)))), (.u32, (1002, (IE.bin BinOp.xor .u32 (IE.bin BinOp.shr .u32 (IE.var .u32 1002) (IE.lit 8)) (IE.cel .u32 (LE.fn 2 (AL.int .i64 (IE.lit 256) AL.nil)) (IE.bin BinOp.xor .u8 (IE.wrap .u8 (IE.var .u32 1002)) (IE.cel .u8 (LE.rom 1) (IE.var .i64 1003) 0)) 0))))] [(1001, (BE.var 1001))] [] [] [] []))
def vwsu3 : List VW := [wsu3_0, wsu3_1, wsu3_2, wsu3_3]
def vwsu : Nat → List VW
  | 0 => vwsu0
  | 1 => vwsu1
  | 2 => vwsu2
  | 3 => vwsu3
  | _ => []
end
def invsu : Nat → Lt → Prop
  | 1, l => (l.i .u32 1000) = (crcT (l.z.rl 0) (l.i .i64 1001).toNat : Int) ∧ (l.i .i64 1001) ≤ ((l.z.rl 0).length : Int)
  | 2, l => (l.i .u32 1000) = (crcT ((l.z.rl 0) ++ (l.z.rl 1)) ((l.z.rl 0).length + (l.i .i64 1001).toNat) : Int) ∧ (l.i .i64 1001) ≤ ((l.z.rl 1).length : Int)
  | 3, l => (l.i .u32 1002) = (crcT (l.z.rl 1) (l.i .i64 1003).toNat : Int) ∧ (l.i .i64 1003) ≤ ((l.z.rl 1).length : Int) ∧ (l.b 1001) = true
  | _, _ => True
def mssu : Nat → Lt → Nat
  | 0, l => (l.z.rl 0).length + 2 * (l.z.rl 1).length + 10
  | 1, l => ((l.z.rl 0).length - (l.i .i64 1001).toNat) + 2 * (l.z.rl 1).length + 5
  | 2, l => ((l.z.rl 1).length - (l.i .i64 1001).toNat) + (l.z.rl 1).length + 3
  | 3, l => (l.z.rl 1).length - (l.i .i64 1003).toNat
  | _, _ => 0
theorem vcsu0_0 : VC TTsu invsu mssu 0 (startF 3 cSu.pat (.lit true :: cSu.pre)) wsu0_0 := by
  intro ρ kn hi hp
  have hF : ρ.z.F = oct.Φ := kn.F
  simp only [h_nil, h_cons, d_le, d_eq, d_not, d_var, d_lit, d_cel, d_leq, d_fn, d_and, d_iff, IE.den, LE.den, AL.den, lenV, true_and, and_true, pcsu0_1, pcsu0_0, hF, pi2, pi3, pi4, pi5, pi6, pi7, pi20, pl1, pi21, pi22, pl2, cE, cN, cV, cO, cM, sum_in, List.map_cons, List.map_nil, AV.cell] at hp
  obtain ⟨p1, p2, p3, p4⟩ := hp
  refine (show ((4294967295 : Int) = (crcT (ρ.z.rl 0) (0 : Int).toNat : Int) ∧ (0 : Int) ≤ ((ρ.z.rl 0).length : Int)) ∧ ((((ρ.z.rl 0).length - (0 : Int).toNat) + 2 * (ρ.z.rl 1).length + 5 : Nat) < (ρ.z.rl 0).length + 2 * (ρ.z.rl 1).length + 10) from ?_)
  exact ⟨⟨rfl, by omega⟩, by omega⟩
def ivsu1 (ρ : Rho) : Prop := (ρ.i .u32 1000) = (crcT (ρ.z.rl 0) (ρ.i .i64 1001).toNat : Int) ∧ (ρ.i .i64 1001) ≤ ((ρ.z.rl 0).length : Int)
theorem vcsu1_0 : VC TTsu invsu mssu 1 tsu1 wsu1_0 := by
  intro ρ kn hi hp
  have hi : ivsu1 ρ := hi
  unfold ivsu1 at hi
  have hF : ρ.z.F = oct.Φ := kn.F
  simp only [h_nil, h_cons, d_le, d_eq, d_not, d_var, d_lit, d_cel, d_leq, d_fn, d_and, d_iff, IE.den, LE.den, AL.den, lenV, true_and, and_true, pcsu1_0, hF, pi2, pi3, pi4, pi5, pi6, pi7, pi20, pl1, pi21, pi22, pl2, cE, cN, cV, cO, cM, sum_in, List.map_cons, List.map_nil, AV.cell] at hp
  obtain ⟨p1, p2, p3, p4, p5, p6, p7⟩ := hp
  refine (show ((ρ.i .u32 1000) = (crcT ((ρ.z.rl 0) ++ (ρ.z.rl 1)) ((ρ.z.rl 0).length + (0 : Int).toNat) : Int) ∧ (0 : Int) ≤ ((ρ.z.rl 1).length : Int)) ∧ ((((ρ.z.rl 1).length - (0 : Int).toNat) + (ρ.z.rl 1).length + 3 : Nat) < ((ρ.z.rl 0).length - (ρ.i .i64 1001).toNat) + 2 * (ρ.z.rl 1).length + 5) from ?_)
  obtain ⟨h1, h2⟩ := hi
  refine ⟨⟨?_, by omega⟩, by omega⟩
  rw [h1, show (0 : Int).toNat = 0 from rfl, Nat.add_zero, crcT_app (Nat.le_refl _), show (ρ.i .i64 1001).toNat = (ρ.z.rl 0).length by omega]
theorem vcsu1_1 : VC TTsu invsu mssu 1 tsu1 wsu1_1 := by
  intro ρ kn hi hp
  have hi : ivsu1 ρ := hi
  unfold ivsu1 at hi
  have hF : ρ.z.F = oct.Φ := kn.F
  simp only [h_nil, h_cons, d_le, d_eq, d_not, d_var, d_lit, d_cel, d_leq, d_fn, d_and, d_iff, IE.den, LE.den, AL.den, lenV, true_and, and_true, pcsu1_0, hF, pi2, pi3, pi4, pi5, pi6, pi7, pi20, pl1, pi21, pi22, pl2, cE, cN, cV, cO, cM, sum_in, List.map_cons, List.map_nil, AV.cell] at hp
  obtain ⟨p1, p2, p3, p4, p5, p6, p7⟩ := hp
  refine (show ((binI BinOp.xor .u32 (binI BinOp.shr .u32 (ρ.i .u32 1000) (8 : Int)) (clampK .u32 (intV (celV (ρ.z.F.l 2 [.int .i64 (256 : Int)]) (binI BinOp.xor .u8 (IntKind.wrap .u8 (ρ.i .u32 1000)) (clampK .u8 (intV (celV (ρ.z.rl 0) (ρ.i .i64 1001) 0)))) 0)))) = (crcT (ρ.z.rl 0) ((ρ.i .i64 1001) + (1 : Int)).toNat : Int) ∧ ((ρ.i .i64 1001) + (1 : Int)) ≤ ((ρ.z.rl 0).length : Int)) ∧ ((((ρ.z.rl 0).length - ((ρ.i .i64 1001) + (1 : Int)).toNat) + 2 * (ρ.z.rl 1).length + 5 : Nat) < ((ρ.z.rl 0).length - (ρ.i .i64 1001).toNat) + 2 * (ρ.z.rl 1).length + 5) from ?_)
  simp only [hF, pi2, pi3, pi4, pi5, pi6, pi7, pi20, pl1, pi21, pi22, pl2, cE, cN, cV, cO, cM, sum_in, List.map_cons, List.map_nil, AV.cell]
  obtain ⟨h1, h2⟩ := hi
  rw [show (ρ.i .i64 1001 + 1).toNat = (ρ.i .i64 1001).toNat + 1 by omega]
  exact ⟨⟨crc_go rfl h1 (b_z (by omega)), by omega⟩, by omega⟩
def ivsu2 (ρ : Rho) : Prop := (ρ.i .u32 1000) = (crcT ((ρ.z.rl 0) ++ (ρ.z.rl 1)) ((ρ.z.rl 0).length + (ρ.i .i64 1001).toNat) : Int) ∧ (ρ.i .i64 1001) ≤ ((ρ.z.rl 1).length : Int)
theorem vcsu2_0 : VC TTsu invsu mssu 2 tsu2 wsu2_0 := by
  intro ρ kn hi hp
  have hi : ivsu2 ρ := hi
  unfold ivsu2 at hi
  have hF : ρ.z.F = oct.Φ := kn.F
  simp only [h_nil, h_cons, d_le, d_eq, d_not, d_var, d_lit, d_cel, d_leq, d_fn, d_and, d_iff, IE.den, LE.den, AL.den, lenV, true_and, and_true, pcsu2_1, pcsu2_0, hF, pi2, pi3, pi4, pi5, pi6, pi7, pi20, pl1, pi21, pi22, pl2, cE, cN, cV, cO, cM, sum_in, List.map_cons, List.map_nil, AV.cell] at hp
  obtain ⟨p1, p2, p3, p4, p5, p6, p7, p8⟩ := hp
  refine (show ((4294967295 : Int) = (crcT (ρ.z.rl 1) (0 : Int).toNat : Int) ∧ (0 : Int) ≤ ((ρ.z.rl 1).length : Int) ∧ (decide ((binI BinOp.xor .u32 (4294967295 : Int) (ρ.i .u32 1000)) = (clampK .u32 (ρ.z.F.i 20 [.lst ((ρ.z.rl 0) ++ (ρ.z.rl 1))])))) = true) ∧ (((ρ.z.rl 1).length - (0 : Int).toNat : Nat) < ((ρ.z.rl 1).length - (ρ.i .i64 1001).toNat) + (ρ.z.rl 1).length + 3) from ?_)
  simp only [hF, pi2, pi3, pi4, pi5, pi6, pi7, pi20, pl1, pi21, pi22, pl2, cE, cN, cV, cO, cM, sum_in, List.map_cons, List.map_nil, AV.cell]
  exact ⟨⟨rfl, by omega, decide_eq_true p1⟩, by omega⟩
theorem vcsu2_1 : VC TTsu invsu mssu 2 tsu2 wsu2_1 := by
  intro ρ kn hi hp
  have hi : ivsu2 ρ := hi
  unfold ivsu2 at hi
  have hF : ρ.z.F = oct.Φ := kn.F
  simp only [h_nil, h_cons, d_le, d_eq, d_not, d_var, d_lit, d_cel, d_leq, d_fn, d_and, d_iff, IE.den, LE.den, AL.den, lenV, true_and, and_true, pcsu2_1, pcsu2_0, hF, pi2, pi3, pi4, pi5, pi6, pi7, pi20, pl1, pi21, pi22, pl2, cE, cN, cV, cO, cM, sum_in, List.map_cons, List.map_nil, AV.cell] at hp
  obtain ⟨p1, p2, p3, p4, p5, p6, p7, p8⟩ := hp
  exfalso
  obtain ⟨h1, h2⟩ := hi
  exact p1 (sum_end h1 (by rw [List.length_append]; omega))
theorem vcsu2_2 : VC TTsu invsu mssu 2 tsu2 wsu2_2 := by
  intro ρ kn hi hp
  have hi : ivsu2 ρ := hi
  unfold ivsu2 at hi
  have hF : ρ.z.F = oct.Φ := kn.F
  simp only [h_nil, h_cons, d_le, d_eq, d_not, d_var, d_lit, d_cel, d_leq, d_fn, d_and, d_iff, IE.den, LE.den, AL.den, lenV, true_and, and_true, pcsu2_0, hF, pi2, pi3, pi4, pi5, pi6, pi7, pi20, pl1, pi21, pi22, pl2, cE, cN, cV, cO, cM, sum_in, List.map_cons, List.map_nil, AV.cell] at hp
  obtain ⟨p1, p2, p3, p4, p5, p6, p7⟩ := hp
  refine (show ((binI BinOp.xor .u32 (binI BinOp.shr .u32 (ρ.i .u32 1000) (8 : Int)) (clampK .u32 (intV (celV (ρ.z.F.l 2 [.int .i64 (256 : Int)]) (binI BinOp.xor .u8 (IntKind.wrap .u8 (ρ.i .u32 1000)) (clampK .u8 (intV (celV (ρ.z.rl 1) (ρ.i .i64 1001) 0)))) 0)))) = (crcT ((ρ.z.rl 0) ++ (ρ.z.rl 1)) ((ρ.z.rl 0).length + ((ρ.i .i64 1001) + (1 : Int)).toNat) : Int) ∧ ((ρ.i .i64 1001) + (1 : Int)) ≤ ((ρ.z.rl 1).length : Int)) ∧ ((((ρ.z.rl 1).length - ((ρ.i .i64 1001) + (1 : Int)).toNat) + (ρ.z.rl 1).length + 3 : Nat) < ((ρ.z.rl 1).length - (ρ.i .i64 1001).toNat) + (ρ.z.rl 1).length + 3) from ?_)
  simp only [hF, pi2, pi3, pi4, pi5, pi6, pi7, pi20, pl1, pi21, pi22, pl2, cE, cN, cV, cO, cM, sum_in, List.map_cons, List.map_nil, AV.cell]
  obtain ⟨h1, h2⟩ := hi
  rw [show (ρ.i .i64 1001 + 1).toNat = (ρ.i .i64 1001).toNat + 1 by omega, ← Nat.add_assoc]
  exact ⟨⟨crc_go rfl h1 (by rw [b_z (by omega), bI_app_r]), by omega⟩, by omega⟩
def ivsu3 (ρ : Rho) : Prop := (ρ.i .u32 1002) = (crcT (ρ.z.rl 1) (ρ.i .i64 1003).toNat : Int) ∧ (ρ.i .i64 1003) ≤ ((ρ.z.rl 1).length : Int) ∧ (ρ.b 1001) = true
theorem vcsu3_1 : VC TTsu invsu mssu 3 tsu3 wsu3_1 := by
  intro ρ kn hi hp
  have hi : ivsu3 ρ := hi
  unfold ivsu3 at hi
  have hF : ρ.z.F = oct.Φ := kn.F
  simp only [h_nil, h_cons, d_le, d_eq, d_not, d_var, d_lit, d_cel, d_leq, d_fn, d_and, d_iff, IE.den, LE.den, AL.den, lenV, true_and, and_true, pcsu3_2, pcsu3_1, pcsu3_0, hF, pi2, pi3, pi4, pi5, pi6, pi7, pi20, pl1, pi21, pi22, pl2, cE, cN, cV, cO, cM, sum_in, List.map_cons, List.map_nil, AV.cell] at hp
  obtain ⟨p1, p2, p3, p4, p5, p6, p7, p8, p9⟩ := hp
  exfalso
  obtain ⟨h1, h2, h3⟩ := hi
  exact p1 (sum_end h1 (by omega))
theorem vcsu3_2 : VC TTsu invsu mssu 3 tsu3 wsu3_2 := by
  intro ρ kn hi hp
  have hi : ivsu3 ρ := hi
  unfold ivsu3 at hi
  have hF : ρ.z.F = oct.Φ := kn.F
  simp only [h_nil, h_cons, d_le, d_eq, d_not, d_var, d_lit, d_cel, d_leq, d_fn, d_and, d_iff, IE.den, LE.den, AL.den, lenV, true_and, and_true, pcsu3_1, pcsu3_0, hF, pi2, pi3, pi4, pi5, pi6, pi7, pi20, pl1, pi21, pi22, pl2, cE, cN, cV, cO, cM, sum_in, List.map_cons, List.map_nil, AV.cell] at hp
  obtain ⟨p1, p2, p3, p4, p5, p6, p7, p8⟩ := hp
  exfalso
  obtain ⟨h1, h2, h3⟩ := hi
  exact p1 h3
theorem vcsu3_3 : VC TTsu invsu mssu 3 tsu3 wsu3_3 := by
  intro ρ kn hi hp
  have hi : ivsu3 ρ := hi
  unfold ivsu3 at hi
  have hF : ρ.z.F = oct.Φ := kn.F
  simp only [h_nil, h_cons, d_le, d_eq, d_not, d_var, d_lit, d_cel, d_leq, d_fn, d_and, d_iff, IE.den, LE.den, AL.den, lenV, true_and, and_true, pcsu3_0, hF, pi2, pi3, pi4, pi5, pi6, pi7, pi20, pl1, pi21, pi22, pl2, cE, cN, cV, cO, cM, sum_in, List.map_cons, List.map_nil, AV.cell] at hp
  obtain ⟨p1, p2, p3, p4, p5, p6, p7⟩ := hp
  refine (show ((binI BinOp.xor .u32 (binI BinOp.shr .u32 (ρ.i .u32 1002) (8 : Int)) (clampK .u32 (intV (celV (ρ.z.F.l 2 [.int .i64 (256 : Int)]) (binI BinOp.xor .u8 (IntKind.wrap .u8 (ρ.i .u32 1002)) (clampK .u8 (intV (celV (ρ.z.rl 1) (ρ.i .i64 1003) 0)))) 0)))) = (crcT (ρ.z.rl 1) ((ρ.i .i64 1003) + (1 : Int)).toNat : Int) ∧ ((ρ.i .i64 1003) + (1 : Int)) ≤ ((ρ.z.rl 1).length : Int) ∧ (ρ.b 1001) = true) ∧ (((ρ.z.rl 1).length - ((ρ.i .i64 1003) + (1 : Int)).toNat : Nat) < (ρ.z.rl 1).length - (ρ.i .i64 1003).toNat) from ?_)
  simp only [hF, pi2, pi3, pi4, pi5, pi6, pi7, pi20, pl1, pi21, pi22, pl2, cE, cN, cV, cO, cM, sum_in, List.map_cons, List.map_nil, AV.cell]
  obtain ⟨h1, h2, h3⟩ := hi
  rw [show (ρ.i .i64 1003 + 1).toNat = (ρ.i .i64 1003).toNat + 1 by omega]
  exact ⟨⟨crc_go rfl h1 (b_z (by omega)), by omega, h3⟩, by omega⟩
theorem vcssu0 : ∀ v ∈ vwsu 0, VC TTsu invsu mssu 0 (startF 3 cSu.pat (.lit true :: cSu.pre)) v := all_cons vcsu0_0 (all_cons (fun _ _ _ _ => all_nil) (all_cons (fun _ _ _ _ => all_nil) (all_nil)))
theorem oksu0 : cfgOk (startF 3 cSu.pat (.lit true :: cSu.pre)) = true := by kernel_rfl
theorem sgsu0 : segL cSu.roms cSu (seg TTsu selsu 9000 tmsu (startF 3 cSu.pat (.lit true :: cSu.pre))) = (true, codesR tmsu (views (seg TTsu selsu 9000 tmsu (startF 3 cSu.pat (.lit true :: cSu.pre)))), vwsu 0) := by kernel_rfl
theorem vcssu1 : ∀ v ∈ vwsu 1, VC TTsu invsu mssu 1 tsu1 v := all_cons vcsu1_0 (all_cons vcsu1_1 (all_nil))
theorem oksu1 : cfgOk tsu1 = true := by kernel_rfl
theorem sgsu1 : segL cSu.roms cSu (seg TTsu selsu 9000 tmsu tsu1) = (true, codesR tmsu (views (seg TTsu selsu 9000 tmsu tsu1)), vwsu 1) := by kernel_rfl
theorem vcssu2 : ∀ v ∈ vwsu 2, VC TTsu invsu mssu 2 tsu2 v := all_cons vcsu2_0 (all_cons vcsu2_1 (all_cons vcsu2_2 (all_nil)))
theorem oksu2 : cfgOk tsu2 = true := by kernel_rfl
theorem sgsu2 : segL cSu.roms cSu (seg TTsu selsu 9000 tmsu tsu2) = (true, codesR tmsu (views (seg TTsu selsu 9000 tmsu tsu2)), vwsu 2) := by kernel_rfl
theorem vcssu3 : ∀ v ∈ vwsu 3, VC TTsu invsu mssu 3 tsu3 v := all_cons (fun _ _ _ _ => all_nil) (all_cons vcsu3_1 (all_cons vcsu3_2 (all_cons vcsu3_3 (all_nil))))
theorem oksu3 : cfgOk tsu3 = true := by kernel_rfl
theorem sgsu3 : segL cSu.roms cSu (seg TTsu selsu 9000 tmsu tsu3) = (true, codesR tmsu (views (seg TTsu selsu 9000 tmsu tsu3)), vwsu 3) := by kernel_rfl
theorem lnsu0 : ∀ ρ, Known TTsu (startF 3 cSu.pat (.lit true :: cSu.pre)) ρ → invsu 0 ρ.lt → Holds ρ (leanOf (Cfg.pc (startF 3 cSu.pat (.lit true :: cSu.pre)))) := by
  intro ρ _ _
  exact (show Holds ρ [] from fun p hp => by cases hp)
theorem lnsu1 : ∀ ρ, Known TTsu tsu1 ρ → invsu 1 ρ.lt → Holds ρ (leanOf (Cfg.pc tsu1)) := by
  intro ρ _ _
  exact (show Holds ρ [] from fun p hp => by cases hp)
theorem lnsu2 : ∀ ρ, Known TTsu tsu2 ρ → invsu 2 ρ.lt → Holds ρ (leanOf (Cfg.pc tsu2)) := by
  intro ρ _ _
  exact (show Holds ρ [] from fun p hp => by cases hp)
theorem lnsu3 : ∀ ρ, Known TTsu tsu3 ρ → invsu 3 ρ.lt → Holds ρ (leanOf (Cfg.pc tsu3)) := by
  intro ρ _ _
  exact (show Holds ρ [] from fun p hp => by cases hp)
theorem told_su : Sx.Told oct.Φ cSu := by
  refine told_ofM (cs := [cWorks, cRRead, cRSum, cOpenNo, cOpenZ, cOpenY, cSeal, cRSeal, cSealX, cRSealX, cSealNil, cOpenNil]) (ms' := [mFill2]) (all_cons told_works (all_cons told_rread (all_cons told_rsum (all_cons told_opno (all_cons told_opz (all_cons told_opy (all_cons told_seal (all_cons told_rseal (all_cons told_sealx (all_cons told_rsealx (all_cons told_sealnil (all_cons told_opnil (all_nil))))))))))))) (all_cons told_mfilt (all_nil)) (sel := selsu) 9000 tmsu invsu mssu vwsu 0 (pc0 := (.lit true :: cSu.pre)) (by kernel_rfl) (by kernel_rfl) (by kernel_rfl) (post_nil rfl) ?_ ?_ ?_ rfl (fun ρ _ h => h.cons (p := .lit true) (by simp only [BE.den])) (fun _ _ _ _ => trivial) ?_
  · intro k C h
    have := lk_mem h
    simp only [tmsu, List.mem_cons, Prod.mk.injEq, List.not_mem_nil, or_false] at this
    rcases this with ⟨rfl, rfl⟩ | ⟨rfl, rfl⟩ | ⟨rfl, rfl⟩ | ⟨rfl, rfl⟩
    · exact oksu0
    · exact oksu1
    · exact oksu2
    · exact oksu3
  · intro k C h
    have := lk_mem h
    simp only [tmsu, List.mem_cons, Prod.mk.injEq, List.not_mem_nil, or_false] at this
    rcases this with ⟨rfl, rfl⟩ | ⟨rfl, rfl⟩ | ⟨rfl, rfl⟩ | ⟨rfl, rfl⟩
    · exact sgsu0
    · exact sgsu1
    · exact sgsu2
    · exact sgsu3
  · intro k C h
    have := lk_mem h
    simp only [tmsu, List.mem_cons, Prod.mk.injEq, List.not_mem_nil, or_false] at this
    rcases this with ⟨rfl, rfl⟩ | ⟨rfl, rfl⟩ | ⟨rfl, rfl⟩ | ⟨rfl, rfl⟩
    · exact vcssu0
    · exact vcssu1
    · exact vcssu2
    · exact vcssu3
  · intro k C h
    have := lk_mem h
    simp only [tmsu, List.mem_cons, Prod.mk.injEq, List.not_mem_nil, or_false] at this
    rcases this with ⟨rfl, rfl⟩ | ⟨rfl, rfl⟩ | ⟨rfl, rfl⟩ | ⟨rfl, rfl⟩
    · exact lnsu0
    · exact lnsu1
    · exact lnsu2
    · exact lnsu3
noncomputable section
abbrev TTsuz : Tab := TM oct.Φ cSu0.roms [cWorks, cRRead, cRSum, cOpenNo, cOpenZ, cOpenY, cSeal, cRSeal, cSealX, cRSealX, cSealNil, cOpenNil] [mFill2]
def tsuz2 : Cfg := { top := ⟨35, over (opqS 10000 28) [(0, (SV.ptr 5 0)), (1, (SV.int .u32 (IE.var .u32 1000))), (9, (SV.rom 1 (IE.lit 0) (IE.len (LE.rom 1)) none)), (10, (SV.int .i64 (IE.len (LE.rom 1)))), (11, (SV.int .i64 (IE.var .i64 1001)))], ogt (loopTodo (bodyOf (T oct.Φ [] []) 35) 0), [], false, none⟩, rest := [⟨34, over (opqS 30000 21) [(2, (SV.func (Go.Fn.func 35) [(SV.ptr 5 0)] [])), (9, (SV.slice 4 0 2 2)), (10, (SV.int .i64 (IE.lit 2))), (11, (SV.int .i64 (IE.lit 1)))], ogt (callTodo (bodyOf (T oct.Φ [] []) 34) 4 [3, 4]), [], false, none⟩, ⟨24, over (opqS 50000 10) [], ogt (callTodo (bodyOf (T oct.Φ [] []) 24) 1 [3, 4, 5]), [], false, none⟩, ⟨12, over (opqS 70000 7) [], ogt (callTodo (bodyOf (T oct.Φ [] []) 12) 3 [1, 2]), [], false, none⟩, ⟨3, over (opqS 90000 58) [(0, (SV.rom 0 (IE.lit 0) (IE.lit 0) none)), (1, (SV.rom 1 (IE.lit 0) (IE.len (LE.rom 1)) none)), (5, (SV.sl 2 3 1 0 0))], ogt (callTodo (bodyOf (T oct.Φ [] []) 3) 4 [3, 4, 5, 6, 7, 8, 9, 10, 11, 12, 13, 14, 15, 16, 17, 18, 19, 20, 21, 22, 23, 24, 25, 26, 27, 28, 29, 30, 31, 32, 33, 34, 35, 36, 37, 38, 39, 40, 41]), [], false, none⟩], heap := [(5, .rowl (LE.fn 2 (AL.int .i64 (IE.lit 256) AL.nil)) (IE.lit 256) [(CK.int .u32)] 55 6 1), (4, .cells [(SV.sl 2 3 1 0 0), (SV.rom 1 (IE.lit 0) (IE.len (LE.rom 1)) none)] 22), (2, .row [(SV.int .u8 (IE.lit 77))] 5 3 1)], next := 7, pc := .lit true :: ([] ++ [(BE.le (IE.lit 1) (IE.len (LE.rom 1))), (BE.le (IE.len (LE.rom 1)) (IE.lit 2000)), (BE.le (IE.lit 0) (IE.var .i64 1001)), (BE.le (IE.var .i64 1001) (IE.len (LE.rom 1)))]) }
def tsuz3 : Cfg := { top := ⟨35, over (opqS 10000 28) [(0, (SV.ptr 11 0)), (1, (SV.int .u32 (IE.var .u32 1002))), (9, (SV.rom 1 (IE.lit 0) (IE.len (LE.rom 1)) none)), (10, (SV.int .i64 (IE.len (LE.rom 1)))), (11, (SV.int .i64 (IE.var .i64 1003)))], ogt (loopTodo (bodyOf (T oct.Φ [] []) 35) 0), [], false, none⟩, rest := [⟨34, over (opqS 30000 21) [(2, (SV.func (Go.Fn.func 35) [(SV.ptr 11 0)] [])), (9, (SV.slice 10 0 1 1)), (10, (SV.int .i64 (IE.lit 1))), (11, (SV.int .i64 (IE.lit 0)))], ogt (callTodo (bodyOf (T oct.Φ [] []) 34) 4 [3, 4]), [], false, none⟩, ⟨24, over (opqS 50000 10) [], ogt (callTodo (bodyOf (T oct.Φ [] []) 24) 1 [3, 4, 5]), [], false, none⟩, ⟨12, over (opqS 70000 7) [], ogt (callTodo (bodyOf (T oct.Φ [] []) 12) 3 [1, 2]), [], false, none⟩, ⟨3, over (opqS 90000 58) [(0, (SV.rom 0 (IE.lit 0) (IE.lit 0) none)), (1, (SV.rom 1 (IE.lit 0) (IE.len (LE.rom 1)) none)), (5, (SV.sl 2 3 1 0 0)), (28, (SV.bool (BE.var 1001)))], ogt (callTodo (bodyOf (T oct.Φ [] []) 3) 4 [14, 15, 16, 17, 18, 19, 20, 21, 22, 23, 24, 25, 26, 27, 28, 29, 30, 31, 32, 33, 34, 35, 36, 37, 38, 39, 40, 41]), [], false, none⟩], heap := [(11, .rowl (LE.fn 2 (AL.int .i64 (IE.lit 256) AL.nil)) (IE.lit 256) [(CK.int .u32)] 55 12 1), (10, .cells [(SV.rom 1 (IE.lit 0) (IE.len (LE.rom 1)) none)] 22), (2, .row [(SV.int .u8 (IE.lit 77))] 5 3 1)], next := 13, pc := .lit true :: ([] ++ [(BE.le (IE.len (LE.rom 1)) (IE.lit 2000)), (BE.le (IE.lit 1) (IE.len (LE.rom 1))), (BE.le (IE.lit 0) (IE.var .i64 1003)), (BE.le (IE.var .i64 1003) (IE.len (LE.rom 1)))]) }
def tmsuz : List (Nat × Cfg) := [(0, startF 3 cSu0.pat (.lit true :: cSu0.pre)), (2, tsuz2), (3, tsuz3)]
def selsuz : Sel := [(35, 1, 34045004, 3), (35, 1, 1273004, 1), (35, 1, 1275004, 2)]
def pcsuz0_0 : List BE := [(BE.lit true), (BE.le (IE.lit 1) (IE.len (LE.rom 1)))]
def wsuz0_0 : VW := (VW.cut 2 ((BE.le (IE.len (LE.rom 1)) (IE.lit 2000)) :: pcsuz0_0) (Sx.Sub.mk [(.i64, (1001, (IE.lit 0))), (.u32, (1000, (IE.lit 4294967295)))] [] [] [] [] []))
def wsuz0_1 : VW := (VW.done ((BE.not (BE.le (IE.len (LE.rom 1)) (IE.lit 2000))) :: pcsuz0_0) (some []))
def vwsuz0 : List VW := [wsuz0_0, wsuz0_1]
def pcsuz2_0 : List BE := [(BE.lit true), (BE.le (IE.lit 1) (IE.len (LE.rom 1))), (BE.le (IE.len (LE.rom 1)) (IE.lit 2000)), (BE.le (IE.lit 0) (IE.var .i64 1001)), (BE.le (IE.var .i64 1001) (IE.len (LE.rom 1)))]
def pcsuz2_1 : List BE := ((BE.le (IE.len (LE.rom 1)) (IE.var .i64 1001)) :: pcsuz2_0)
def wsuz2_0 : VW := (VW.cut 3 ((BE.eq (IE.bin BinOp.xor .u32 (IE.lit 4294967295) (IE.var .u32 1000)) (IE.fn .u32 20 (AL.lst (LE.rom 1) AL.nil))) :: pcsuz2_1) (Sx.Sub.mk [(.i64, (1003, (IE.lit 0))), (.u32, (1002, (IE.lit 4294967295)))] [(1001, (BE.eq (IE.bin BinOp.xor .u32 (IE.lit 4294967295) (IE.var .u32 1000)) (IE.fn .u32 20 (AL.lst (LE.rom 1) AL.nil))))] [] [] [] []))
def wsuz2_1 : VW := (VW.done ((BE.not (BE.eq (IE.bin BinOp.xor .u32 (IE.lit 4294967295) (IE.var .u32 1000)) (IE.fn .u32 20 (AL.lst (LE.rom 1) AL.nil)))) :: pcsuz2_1) (some [(G.b (BE.lit true) (BE.lit false))]))
def wsuz2_2 : VW := (VW.cut 2 ((BE.not (BE.le (IE.len (LE.rom 1)) (IE.var .i64 1001))) :: pcsuz2_0) (Sx.Sub.mk [(.i64, (1001, (IE.add (IE.var .i64 1001) (IE.lit 1)))), (.u32, (1000, (IE.bin BinOp.xor .u32 (IE.bin BinOp.shr .u32 (IE.var .u32 1000) (IE.lit 8)) (IE.cel .u32 (LE.fn 2 (AL.int .i64 (IE.lit 256) AL.nil)) (IE.bin BinOp.xor .u8 (IE.wrap .u8 (IE.var .u32 1000)) (IE.cel .u8 (LE.rom 1) (IE.var .i64 1001) 0)) 0))))] [] [] [] [] []))
def vwsuz2 : List VW := [wsuz2_0, wsuz2_1, wsuz2_2]
def pcsuz3_0 : List BE := [(BE.lit true), (BE.le (IE.len (LE.rom 1)) (IE.lit 2000)), (BE.le (IE.lit 1) (IE.len (LE.rom 1))), (BE.le (IE.lit 0) (IE.var .i64 1003)), (BE.le (IE.var .i64 1003) (IE.len (LE.rom 1)))]
def pcsuz3_1 : List BE := ((BE.le (IE.len (LE.rom 1)) (IE.var .i64 1003)) :: pcsuz3_0)
def pcsuz3_2 : List BE := ((BE.var 1001) :: pcsuz3_1)
def wsuz3_0 : VW := (VW.done ((BE.eq (IE.bin BinOp.xor .u32 (IE.lit 4294967295) (IE.var .u32 1002)) (IE.fn .u32 20 (AL.lst (LE.rom 1) AL.nil))) :: pcsuz3_2) (some []))
def wsuz3_1 : VW := (VW.done ((BE.not (BE.eq (IE.bin BinOp.xor .u32 (IE.lit 4294967295) (IE.var .u32 1002)) (IE.fn .u32 20 (AL.lst (LE.rom 1) AL.nil)))) :: pcsuz3_2) (some [(G.b (BE.lit true) (BE.lit false))]))
def wsuz3_2 : VW := (VW.done ((BE.not (BE.var 1001)) :: pcsuz3_1) (some [(G.b (BE.lit true) (BE.lit false))]))
def wsuz3_3 : VW := (VW.cut 3 ((BE.not (BE.le (IE.len (LE.rom 1)) (IE.var .i64 1003))) :: pcsuz3_0) (Sx.Sub.mk [(.i64, (1003, (IE.add (IE.var .i64 1003) (IE.lit 1)))), (.u32, (1002, (IE.bin BinOp.xor .u32 (IE.bin BinOp.shr .u32 (IE.var .u32 1002) (IE.lit 8)) (IE.cel .u32 (LE.fn 2 (AL.int .i64 (IE.lit 256) AL.nil)) (IE.bin BinOp.xor .u8 (IE.wrap .u8 (IE.var .u32 1002)) (IE.cel .u8 (LE.rom 1) (IE.var .i64 1003) 0)) 0))))] [(1001, (BE.var 1001))] [] [] [] []))
def vwsuz3 : List VW := [wsuz3_0, wsuz3_1, wsuz3_2, wsuz3_3]
def vwsuz : Nat → List VW
  | 0 => vwsuz0
  | 2 => vwsuz2
  | 3 => vwsuz3
  | _ => []
end
def invsuz : Nat → Lt → Prop
  | 2, l => (l.i .u32 1000) = (crcT (l.z.rl 1) (l.i .i64 1001).toNat : Int) ∧ (l.i .i64 1001) ≤ ((l.z.rl 1).length : Int)
  | 3, l => (l.i .u32 1002) = (crcT (l.z.rl 1) (l.i .i64 1003).toNat : Int) ∧ (l.i .i64 1003) ≤ ((l.z.rl 1).length : Int) ∧ (l.b 1001) = true
  | _, _ => True
def mssuz : Nat → Lt → Nat
  | 0, l => 2 * (l.z.rl 1).length + 10
  | 2, l => ((l.z.rl 1).length - (l.i .i64 1001).toNat) + (l.z.rl 1).length + 3
  | 3, l => (l.z.rl 1).length - (l.i .i64 1003).toNat
  | _, _ => 0
theorem vcsuz0_0 : VC TTsuz invsuz mssuz 0 (startF 3 cSu0.pat (.lit true :: cSu0.pre)) wsuz0_0 := by
  intro ρ kn hi hp
  have hF : ρ.z.F = oct.Φ := kn.F
  simp only [h_nil, h_cons, d_le, d_eq, d_not, d_var, d_lit, d_cel, d_leq, d_fn, d_and, d_iff, IE.den, LE.den, AL.den, lenV, true_and, and_true, pcsuz0_0, hF, pi2, pi3, pi4, pi5, pi6, pi7, pi20, pl1, pi21, pi22, pl2, cE, cN, cV, cO, cM, sum_in, List.map_cons, List.map_nil, AV.cell] at hp
  obtain ⟨p1, p2⟩ := hp
  refine (show ((4294967295 : Int) = (crcT (ρ.z.rl 1) (0 : Int).toNat : Int) ∧ (0 : Int) ≤ ((ρ.z.rl 1).length : Int)) ∧ ((((ρ.z.rl 1).length - (0 : Int).toNat) + (ρ.z.rl 1).length + 3 : Nat) < 2 * (ρ.z.rl 1).length + 10) from ?_)
  exact ⟨⟨rfl, by omega⟩, by omega⟩
def ivsuz2 (ρ : Rho) : Prop := (ρ.i .u32 1000) = (crcT (ρ.z.rl 1) (ρ.i .i64 1001).toNat : Int) ∧ (ρ.i .i64 1001) ≤ ((ρ.z.rl 1).length : Int)
theorem vcsuz2_0 : VC TTsuz invsuz mssuz 2 tsuz2 wsuz2_0 := by
  intro ρ kn hi hp
  have hi : ivsuz2 ρ := hi
  unfold ivsuz2 at hi
  have hF : ρ.z.F = oct.Φ := kn.F
  simp only [h_nil, h_cons, d_le, d_eq, d_not, d_var, d_lit, d_cel, d_leq, d_fn, d_and, d_iff, IE.den, LE.den, AL.den, lenV, true_and, and_true, pcsuz2_1, pcsuz2_0, hF, pi2, pi3, pi4, pi5, pi6, pi7, pi20, pl1, pi21, pi22, pl2, cE, cN, cV, cO, cM, sum_in, List.map_cons, List.map_nil, AV.cell] at hp
  obtain ⟨p1, p2, p3, p4, p5, p6⟩ := hp
  refine (show ((4294967295 : Int) = (crcT (ρ.z.rl 1) (0 : Int).toNat : Int) ∧ (0 : Int) ≤ ((ρ.z.rl 1).length : Int) ∧ (decide ((binI BinOp.xor .u32 (4294967295 : Int) (ρ.i .u32 1000)) = (clampK .u32 (ρ.z.F.i 20 [.lst (ρ.z.rl 1)])))) = true) ∧ (((ρ.z.rl 1).length - (0 : Int).toNat : Nat) < ((ρ.z.rl 1).length - (ρ.i .i64 1001).toNat) + (ρ.z.rl 1).length + 3) from ?_)
  simp only [hF, pi2, pi3, pi4, pi5, pi6, pi7, pi20, pl1, pi21, pi22, pl2, cE, cN, cV, cO, cM, sum_in, List.map_cons, List.map_nil, AV.cell]
  exact ⟨⟨rfl, by omega, decide_eq_true p1⟩, by omega⟩
theorem vcsuz2_1 : VC TTsuz invsuz mssuz 2 tsuz2 wsuz2_1 := by
  intro ρ kn hi hp
  have hi : ivsuz2 ρ := hi
  unfold ivsuz2 at hi
  have hF : ρ.z.F = oct.Φ := kn.F
  simp only [h_nil, h_cons, d_le, d_eq, d_not, d_var, d_lit, d_cel, d_leq, d_fn, d_and, d_iff, IE.den, LE.den, AL.den, lenV, true_and, and_true, pcsuz2_1, pcsuz2_0, hF, pi2, pi3, pi4, pi5, pi6, pi7, pi20, pl1, pi21, pi22, pl2, cE, cN, cV, cO, cM, sum_in, List.map_cons, List.map_nil, AV.cell] at hp
  obtain ⟨p1, p2, p3, p4, p5, p6⟩ := hp
  exfalso
  obtain ⟨h1, h2⟩ := hi
  exact p1 (sum_end h1 (by omega))
theorem vcsuz2_2 : VC TTsuz invsuz mssuz 2 tsuz2 wsuz2_2 := by
  intro ρ kn hi hp
  have hi : ivsuz2 ρ := hi
  unfold ivsuz2 at hi
  have hF : ρ.z.F = oct.Φ := kn.F
  simp only [h_nil, h_cons, d_le, d_eq, d_not, d_var, d_lit, d_cel, d_leq, d_fn, d_and, d_iff, IE.den, LE.den, AL.den, lenV, true_and, and_true, pcsuz2_0, hF, pi2, pi3, pi4, pi5, pi6, pi7, pi20, pl1, pi21, pi22, pl2, cE, cN, cV, cO, cM, sum_in, List.map_cons, List.map_nil, AV.cell] at hp
  obtain ⟨p1, p2, p3, p4, p5⟩ := hp
  refine (show ((binI BinOp.xor .u32 (binI BinOp.shr .u32 (ρ.i .u32 1000) (8 : Int)) (clampK .u32 (intV (celV (ρ.z.F.l 2 [.int .i64 (256 : Int)]) (binI BinOp.xor .u8 (IntKind.wrap .u8 (ρ.i .u32 1000)) (clampK .u8 (intV (celV (ρ.z.rl 1) (ρ.i .i64 1001) 0)))) 0)))) = (crcT (ρ.z.rl 1) ((ρ.i .i64 1001) + (1 : Int)).toNat : Int) ∧ ((ρ.i .i64 1001) + (1 : Int)) ≤ ((ρ.z.rl 1).length : Int)) ∧ ((((ρ.z.rl 1).length - ((ρ.i .i64 1001) + (1 : Int)).toNat) + (ρ.z.rl 1).length + 3 : Nat) < ((ρ.z.rl 1).length - (ρ.i .i64 1001).toNat) + (ρ.z.rl 1).length + 3) from ?_)
  simp only [hF, pi2, pi3, pi4, pi5, pi6, pi7, pi20, pl1, pi21, pi22, pl2, cE, cN, cV, cO, cM, sum_in, List.map_cons, List.map_nil, AV.cell]
  obtain ⟨h1, h2⟩ := hi
  rw [show (ρ.i .i64 1001 + 1).toNat = (ρ.i .i64 1001).toNat + 1 by omega]
  exact ⟨⟨crc_go rfl h1 (b_z (by omega)), by omega⟩, by omega⟩
def ivsuz3 (ρ : Rho) : Prop := (ρ.i .u32 1002) = (crcT (ρ.z.rl 1) (ρ.i .i64 1003).toNat : Int) ∧ (ρ.i .i64 1003) ≤ ((ρ.z.rl 1).length : Int) ∧ (ρ.b 1001) = true
theorem vcsuz3_1 : VC TTsuz invsuz mssuz 3 tsuz3 wsuz3_1 := by
  intro ρ kn hi hp
  have hi : ivsuz3 ρ := hi
  unfold ivsuz3 at hi
  have hF : ρ.z.F = oct.Φ := kn.F
  simp only [h_nil, h_cons, d_le, d_eq, d_not, d_var, d_lit, d_cel, d_leq, d_fn, d_and, d_iff, IE.den, LE.den, AL.den, lenV, true_and, and_true, pcsuz3_2, pcsuz3_1, pcsuz3_0, hF, pi2, pi3, pi4, pi5, pi6, pi7, pi20, pl1, pi21, pi22, pl2, cE, cN, cV, cO, cM, sum_in, List.map_cons, List.map_nil, AV.cell] at hp
  obtain ⟨p1, p2, p3, p4, p5, p6, p7⟩ := hp
  exfalso
  obtain ⟨h1, h2, h3⟩ := hi
  exact p1 (sum_end h1 (by omega))
theorem vcsuz3_2 : VC TTsuz invsuz mssuz 3 tsuz3 wsuz3_2 := by
  intro ρ kn hi hp
  have hi : ivsuz3 ρ := hi
  unfold ivsuz3 at hi
  have hF : ρ.z.F = oct.Φ := kn.F
  simp only [h_nil, h_cons, d_le, d_eq, d_not, d_var, d_lit, d_cel, d_leq, d_fn, d_and, d_iff, IE.den, LE.den, AL.den, lenV, true_and, and_true, pcsuz3_1, pcsuz3_0, hF, pi2, pi3, pi4, pi5, pi6, pi7, pi20, pl1, pi21, pi22, pl2, cE, cN, cV, cO, cM, sum_in, List.map_cons, List.map_nil, AV.cell] at hp
  obtain ⟨p1, p2, p3, p4, p5, p6⟩ := hp
  exfalso
  obtain ⟨h1, h2, h3⟩ := hi
  exact p1 h3
theorem vcsuz3_3 : VC TTsuz invsuz mssuz 3 tsuz3 wsuz3_3 := by
  intro ρ kn hi hp
  have hi : ivsuz3 ρ := hi
  unfold ivsuz3 at hi
  have hF : ρ.z.F = oct.Φ := kn.F
  simp only [h_nil, h_cons, d_le, d_eq, d_not, d_var, d_lit, d_cel, d_leq, d_fn, d_and, d_iff, IE.den, LE.den, AL.den, lenV, true_and, and_true, pcsuz3_0, hF, pi2, pi3, pi4, pi5, pi6, pi7, pi20, pl1, pi21, pi22, pl2, cE, cN, cV, cO, cM, sum_in, List.map_cons, List.map_nil, AV.cell] at hp
  obtain ⟨p1, p2, p3, p4, p5⟩ := hp
  refine (show ((binI BinOp.xor .u32 (binI BinOp.shr .u32 (ρ.i .u32 1002) (8 : Int)) (clampK .u32 (intV (celV (ρ.z.F.l 2 [.int .i64 (256 : Int)]) (binI BinOp.xor .u8 (IntKind.wrap .u8 (ρ.i .u32 1002)) (clampK .u8 (intV (celV (ρ.z.rl 1) (ρ.i .i64 1003) 0)))) 0)))) = (crcT (ρ.z.rl 1) ((ρ.i .i64 1003) + (1 : Int)).toNat : Int) ∧ ((ρ.i .i64 1003) + (1 : Int)) ≤ ((ρ.z.rl 1).length : Int) ∧ (ρ.b 1001) = true) ∧ (((ρ.z.rl 1).length - ((ρ.i .i64 1003) + (1 : Int)).toNat : Nat) < (ρ.z.rl 1).length - (ρ.i .i64 1003).toNat) from ?_)
  simp only [hF, pi2, pi3, pi4, pi5, pi6, pi7, pi20, pl1, pi21, pi22, pl2, cE, cN, cV, cO, cM, sum_in, List.map_cons, List.map_nil, AV.cell]
  obtain ⟨h1, h2, h3⟩ := hi
  rw [show (ρ.i .i64 1003 + 1).toNat = (ρ.i .i64 1003).toNat + 1 by omega]
  exact ⟨⟨crc_go rfl h1 (b_z (by omega)), by omega, h3⟩, by omega⟩
theorem vcssuz0 : ∀ v ∈ vwsuz 0, VC TTsuz invsuz mssuz 0 (startF 3 cSu0.pat (.lit true :: cSu0.pre)) v := all_cons vcsuz0_0 (all_cons (fun _ _ _ _ => all_nil) (all_nil))
theorem oksuz0 : cfgOk (startF 3 cSu0.pat (.lit true :: cSu0.pre)) = true := by kernel_rfl
theorem sgsuz0 : segL cSu0.roms cSu0 (seg TTsuz selsuz 9000 tmsuz (startF 3 cSu0.pat (.lit true :: cSu0.pre))) = (true, codesR tmsuz (views (seg TTsuz selsuz 9000 tmsuz (startF 3 cSu0.pat (.lit true :: cSu0.pre)))), vwsuz 0) := by kernel_rfl
theorem vcssuz2 : ∀ v ∈ vwsuz 2, VC TTsuz invsuz mssuz 2 tsuz2 v := all_cons vcsuz2_0 (all_cons vcsuz2_1 (all_cons vcsuz2_2 (all_nil)))
theorem oksuz2 : cfgOk tsuz2 = true := by kernel_rfl
theorem sgsuz2 : segL cSu0.roms cSu0 (seg TTsuz selsuz 9000 tmsuz tsuz2) = (true, codesR tmsuz (views (seg TTsuz selsuz 9000 tmsuz tsuz2)), vwsuz 2) := by kernel_rfl
theorem vcssuz3 : ∀ v ∈ vwsuz 3, VC TTsuz invsuz mssuz 3 tsuz3 v := all_cons (fun _ _ _ _ => all_nil) (all_cons vcsuz3_1 (all_cons vcsuz3_2 (all_cons vcsuz3_3 (all_nil))))
theorem oksuz3 : cfgOk tsuz3 = true := by kernel_rfl
theorem sgsuz3 : segL cSu0.roms cSu0 (seg TTsuz selsuz 9000 tmsuz tsuz3) = (true, codesR tmsuz (views (seg TTsuz selsuz 9000 tmsuz tsuz3)), vwsuz 3) := by kernel_rfl
theorem lnsuz0 : ∀ ρ, Known TTsuz (startF 3 cSu0.pat (.lit true :: cSu0.pre)) ρ → invsuz 0 ρ.lt → Holds ρ (leanOf (Cfg.pc (startF 3 cSu0.pat (.lit true :: cSu0.pre)))) := by
  intro ρ _ _
  exact (show Holds ρ [] from fun p hp => by cases hp)
theorem lnsuz2 : ∀ ρ, Known TTsuz tsuz2 ρ → invsuz 2 ρ.lt → Holds ρ (leanOf (Cfg.pc tsuz2)) := by
  intro ρ _ _
  exact (show Holds ρ [] from fun p hp => by cases hp)
theorem lnsuz3 : ∀ ρ, Known TTsuz tsuz3 ρ → invsuz 3 ρ.lt → Holds ρ (leanOf (Cfg.pc tsuz3)) := by
  intro ρ _ _
  exact (show Holds ρ [] from fun p hp => by cases hp)
theorem told_suz : Sx.Told oct.Φ cSu0 := by
  refine told_ofM (cs := [cWorks, cRRead, cRSum, cOpenNo, cOpenZ, cOpenY, cSeal, cRSeal, cSealX, cRSealX, cSealNil, cOpenNil]) (ms' := [mFill2]) (all_cons told_works (all_cons told_rread (all_cons told_rsum (all_cons told_opno (all_cons told_opz (all_cons told_opy (all_cons told_seal (all_cons told_rseal (all_cons told_sealx (all_cons told_rsealx (all_cons told_sealnil (all_cons told_opnil (all_nil))))))))))))) (all_cons told_mfilt (all_nil)) (sel := selsuz) 9000 tmsuz invsuz mssuz vwsuz 0 (pc0 := (.lit true :: cSu0.pre)) (by kernel_rfl) (by kernel_rfl) (by kernel_rfl) (post_nil rfl) ?_ ?_ ?_ rfl (fun ρ _ h => h.cons (p := .lit true) (by simp only [BE.den])) (fun _ _ _ _ => trivial) ?_
  · intro k C h
    have := lk_mem h
    simp only [tmsuz, List.mem_cons, Prod.mk.injEq, List.not_mem_nil, or_false] at this
    rcases this with ⟨rfl, rfl⟩ | ⟨rfl, rfl⟩ | ⟨rfl, rfl⟩
    · exact oksuz0
    · exact oksuz2
    · exact oksuz3
  · intro k C h
    have := lk_mem h
    simp only [tmsuz, List.mem_cons, Prod.mk.injEq, List.not_mem_nil, or_false] at this
    rcases this with ⟨rfl, rfl⟩ | ⟨rfl, rfl⟩ | ⟨rfl, rfl⟩
    · exact sgsuz0
    · exact sgsuz2
    · exact sgsuz3
  · intro k C h
    have := lk_mem h
    simp only [tmsuz, List.mem_cons, Prod.mk.injEq, List.not_mem_nil, or_false] at this
    rcases this with ⟨rfl, rfl⟩ | ⟨rfl, rfl⟩ | ⟨rfl, rfl⟩
    · exact vcssuz0
    · exact vcssuz2
    · exact vcssuz3
  · intro k C h
    have := lk_mem h
    simp only [tmsuz, List.mem_cons, Prod.mk.injEq, List.not_mem_nil, or_false] at this
    rcases this with ⟨rfl, rfl⟩ | ⟨rfl, rfl⟩ | ⟨rfl, rfl⟩
    · exact lnsuz0
    · exact lnsuz2
    · exact lnsuz3
noncomputable section
abbrev TTsuy : Tab := TM oct.Φ cSu1.roms [cWorks, cRRead, cRSum, cOpenNo, cOpenZ, cOpenY, cSeal, cRSeal, cSealX, cRSealX, cSealNil, cOpenNil] [mFill2]
def tsuy1 : Cfg := { top := ⟨35, over (opqS 10000 28) [(0, (SV.ptr 7 0)), (1, (SV.int .u32 (IE.var .u32 1000))), (9, (SV.sll 4 5 1 (IE.lit 0) (IE.len (LE.rom 0)) none)), (10, (SV.int .i64 (IE.len (LE.rom 0)))), (11, (SV.int .i64 (IE.var .i64 1001)))], ogt (loopTodo (bodyOf (T oct.Φ [] []) 35) 0), [], false, none⟩, rest := [⟨34, over (opqS 30000 21) [(2, (SV.func (Go.Fn.func 35) [(SV.ptr 7 0)] [])), (9, (SV.slice 6 0 2 2)), (10, (SV.int .i64 (IE.lit 2))), (11, (SV.int .i64 (IE.lit 0)))], ogt (callTodo (bodyOf (T oct.Φ [] []) 34) 4 [3, 4]), [], false, none⟩, ⟨24, over (opqS 50000 10) [], ogt (callTodo (bodyOf (T oct.Φ [] []) 24) 1 [3, 4, 5]), [], false, none⟩, ⟨12, over (opqS 70000 7) [], ogt (callTodo (bodyOf (T oct.Φ [] []) 12) 3 [1, 2]), [], false, none⟩, ⟨3, over (opqS 90000 58) [(0, (SV.rom 0 (IE.lit 0) (IE.len (LE.rom 0)) none)), (1, (SV.rom 1 (IE.lit 0) (IE.lit 0) none)), (5, (SV.sll 4 5 1 (IE.lit 0) (IE.len (LE.rom 0)) none))], ogt (callTodo (bodyOf (T oct.Φ [] []) 3) 4 [3, 4, 5, 6, 7, 8, 9, 10, 11, 12, 13, 14, 15, 16, 17, 18, 19, 20, 21, 22, 23, 24, 25, 26, 27, 28, 29, 30, 31, 32, 33, 34, 35, 36, 37, 38, 39, 40, 41]), [], false, none⟩], heap := [(7, .rowl (LE.fn 2 (AL.int .i64 (IE.lit 256) AL.nil)) (IE.lit 256) [(CK.int .u32)] 55 8 1), (4, .rowl (LE.cat (LE.rom 0) (LE.one (AL.int .u8 (IE.lit 77) AL.nil))) (IE.add (IE.len (LE.rom 0)) (IE.lit 1)) [(CK.int .u8)] 5 5 1), (6, .cells [(SV.sll 4 5 1 (IE.lit 0) (IE.len (LE.rom 0)) none), (SV.rom 1 (IE.lit 0) (IE.lit 0) none)] 22)], next := 9, pc := .lit true :: ([] ++ [(BE.le (IE.lit 1) (IE.len (LE.rom 0))), (BE.le (IE.len (LE.rom 0)) (IE.lit 2000)), (BE.le (IE.lit 0) (IE.var .i64 1001)), (BE.le (IE.var .i64 1001) (IE.len (LE.rom 0)))]) }
def tsuy2 : Cfg := { top := ⟨35, over (opqS 10000 28) [(0, (SV.ptr 7 0)), (1, (SV.int .u32 (IE.var .u32 1000))), (9, (SV.rom 1 (IE.lit 0) (IE.lit 0) none)), (10, (SV.int .i64 (IE.lit 0))), (11, (SV.int .i64 (IE.lit 0)))], ogt (loopTodo (bodyOf (T oct.Φ [] []) 35) 0), [], false, none⟩, rest := [⟨34, over (opqS 30000 21) [(2, (SV.func (Go.Fn.func 35) [(SV.ptr 7 0)] [])), (9, (SV.slice 6 0 2 2)), (10, (SV.int .i64 (IE.lit 2))), (11, (SV.int .i64 (IE.lit 1)))], ogt (callTodo (bodyOf (T oct.Φ [] []) 34) 4 [3, 4]), [], false, none⟩, ⟨24, over (opqS 50000 10) [], ogt (callTodo (bodyOf (T oct.Φ [] []) 24) 1 [3, 4, 5]), [], false, none⟩, ⟨12, over (opqS 70000 7) [], ogt (callTodo (bodyOf (T oct.Φ [] []) 12) 3 [1, 2]), [], false, none⟩, ⟨3, over (opqS 90000 58) [(0, (SV.rom 0 (IE.lit 0) (IE.len (LE.rom 0)) none)), (1, (SV.rom 1 (IE.lit 0) (IE.lit 0) none)), (5, (SV.sll 4 5 1 (IE.lit 0) (IE.len (LE.rom 0)) none))], ogt (callTodo (bodyOf (T oct.Φ [] []) 3) 4 [3, 4, 5, 6, 7, 8, 9, 10, 11, 12, 13, 14, 15, 16, 17, 18, 19, 20, 21, 22, 23, 24, 25, 26, 27, 28, 29, 30, 31, 32, 33, 34, 35, 36, 37, 38, 39, 40, 41]), [], false, none⟩], heap := [(7, .rowl (LE.fn 2 (AL.int .i64 (IE.lit 256) AL.nil)) (IE.lit 256) [(CK.int .u32)] 55 8 1), (6, .cells [(SV.sll 4 5 1 (IE.lit 0) (IE.len (LE.rom 0)) none), (SV.rom 1 (IE.lit 0) (IE.lit 0) none)] 22), (4, .rowl (LE.cat (LE.rom 0) (LE.one (AL.int .u8 (IE.lit 77) AL.nil))) (IE.add (IE.len (LE.rom 0)) (IE.lit 1)) [(CK.int .u8)] 5 5 1)], next := 9, pc := .lit true :: ([] ++ [(BE.le (IE.len (LE.rom 0)) (IE.lit 2000)), (BE.le (IE.lit 1) (IE.len (LE.rom 0)))]) }
def tsuy3 : Cfg := { top := ⟨35, over (opqS 10000 28) [(0, (SV.ptr 13 0)), (1, (SV.int .u32 (IE.lit 4294967295))), (9, (SV.rom 1 (IE.lit 0) (IE.lit 0) none)), (10, (SV.int .i64 (IE.lit 0))), (11, (SV.int .i64 (IE.lit 0)))], ogt (loopTodo (bodyOf (T oct.Φ [] []) 35) 0), [], false, none⟩, rest := [⟨34, over (opqS 30000 21) [(2, (SV.func (Go.Fn.func 35) [(SV.ptr 13 0)] [])), (9, (SV.slice 12 0 1 1)), (10, (SV.int .i64 (IE.lit 1))), (11, (SV.int .i64 (IE.lit 0)))], ogt (callTodo (bodyOf (T oct.Φ [] []) 34) 4 [3, 4]), [], false, none⟩, ⟨24, over (opqS 50000 10) [], ogt (callTodo (bodyOf (T oct.Φ [] []) 24) 1 [3, 4, 5]), [], false, none⟩, ⟨12, over (opqS 70000 7) [], ogt (callTodo (bodyOf (T oct.Φ [] []) 12) 3 [1, 2]), [], false, none⟩, ⟨3, over (opqS 90000 58) [(0, (SV.rom 0 (IE.lit 0) (IE.len (LE.rom 0)) none)), (1, (SV.rom 1 (IE.lit 0) (IE.lit 0) none)), (5, (SV.sll 4 5 1 (IE.lit 0) (IE.len (LE.rom 0)) none)), (28, (SV.bool (BE.var 1001)))], ogt (callTodo (bodyOf (T oct.Φ [] []) 3) 4 [14, 15, 16, 17, 18, 19, 20, 21, 22, 23, 24, 25, 26, 27, 28, 29, 30, 31, 32, 33, 34, 35, 36, 37, 38, 39, 40, 41]), [], false, none⟩], heap := [(13, .rowl (LE.fn 2 (AL.int .i64 (IE.lit 256) AL.nil)) (IE.lit 256) [(CK.int .u32)] 55 14 1), (12, .cells [(SV.rom 1 (IE.lit 0) (IE.lit 0) none)] 22), (4, .rowl (LE.cat (LE.rom 0) (LE.one (AL.int .u8 (IE.lit 77) AL.nil))) (IE.add (IE.len (LE.rom 0)) (IE.lit 1)) [(CK.int .u8)] 5 5 1)], next := 15, pc := .lit true :: ([] ++ [(BE.le (IE.lit 1) (IE.len (LE.rom 0))), (BE.le (IE.len (LE.rom 0)) (IE.lit 2000))]) }
def tmsuy : List (Nat × Cfg) := [(0, startF 3 cSu1.pat (.lit true :: cSu1.pre)), (1, tsuy1), (2, tsuy2), (3, tsuy3)]
def selsuy : Sel := [(35, 1, 34045004, 3), (35, 1, 1273004, 1), (35, 1, 1275004, 2)]
def pcsuy0_0 : List BE := [(BE.lit true), (BE.le (IE.lit 1) (IE.len (LE.rom 0)))]
def wsuy0_0 : VW := (VW.cut 1 ((BE.le (IE.len (LE.rom 0)) (IE.lit 2000)) :: pcsuy0_0) (Sx.Sub.mk [(.i64, (1001, (IE.lit 0))), (.u32, (1000, (IE.lit 4294967295)))] [] [] [] [] []))
def wsuy0_1 : VW := (VW.done ((BE.not (BE.le (IE.len (LE.rom 0)) (IE.lit 2000))) :: pcsuy0_0) (some []))
def vwsuy0 : List VW := [wsuy0_0, wsuy0_1]
def pcsuy1_0 : List BE := [(BE.lit true), (BE.le (IE.lit 1) (IE.len (LE.rom 0))), (BE.le (IE.len (LE.rom 0)) (IE.lit 2000)), (BE.le (IE.lit 0) (IE.var .i64 1001)), (BE.le (IE.var .i64 1001) (IE.len (LE.rom 0)))]
def wsuy1_0 : VW := (VW.cut 2 ((BE.le (IE.len (LE.rom 0)) (IE.var .i64 1001)) :: pcsuy1_0) (Sx.Sub.mk [(.u32, (1000, (IE.var .u32 1000)))] [] [] [] [] []))
def wsuy1_1 : VW := (VW.cut 1 ((BE.not (BE.le (IE.len (LE.rom 0)) (IE.var .i64 1001))) :: pcsuy1_0) (Sx.Sub.mk [(.i64, (1001, (IE.add (IE.var .i64 1001) (IE.lit 1)))), (.u32, (1000, (IE.bin BinOp.xor .u32 (IE.bin BinOp.shr .u32 (IE.var .u32 1000) (IE.lit 8)) (IE.cel .u32 (LE.fn 2 (AL.int .i64 (IE.lit 256) AL.nil)) (IE.bin BinOp.xor .u8 (IE.wrap .u8 (IE.var .u32 1000)) (IE.cel .u8 (LE.rom 0) (IE.var .i64 1001) 0)) 0))))] [] [] [] [] []))
def vwsuy1 : List VW := [wsuy1_0, wsuy1_1]
def pcsuy2_0 : List BE := [(BE.lit true), (BE.le (IE.len (LE.rom 0)) (IE.lit 2000)), (BE.le (IE.lit 1) (IE.len (LE.rom 0)))]
def wsuy2_0 : VW := (VW.cut 3 ((BE.eq (IE.bin BinOp.xor .u32 (IE.lit 4294967295) (IE.var .u32 1000)) (IE.fn .u32 20 (AL.lst (LE.cat (LE.cat (LE.rom 0) (LE.take (LE.rom 1) (IE.lit 0))) (LE.drop (LE.rom 0) (IE.len (LE.rom 0)))) AL.nil))) :: pcsuy2_0) (Sx.Sub.mk [] [(1001, (BE.eq (IE.bin BinOp.xor .u32 (IE.lit 4294967295) (IE.var .u32 1000)) (IE.fn .u32 20 (AL.lst (LE.cat (LE.cat (LE.rom 0) (LE.take (LE.rom 1) (IE.lit 0))) (LE.drop (LE.rom 0) (IE.len (LE.rom 0)))) AL.nil))))] [] [] [] []))
def wsuy2_1 : VW := (VW.done ((BE.not (BE.eq (IE.bin BinOp.xor .u32 (IE.lit 4294967295) (IE.var .u32 1000)) (IE.fn .u32 20 (AL.lst (LE.cat (LE.cat (LE.rom 0) (LE.take (LE.rom 1) (IE.lit 0))) (LE.drop (LE.rom 0) (IE.len (LE.rom 0)))) AL.nil)))) :: pcsuy2_0) (some [(G.b (BE.lit true) (BE.lit false))]))
def vwsuy2 : List VW := [wsuy2_0, wsuy2_1]
def pcsuy3_0 : List BE := [(BE.lit true), (BE.le (IE.lit 1) (IE.len (LE.rom 0))), (BE.le (IE.len (LE.rom 0)) (IE.lit 2000))]
def pcsuy3_1 : List BE := ((BE.var 1001) :: pcsuy3_0)
def wsuy3_0 : VW := (VW.done ((BE.eq (IE.fn .u32 20 (AL.lst (LE.take (LE.rom 1) (IE.lit 0)) AL.nil)) (IE.lit 0)) :: pcsuy3_1) (some []))
def wsuy3_1 : VW := (VW.done ((BE.not (BE.eq (IE.fn .u32 20 (AL.lst (LE.take (LE.rom 1) (IE.lit 0)) AL.nil)) (IE.lit 0))) :: pcsuy3_1) (some [(G.b (BE.lit true) (BE.lit false))]))
def wsuy3_2 : VW := (VW.done ((BE.not (BE.var 1001)) :: pcsuy3_0) (some [(G.b (BE.lit true) (BE.lit false))]))
def vwsuy3 : List VW := [wsuy3_0, wsuy3_1, wsuy3_2]
def vwsuy : Nat → List VW
  | 0 => vwsuy0
  | 1 => vwsuy1
  | 2 => vwsuy2
  | 3 => vwsuy3
  | _ => []
end
def invsuy : Nat → Lt → Prop
  | 1, l => (l.i .u32 1000) = (crcT (l.z.rl 0) (l.i .i64 1001).toNat : Int) ∧ (l.i .i64 1001) ≤ ((l.z.rl 0).length : Int)
  | 2, l => (l.i .u32 1000) = (crcT (l.z.rl 0) (l.z.rl 0).length : Int)
  | 3, l => (l.b 1001) = true
  | _, _ => True
def mssuy : Nat → Lt → Nat
  | 0, l => (l.z.rl 0).length + 10
  | 1, l => ((l.z.rl 0).length - (l.i .i64 1001).toNat) + 5
  | 2, l => 3
  | 3, l => 1
  | _, _ => 0
theorem vcsuy0_0 : VC TTsuy invsuy mssuy 0 (startF 3 cSu1.pat (.lit true :: cSu1.pre)) wsuy0_0 := by
  intro ρ kn hi hp
  have hF : ρ.z.F = oct.Φ := kn.F
  simp only [h_nil, h_cons, d_le, d_eq, d_not, d_var, d_lit, d_cel, d_leq, d_fn, d_and, d_iff, IE.den, LE.den, AL.den, lenV, true_and, and_true, pcsuy0_0, hF, pi2, pi3, pi4, pi5, pi6, pi7, pi20, pl1, pi21, pi22, pl2, cE, cN, cV, cO, cM, sum_in, List.map_cons, List.map_nil, AV.cell] at hp
  obtain ⟨p1, p2⟩ := hp
  refine (show ((4294967295 : Int) = (crcT (ρ.z.rl 0) (0 : Int).toNat : Int) ∧ (0 : Int) ≤ ((ρ.z.rl 0).length : Int)) ∧ ((((ρ.z.rl 0).length - (0 : Int).toNat) + 5 : Nat) < (ρ.z.rl 0).length + 10) from ?_)
  exact ⟨⟨rfl, by omega⟩, by omega⟩
def ivsuy1 (ρ : Rho) : Prop := (ρ.i .u32 1000) = (crcT (ρ.z.rl 0) (ρ.i .i64 1001).toNat : Int) ∧ (ρ.i .i64 1001) ≤ ((ρ.z.rl 0).length : Int)
theorem vcsuy1_0 : VC TTsuy invsuy mssuy 1 tsuy1 wsuy1_0 := by
  intro ρ kn hi hp
  have hi : ivsuy1 ρ := hi
  unfold ivsuy1 at hi
  have hF : ρ.z.F = oct.Φ := kn.F
  simp only [h_nil, h_cons, d_le, d_eq, d_not, d_var, d_lit, d_cel, d_leq, d_fn, d_and, d_iff, IE.den, LE.den, AL.den, lenV, true_and, and_true, pcsuy1_0, hF, pi2, pi3, pi4, pi5, pi6, pi7, pi20, pl1, pi21, pi22, pl2, cE, cN, cV, cO, cM, sum_in, List.map_cons, List.map_nil, AV.cell] at hp
  obtain ⟨p1, p2, p3, p4, p5⟩ := hp
  refine (show ((ρ.i .u32 1000) = (crcT (ρ.z.rl 0) (ρ.z.rl 0).length : Int)) ∧ ((3 : Nat) < ((ρ.z.rl 0).length - (ρ.i .i64 1001).toNat) + 5) from ?_)
  obtain ⟨h1, h2⟩ := hi
  refine ⟨?_, by omega⟩
  rw [h1, show (ρ.i .i64 1001).toNat = (ρ.z.rl 0).length by omega]
theorem vcsuy1_1 : VC TTsuy invsuy mssuy 1 tsuy1 wsuy1_1 := by
  intro ρ kn hi hp
  have hi : ivsuy1 ρ := hi
  unfold ivsuy1 at hi
  have hF : ρ.z.F = oct.Φ := kn.F
  simp only [h_nil, h_cons, d_le, d_eq, d_not, d_var, d_lit, d_cel, d_leq, d_fn, d_and, d_iff, IE.den, LE.den, AL.den, lenV, true_and, and_true, pcsuy1_0, hF, pi2, pi3, pi4, pi5, pi6, pi7, pi20, pl1, pi21, pi22, pl2, cE, cN, cV, cO, cM, sum_in, List.map_cons, List.map_nil, AV.cell] at hp
  obtain ⟨p1, p2, p3, p4, p5⟩ := hp
  refine (show ((binI BinOp.xor .u32 (binI BinOp.shr .u32 (ρ.i .u32 1000) (8 : Int)) (clampK .u32 (intV (celV (ρ.z.F.l 2 [.int .i64 (256 : Int)]) (binI BinOp.xor .u8 (IntKind.wrap .u8 (ρ.i .u32 1000)) (clampK .u8 (intV (celV (ρ.z.rl 0) (ρ.i .i64 1001) 0)))) 0)))) = (crcT (ρ.z.rl 0) ((ρ.i .i64 1001) + (1 : Int)).toNat : Int) ∧ ((ρ.i .i64 1001) + (1 : Int)) ≤ ((ρ.z.rl 0).length : Int)) ∧ ((((ρ.z.rl 0).length - ((ρ.i .i64 1001) + (1 : Int)).toNat) + 5 : Nat) < ((ρ.z.rl 0).length - (ρ.i .i64 1001).toNat) + 5) from ?_)
  simp only [hF, pi2, pi3, pi4, pi5, pi6, pi7, pi20, pl1, pi21, pi22, pl2, cE, cN, cV, cO, cM, sum_in, List.map_cons, List.map_nil, AV.cell]
  obtain ⟨h1, h2⟩ := hi
  rw [show (ρ.i .i64 1001 + 1).toNat = (ρ.i .i64 1001).toNat + 1 by omega]
  exact ⟨⟨crc_go rfl h1 (b_z (by omega)), by omega⟩, by omega⟩
def ivsuy2 (ρ : Rho) : Prop := (ρ.i .u32 1000) = (crcT (ρ.z.rl 0) (ρ.z.rl 0).length : Int)
theorem vcsuy2_0 : VC TTsuy invsuy mssuy 2 tsuy2 wsuy2_0 := by
  intro ρ kn hi hp
  have hi : ivsuy2 ρ := hi
  unfold ivsuy2 at hi
  have hF : ρ.z.F = oct.Φ := kn.F
  simp only [h_nil, h_cons, d_le, d_eq, d_not, d_var, d_lit, d_cel, d_leq, d_fn, d_and, d_iff, IE.den, LE.den, AL.den, lenV, true_and, and_true, pcsuy2_0, hF, pi2, pi3, pi4, pi5, pi6, pi7, pi20, pl1, pi21, pi22, pl2, cE, cN, cV, cO, cM, sum_in, List.map_cons, List.map_nil, AV.cell] at hp
  obtain ⟨p1, p2, p3⟩ := hp
  refine (show ((decide ((binI BinOp.xor .u32 (4294967295 : Int) (ρ.i .u32 1000)) = (clampK .u32 (ρ.z.F.i 20 [.lst (((ρ.z.rl 0) ++ ((ρ.z.rl 1).take (0 : Int).toNat)) ++ ((ρ.z.rl 0).drop (((ρ.z.rl 0).length : Nat) : Int).toNat))])))) = true) ∧ ((1 : Nat) < 3) from ?_)
  simp only [hF, pi2, pi3, pi4, pi5, pi6, pi7, pi20, pl1, pi21, pi22, pl2, cE, cN, cV, cO, cM, sum_in, List.map_cons, List.map_nil, AV.cell]
  exact ⟨decide_eq_true p1, by omega⟩
theorem vcsuy2_1 : VC TTsuy invsuy mssuy 2 tsuy2 wsuy2_1 := by
  intro ρ kn hi hp
  have hi : ivsuy2 ρ := hi
  unfold ivsuy2 at hi
  have hF : ρ.z.F = oct.Φ := kn.F
  simp only [h_nil, h_cons, d_le, d_eq, d_not, d_var, d_lit, d_cel, d_leq, d_fn, d_and, d_iff, IE.den, LE.den, AL.den, lenV, true_and, and_true, pcsuy2_0, hF, pi2, pi3, pi4, pi5, pi6, pi7, pi20, pl1, pi21, pi22, pl2, cE, cN, cV, cO, cM, sum_in, List.map_cons, List.map_nil, AV.cell] at hp
  obtain ⟨p1, p2, p3⟩ := hp
  exfalso
  have e4 : (ρ.z.rl 1).take (0 : Int).toNat = [] := rfl
  rw [e4, List.append_nil, List.drop_of_length_le (by omega), List.append_nil] at p1
  exact p1 (sum_end hi rfl)
def ivsuy3 (ρ : Rho) : Prop := (ρ.b 1001) = true
theorem vcsuy3_1 : VC TTsuy invsuy mssuy 3 tsuy3 wsuy3_1 := by
  intro ρ kn hi hp
  have hi : ivsuy3 ρ := hi
  unfold ivsuy3 at hi
  have hF : ρ.z.F = oct.Φ := kn.F
  simp only [h_nil, h_cons, d_le, d_eq, d_not, d_var, d_lit, d_cel, d_leq, d_fn, d_and, d_iff, IE.den, LE.den, AL.den, lenV, true_and, and_true, pcsuy3_1, pcsuy3_0, hF, pi2, pi3, pi4, pi5, pi6, pi7, pi20, pl1, pi21, pi22, pl2, cE, cN, cV, cO, cM, sum_in, List.map_cons, List.map_nil, AV.cell] at hp
  obtain ⟨p1, p2, p3, p4⟩ := hp
  exfalso
  exact p1 rfl
theorem vcsuy3_2 : VC TTsuy invsuy mssuy 3 tsuy3 wsuy3_2 := by
  intro ρ kn hi hp
  have hi : ivsuy3 ρ := hi
  unfold ivsuy3 at hi
  have hF : ρ.z.F = oct.Φ := kn.F
  simp only [h_nil, h_cons, d_le, d_eq, d_not, d_var, d_lit, d_cel, d_leq, d_fn, d_and, d_iff, IE.den, LE.den, AL.den, lenV, true_and, and_true, pcsuy3_0, hF, pi2, pi3, pi4, pi5, pi6, pi7, pi20, pl1, pi21, pi22, pl2, cE, cN, cV, cO, cM, sum_in, List.map_cons, List.map_nil, AV.cell] at hp
  obtain ⟨p1, p2, p3⟩ := hp
  exfalso
  exact p1 hi
theorem vcssuy0 : ∀ v ∈ vwsuy 0, VC TTsuy invsuy mssuy 0 (startF 3 cSu1.pat (.lit true :: cSu1.pre)) v := all_cons vcsuy0_0 (all_cons (fun _ _ _ _ => all_nil) (all_nil))
theorem oksuy0 : cfgOk (startF 3 cSu1.pat (.lit true :: cSu1.pre)) = true := by kernel_rfl
theorem sgsuy0 : segL cSu1.roms cSu1 (seg TTsuy selsuy 9000 tmsuy (startF 3 cSu1.pat (.lit true :: cSu1.pre))) = (true, codesR tmsuy (views (seg TTsuy selsuy 9000 tmsuy (startF 3 cSu1.pat (.lit true :: cSu1.pre)))), vwsuy 0) := by kernel_rfl
theorem vcssuy1 : ∀ v ∈ vwsuy 1, VC TTsuy invsuy mssuy 1 tsuy1 v := all_cons vcsuy1_0 (all_cons vcsuy1_1 (all_nil))
theorem oksuy1 : cfgOk tsuy1 = true := by kernel_rfl
theorem sgsuy1 : segL cSu1.roms cSu1 (seg TTsuy selsuy 9000 tmsuy tsuy1) = (true, codesR tmsuy (views (seg TTsuy selsuy 9000 tmsuy tsuy1)), vwsuy 1) := by kernel_rfl
theorem vcssuy2 : ∀ v ∈ vwsuy 2, VC TTsuy invsuy mssuy 2 tsuy2 v := all_cons vcsuy2_0 (all_cons vcsuy2_1 (all_nil))
theorem oksuy2 : cfgOk tsuy2 = true := by kernel_rfl
theorem sgsuy2 : segL cSu1.roms cSu1 (seg TTsuy selsuy 9000 tmsuy tsuy2) = (true, codesR tmsuy (views (seg TTsuy selsuy 9000 tmsuy tsuy2)), vwsuy 2) := by kernel_rfl
theorem vcssuy3 : ∀ v ∈ vwsuy 3, VC TTsuy invsuy mssuy 3 tsuy3 v := all_cons (fun _ _ _ _ => all_nil) (all_cons vcsuy3_1 (all_cons vcsuy3_2 (all_nil)))
theorem oksuy3 : cfgOk tsuy3 = true := by kernel_rfl
theorem sgsuy3 : segL cSu1.roms cSu1 (seg TTsuy selsuy 9000 tmsuy tsuy3) = (true, codesR tmsuy (views (seg TTsuy selsuy 9000 tmsuy tsuy3)), vwsuy 3) := by kernel_rfl
theorem lnsuy0 : ∀ ρ, Known TTsuy (startF 3 cSu1.pat (.lit true :: cSu1.pre)) ρ → invsuy 0 ρ.lt → Holds ρ (leanOf (Cfg.pc (startF 3 cSu1.pat (.lit true :: cSu1.pre)))) := by
  intro ρ _ _
  exact (show Holds ρ [] from fun p hp => by cases hp)
theorem lnsuy1 : ∀ ρ, Known TTsuy tsuy1 ρ → invsuy 1 ρ.lt → Holds ρ (leanOf (Cfg.pc tsuy1)) := by
  intro ρ _ _
  exact (show Holds ρ [] from fun p hp => by cases hp)
theorem lnsuy2 : ∀ ρ, Known TTsuy tsuy2 ρ → invsuy 2 ρ.lt → Holds ρ (leanOf (Cfg.pc tsuy2)) := by
  intro ρ _ _
  exact (show Holds ρ [] from fun p hp => by cases hp)
theorem lnsuy3 : ∀ ρ, Known TTsuy tsuy3 ρ → invsuy 3 ρ.lt → Holds ρ (leanOf (Cfg.pc tsuy3)) := by
  intro ρ _ _
  exact (show Holds ρ [] from fun p hp => by cases hp)
theorem told_suy : Sx.Told oct.Φ cSu1 := by
  refine told_ofM (cs := [cWorks, cRRead, cRSum, cOpenNo, cOpenZ, cOpenY, cSeal, cRSeal, cSealX, cRSealX, cSealNil, cOpenNil]) (ms' := [mFill2]) (all_cons told_works (all_cons told_rread (all_cons told_rsum (all_cons told_opno (all_cons told_opz (all_cons told_opy (all_cons told_seal (all_cons told_rseal (all_cons told_sealx (all_cons told_rsealx (all_cons told_sealnil (all_cons told_opnil (all_nil))))))))))))) (all_cons told_mfilt (all_nil)) (sel := selsuy) 9000 tmsuy invsuy mssuy vwsuy 0 (pc0 := (.lit true :: cSu1.pre)) (by kernel_rfl) (by kernel_rfl) (by kernel_rfl) (post_nil rfl) ?_ ?_ ?_ rfl (fun ρ _ h => h.cons (p := .lit true) (by simp only [BE.den])) (fun _ _ _ _ => trivial) ?_
  · intro k C h
    have := lk_mem h
    simp only [tmsuy, List.mem_cons, Prod.mk.injEq, List.not_mem_nil, or_false] at this
    rcases this with ⟨rfl, rfl⟩ | ⟨rfl, rfl⟩ | ⟨rfl, rfl⟩ | ⟨rfl, rfl⟩
    · exact oksuy0
    · exact oksuy1
    · exact oksuy2
    · exact oksuy3
  · intro k C h
    have := lk_mem h
    simp only [tmsuy, List.mem_cons, Prod.mk.injEq, List.not_mem_nil, or_false] at this
    rcases this with ⟨rfl, rfl⟩ | ⟨rfl, rfl⟩ | ⟨rfl, rfl⟩ | ⟨rfl, rfl⟩
    · exact sgsuy0
    · exact sgsuy1
    · exact sgsuy2
    · exact sgsuy3
  · intro k C h
    have := lk_mem h
    simp only [tmsuy, List.mem_cons, Prod.mk.injEq, List.not_mem_nil, or_false] at this
    rcases this with ⟨rfl, rfl⟩ | ⟨rfl, rfl⟩ | ⟨rfl, rfl⟩ | ⟨rfl, rfl⟩
    · exact vcssuy0
    · exact vcssuy1
    · exact vcssuy2
    · exact vcssuy3
  · intro k C h
    have := lk_mem h
    simp only [tmsuy, List.mem_cons, Prod.mk.injEq, List.not_mem_nil, or_false] at this
    rcases this with ⟨rfl, rfl⟩ | ⟨rfl, rfl⟩ | ⟨rfl, rfl⟩ | ⟨rfl, rfl⟩
    · exact lnsuy0
    · exact lnsuy1
    · exact lnsuy2
    · exact lnsuy3
noncomputable section
abbrev TTsux : Tab := TM oct.Φ cSu2.roms [cWorks, cRRead, cRSum, cOpenNo, cOpenZ, cOpenY, cSeal, cRSeal, cSealX, cRSealX, cSealNil, cOpenNil] [mFill2]
def tsux2 : Cfg := { top := ⟨35, over (opqS 10000 28) [(0, (SV.ptr 5 0)), (1, (SV.int .u32 (IE.lit 4294967295))), (9, (SV.rom 1 (IE.lit 0) (IE.lit 0) none)), (10, (SV.int .i64 (IE.lit 0))), (11, (SV.int .i64 (IE.lit 0)))], ogt (loopTodo (bodyOf (T oct.Φ [] []) 35) 0), [], false, none⟩, rest := [⟨34, over (opqS 30000 21) [(2, (SV.func (Go.Fn.func 35) [(SV.ptr 5 0)] [])), (9, (SV.slice 4 0 2 2)), (10, (SV.int .i64 (IE.lit 2))), (11, (SV.int .i64 (IE.lit 1)))], ogt (callTodo (bodyOf (T oct.Φ [] []) 34) 4 [3, 4]), [], false, none⟩, ⟨24, over (opqS 50000 10) [], ogt (callTodo (bodyOf (T oct.Φ [] []) 24) 1 [3, 4, 5]), [], false, none⟩, ⟨12, over (opqS 70000 7) [], ogt (callTodo (bodyOf (T oct.Φ [] []) 12) 3 [1, 2]), [], false, none⟩, ⟨3, over (opqS 90000 58) [(0, (SV.rom 0 (IE.lit 0) (IE.lit 0) none)), (1, (SV.rom 1 (IE.lit 0) (IE.lit 0) none)), (5, (SV.sl 2 3 1 0 0))], ogt (callTodo (bodyOf (T oct.Φ [] []) 3) 4 [3, 4, 5, 6, 7, 8, 9, 10, 11, 12, 13, 14, 15, 16, 17, 18, 19, 20, 21, 22, 23, 24, 25, 26, 27, 28, 29, 30, 31, 32, 33, 34, 35, 36, 37, 38, 39, 40, 41]), [], false, none⟩], heap := [(5, .rowl (LE.fn 2 (AL.int .i64 (IE.lit 256) AL.nil)) (IE.lit 256) [(CK.int .u32)] 55 6 1), (4, .cells [(SV.sl 2 3 1 0 0), (SV.rom 1 (IE.lit 0) (IE.lit 0) none)] 22), (2, .row [(SV.int .u8 (IE.lit 77))] 5 3 1)], next := 7, pc := .lit true :: ([] ++ []) }
def tsux3 : Cfg := { top := ⟨35, over (opqS 10000 28) [(0, (SV.ptr 9 0)), (1, (SV.int .u32 (IE.lit 4294967295))), (9, (SV.rom 1 (IE.lit 0) (IE.lit 0) none)), (10, (SV.int .i64 (IE.lit 0))), (11, (SV.int .i64 (IE.lit 0)))], ogt (loopTodo (bodyOf (T oct.Φ [] []) 35) 0), [], false, none⟩, rest := [⟨34, over (opqS 30000 21) [(2, (SV.func (Go.Fn.func 35) [(SV.ptr 9 0)] [])), (9, (SV.slice 8 0 1 1)), (10, (SV.int .i64 (IE.lit 1))), (11, (SV.int .i64 (IE.lit 0)))], ogt (callTodo (bodyOf (T oct.Φ [] []) 34) 4 [3, 4]), [], false, none⟩, ⟨24, over (opqS 50000 10) [], ogt (callTodo (bodyOf (T oct.Φ [] []) 24) 1 [3, 4, 5]), [], false, none⟩, ⟨12, over (opqS 70000 7) [], ogt (callTodo (bodyOf (T oct.Φ [] []) 12) 3 [1, 2]), [], false, none⟩, ⟨3, over (opqS 90000 58) [(0, (SV.rom 0 (IE.lit 0) (IE.lit 0) none)), (1, (SV.rom 1 (IE.lit 0) (IE.lit 0) none)), (5, (SV.sl 2 3 1 0 0)), (28, (SV.bool (BE.eq (IE.fn .u32 20 (AL.lst LE.nil AL.nil)) (IE.lit 0))))], ogt (callTodo (bodyOf (T oct.Φ [] []) 3) 4 [14, 15, 16, 17, 18, 19, 20, 21, 22, 23, 24, 25, 26, 27, 28, 29, 30, 31, 32, 33, 34, 35, 36, 37, 38, 39, 40, 41]), [], false, none⟩], heap := [(9, .rowl (LE.fn 2 (AL.int .i64 (IE.lit 256) AL.nil)) (IE.lit 256) [(CK.int .u32)] 55 10 1), (8, .cells [(SV.rom 1 (IE.lit 0) (IE.lit 0) none)] 22), (2, .row [(SV.int .u8 (IE.lit 77))] 5 3 1)], next := 11, pc := .lit true :: ([] ++ [(BE.eq (IE.fn .u32 20 (AL.lst LE.nil AL.nil)) (IE.lit 0))]) }
def tmsux : List (Nat × Cfg) := [(0, startF 3 cSu2.pat (.lit true :: cSu2.pre)), (2, tsux2), (3, tsux3)]
def selsux : Sel := [(35, 1, 34045004, 3), (35, 1, 1273004, 1), (35, 1, 1275004, 2)]
def wsux0_0 : VW := (VW.cut 2 [(BE.lit true)] (Sx.Sub.mk [] [] [] [] [] []))
def vwsux0 : List VW := [wsux0_0]
def pcsux2_0 : List BE := [(BE.lit true)]
def wsux2_0 : VW := (VW.cut 3 ((BE.eq (IE.fn .u32 20 (AL.lst LE.nil AL.nil)) (IE.lit 0)) :: pcsux2_0) (Sx.Sub.mk [] [] [] [] [] []))
def wsux2_1 : VW := (VW.done ((BE.not (BE.eq (IE.fn .u32 20 (AL.lst LE.nil AL.nil)) (IE.lit 0))) :: pcsux2_0) (some [(G.b (BE.lit true) (BE.lit false))]))
def vwsux2 : List VW := [wsux2_0, wsux2_1]
def pcsux3_0 : List BE := [(BE.lit true), (BE.eq (IE.fn .u32 20 (AL.lst LE.nil AL.nil)) (IE.lit 0))]
def wsux3_0 : VW := (VW.done ((BE.eq (IE.fn .u32 20 (AL.lst (LE.take (LE.rom 1) (IE.lit 0)) AL.nil)) (IE.lit 0)) :: pcsux3_0) (some []))
def wsux3_1 : VW := (VW.done ((BE.not (BE.eq (IE.fn .u32 20 (AL.lst (LE.take (LE.rom 1) (IE.lit 0)) AL.nil)) (IE.lit 0))) :: pcsux3_0) (some [(G.b (BE.lit true) (BE.lit false))]))
def vwsux3 : List VW := [wsux3_0, wsux3_1]
def vwsux : Nat → List VW
  | 0 => vwsux0
  | 2 => vwsux2
  | 3 => vwsux3
  | _ => []
end
def invsux : Nat → Lt → Prop
  | _, _ => True
def mssux : Nat → Lt → Nat
  | 0, l => 9
  | 2, l => 3
  | 3, l => 1
  | _, _ => 0
theorem vcsux0_0 : VC TTsux invsux mssux 0 (startF 3 cSu2.pat (.lit true :: cSu2.pre)) wsux0_0 := by
  intro ρ kn hi hp
  have hF : ρ.z.F = oct.Φ := kn.F
  simp only [h_nil, h_cons, d_le, d_eq, d_not, d_var, d_lit, d_cel, d_leq, d_fn, d_and, d_iff, IE.den, LE.den, AL.den, lenV, true_and, and_true, hF, pi2, pi3, pi4, pi5, pi6, pi7, pi20, pl1, pi21, pi22, pl2, cE, cN, cV, cO, cM, sum_in, List.map_cons, List.map_nil, AV.cell] at hp
  refine (show (True) ∧ ((3 : Nat) < 9) from ?_)
  exact ⟨trivial, by omega⟩
theorem vcsux2_0 : VC TTsux invsux mssux 2 tsux2 wsux2_0 := by
  intro ρ kn hi hp
  have hF : ρ.z.F = oct.Φ := kn.F
  simp only [h_nil, h_cons, d_le, d_eq, d_not, d_var, d_lit, d_cel, d_leq, d_fn, d_and, d_iff, IE.den, LE.den, AL.den, lenV, true_and, and_true, pcsux2_0, hF, pi2, pi3, pi4, pi5, pi6, pi7, pi20, pl1, pi21, pi22, pl2, cE, cN, cV, cO, cM, sum_in, List.map_cons, List.map_nil, AV.cell] at hp
  have p1 := hp
  refine (show (True) ∧ ((1 : Nat) < 3) from ?_)
  exact ⟨trivial, by omega⟩
theorem vcsux2_1 : VC TTsux invsux mssux 2 tsux2 wsux2_1 := by
  intro ρ kn hi hp
  have hF : ρ.z.F = oct.Φ := kn.F
  simp only [h_nil, h_cons, d_le, d_eq, d_not, d_var, d_lit, d_cel, d_leq, d_fn, d_and, d_iff, IE.den, LE.den, AL.den, lenV, true_and, and_true, pcsux2_0, hF, pi2, pi3, pi4, pi5, pi6, pi7, pi20, pl1, pi21, pi22, pl2, cE, cN, cV, cO, cM, sum_in, List.map_cons, List.map_nil, AV.cell] at hp
  have p1 := hp
  exfalso
  exact p1 rfl
theorem vcsux3_1 : VC TTsux invsux mssux 3 tsux3 wsux3_1 := by
  intro ρ kn hi hp
  have hF : ρ.z.F = oct.Φ := kn.F
  simp only [h_nil, h_cons, d_le, d_eq, d_not, d_var, d_lit, d_cel, d_leq, d_fn, d_and, d_iff, IE.den, LE.den, AL.den, lenV, true_and, and_true, pcsux3_0, hF, pi2, pi3, pi4, pi5, pi6, pi7, pi20, pl1, pi21, pi22, pl2, cE, cN, cV, cO, cM, sum_in, List.map_cons, List.map_nil, AV.cell] at hp
  obtain ⟨p1, p2⟩ := hp
  exfalso
  exact p1 rfl
theorem vcssux0 : ∀ v ∈ vwsux 0, VC TTsux invsux mssux 0 (startF 3 cSu2.pat (.lit true :: cSu2.pre)) v := all_cons vcsux0_0 (all_nil)
theorem oksux0 : cfgOk (startF 3 cSu2.pat (.lit true :: cSu2.pre)) = true := by kernel_rfl
theorem sgsux0 : segL cSu2.roms cSu2 (seg TTsux selsux 9000 tmsux (startF 3 cSu2.pat (.lit true :: cSu2.pre))) = (true, codesR tmsux (views (seg TTsux selsux 9000 tmsux (startF 3 cSu2.pat (.lit true :: cSu2.pre)))), vwsux 0) := by kernel_rfl
theorem vcssux2 : ∀ v ∈ vwsux 2, VC TTsux invsux mssux 2 tsux2 v := all_cons vcsux2_0 (all_cons vcsux2_1 (all_nil))
theorem oksux2 : cfgOk tsux2 = true := by kernel_rfl
theorem sgsux2 : segL cSu2.roms cSu2 (seg TTsux selsux 9000 tmsux tsux2) = (true, codesR tmsux (views (seg TTsux selsux 9000 tmsux tsux2)), vwsux 2) := by kernel_rfl
theorem vcssux3 : ∀ v ∈ vwsux 3, VC TTsux invsux mssux 3 tsux3 v := all_cons (fun _ _ _ _ => all_nil) (all_cons vcsux3_1 (all_nil))
theorem oksux3 : cfgOk tsux3 = true := by kernel_rfl
theorem sgsux3 : segL cSu2.roms cSu2 (seg TTsux selsux 9000 tmsux tsux3) = (true, codesR tmsux (views (seg TTsux selsux 9000 tmsux tsux3)), vwsux 3) := by kernel_rfl
theorem lnsux0 : ∀ ρ, Known TTsux (startF 3 cSu2.pat (.lit true :: cSu2.pre)) ρ → invsux 0 ρ.lt → Holds ρ (leanOf (Cfg.pc (startF 3 cSu2.pat (.lit true :: cSu2.pre)))) := by
  intro ρ _ _
  exact (show Holds ρ [] from fun p hp => by cases hp)
theorem lnsux2 : ∀ ρ, Known TTsux tsux2 ρ → invsux 2 ρ.lt → Holds ρ (leanOf (Cfg.pc tsux2)) := by
  intro ρ _ _
  exact (show Holds ρ [] from fun p hp => by cases hp)
theorem lnsux3 : ∀ ρ, Known TTsux tsux3 ρ → invsux 3 ρ.lt → Holds ρ (leanOf (Cfg.pc tsux3)) := by
  intro ρ _ _
  exact (show Holds ρ [] from fun p hp => by cases hp)
theorem told_sux : Sx.Told oct.Φ cSu2 := by
  refine told_ofM (cs := [cWorks, cRRead, cRSum, cOpenNo, cOpenZ, cOpenY, cSeal, cRSeal, cSealX, cRSealX, cSealNil, cOpenNil]) (ms' := [mFill2]) (all_cons told_works (all_cons told_rread (all_cons told_rsum (all_cons told_opno (all_cons told_opz (all_cons told_opy (all_cons told_seal (all_cons told_rseal (all_cons told_sealx (all_cons told_rsealx (all_cons told_sealnil (all_cons told_opnil (all_nil))))))))))))) (all_cons told_mfilt (all_nil)) (sel := selsux) 9000 tmsux invsux mssux vwsux 0 (pc0 := (.lit true :: cSu2.pre)) (by kernel_rfl) (by kernel_rfl) (by kernel_rfl) (post_nil rfl) ?_ ?_ ?_ rfl (fun ρ _ h => h.cons (p := .lit true) (by simp only [BE.den])) (fun _ _ _ _ => trivial) ?_
  · intro k C h
    have := lk_mem h
    simp only [tmsux, List.mem_cons, Prod.mk.injEq, List.not_mem_nil, or_false] at this
    rcases this with ⟨rfl, rfl⟩ | ⟨rfl, rfl⟩ | ⟨rfl, rfl⟩
    · exact oksux0
    · exact oksux2
    · exact oksux3
  · intro k C h
    have := lk_mem h
    simp only [tmsux, List.mem_cons, Prod.mk.injEq, List.not_mem_nil, or_false] at this
    rcases this with ⟨rfl, rfl⟩ | ⟨rfl, rfl⟩ | ⟨rfl, rfl⟩
    · exact sgsux0
    · exact sgsux2
    · exact sgsux3
  · intro k C h
    have := lk_mem h
    simp only [tmsux, List.mem_cons, Prod.mk.injEq, List.not_mem_nil, or_false] at this
    rcases this with ⟨rfl, rfl⟩ | ⟨rfl, rfl⟩ | ⟨rfl, rfl⟩
    · exact vcssux0
    · exact vcssux2
    · exact vcssux3
  · intro k C h
    have := lk_mem h
    simp only [tmsux, List.mem_cons, Prod.mk.injEq, List.not_mem_nil, or_false] at this
    rcases this with ⟨rfl, rfl⟩ | ⟨rfl, rfl⟩ | ⟨rfl, rfl⟩
    · exact lnsux0
    · exact lnsux2
    · exact lnsux3
noncomputable section
abbrev TTlng : Tab := T oct.Φ cLong.roms [cWorks, cRRead, cRSum, cOpenNo, cOpenZ, cOpenY, cSeal, cRSeal, cSealX, cRSealX, cSealNil, cOpenNil, cRNumber]
def tlng1 : Cfg := { top := ⟨7, over (opqS 10000 75) [(0, (SV.int .u8 (IE.var .u8 1))), (1, (SV.int .i64 (IE.var .i64 2))), (5, (SV.sll 0 1 1 (IE.lit 0) (IE.len (LE.var 1001)) none)), (6, (SV.int .i64 (IE.var .i64 1002)))], ogt (loopTodo (bodyOf (T oct.Φ [] []) 7) 0), [], false, none⟩, rest := [], heap := [(0, .rowl (LE.var 1001) (IE.len (LE.var 1001)) [(CK.int .u8)] 5 1 1)], next := 2, pc := .lit true :: ([] ++ [(BE.le (IE.lit (-1)) (IE.var .i64 2)), (BE.le (IE.var .i64 2) (IE.lit 1)), (BE.le (IE.lit 0) (IE.var .i64 1002))] ++ (.and (.lit true) (.lit true)) :: [.le (.len (.var 1001)) (.lit 65537)]) }
def tmlng : List (Nat × Cfg) := [(0, startF 7 cLong.pat (.lit true :: cLong.pre)), (1, tlng1)]
def sellng : Sel := [(7, 1, 0, 1)]
def pclng0_0 : List BE := [(BE.lit true)]
def pclng0_1 : List BE := ((BE.le (IE.lit (-1)) (IE.var .i64 2)) :: pclng0_0)
def wlng0_0 : VW := (VW.cut 1 ((BE.le (IE.var .i64 2) (IE.lit 1)) :: pclng0_1) (Sx.Sub.mk [(.i64, (1002, (IE.lit 0)))] [] [(1001, (LE.rep (AL.int .u8 (IE.lit 0) AL.nil) (IE.add (IE.lit 65536) (IE.var .i64 2))))] [] [] []))
def wlng0_1 : VW := (VW.done ((BE.not (BE.le (IE.var .i64 2) (IE.lit 1))) :: pclng0_1) (some []))
def wlng0_2 : VW := (VW.done ((BE.not (BE.le (IE.lit (-1)) (IE.var .i64 2))) :: pclng0_0) (some []))
def vwlng0 : List VW := [wlng0_0, wlng0_1, wlng0_2]
def pclng1_0 : List BE := [(BE.lit true), (BE.le (IE.lit (-1)) (IE.var .i64 2)), (BE.le (IE.var .i64 2) (IE.lit 1)), (BE.le (IE.lit 0) (IE.var .i64 1002)), (BE.and (BE.lit true) (BE.lit true)), (BE.le (IE.len (LE.var 1001)) (IE.lit 65537))]
def pclng1_1 : List BE := ((BE.le (IE.len (LE.var 1001)) (IE.var .i64 1002)) :: pclng1_0)
def pclng1_2 : List BE := ((BE.le (IE.lit 1) (IE.len (LE.fn 1 (AL.int .u64 (IE.lit 65537) AL.nil)))) :: (BE.le (IE.len (LE.fn 1 (AL.int .u64 (IE.lit 65537) AL.nil))) (IE.lit 10)) :: (BE.not (BE.le (IE.len (LE.var 1001)) (IE.lit 65536))) :: pclng1_1)
def pclng1_3 : List BE := ((BE.eq (IE.fn .i64 21 (AL.lst (LE.cat (LE.fn 1 (AL.int .u64 (IE.lit 65537) AL.nil)) (LE.var 1001)) AL.nil)) (IE.lit 0)) :: pclng1_2)
def pclng1_4 : List BE := ((BE.not (BE.eq (IE.fn .i64 21 (AL.lst (LE.cat (LE.fn 1 (AL.int .u64 (IE.lit 65537) AL.nil)) (LE.var 1001)) AL.nil)) (IE.lit 0))) :: pclng1_2)
def pclng1_5 : List BE := ((BE.le (IE.lit 1) (IE.len (LE.fn 1 (AL.int .u64 (IE.lit 65537) AL.nil)))) :: (BE.le (IE.len (LE.fn 1 (AL.int .u64 (IE.lit 65537) AL.nil))) (IE.lit 10)) :: (BE.le (IE.add (IE.len (LE.var 1001)) (IE.lit 5)) (IE.len (LE.fn 3 (AL.lst (LE.var 1001) AL.nil)))) :: (BE.le (IE.len (LE.fn 3 (AL.lst (LE.var 1001) AL.nil))) (IE.add (IE.len (LE.var 1001)) (IE.lit 14))) :: (BE.le (IE.len (LE.var 1001)) (IE.lit 65536)) :: pclng1_1)
def pclng1_6 : List BE := ((BE.eq (IE.fn .i64 21 (AL.lst (LE.cat (LE.fn 1 (AL.int .u64 (IE.lit 65537) AL.nil)) (LE.var 1001)) AL.nil)) (IE.lit 3)) :: pclng1_4)
def pclng1_7 : List BE := ((BE.le (IE.add (IE.len (LE.fn 1 (AL.int .u64 (IE.lit 65537) AL.nil))) (IE.len (LE.var 1001))) (IE.len (LE.fn 1 (AL.int .u64 (IE.lit 65537) AL.nil)))) :: pclng1_5)
def pclng1_8 : List BE := ((BE.not (BE.le (IE.add (IE.len (LE.fn 1 (AL.int .u64 (IE.lit 65537) AL.nil))) (IE.len (LE.var 1001))) (IE.len (LE.fn 1 (AL.int .u64 (IE.lit 65537) AL.nil))))) :: pclng1_5)
def pclng1_9 : List BE := ((BE.eq (IE.fn .i64 21 (AL.lst (LE.cat (LE.fn 1 (AL.int .u64 (IE.lit 65537) AL.nil)) (LE.var 1001)) AL.nil)) (IE.lit 0)) :: pclng1_7)
def pclng1_10 : List BE := ((BE.not (BE.eq (IE.fn .i64 21 (AL.lst (LE.cat (LE.fn 1 (AL.int .u64 (IE.lit 65537) AL.nil)) (LE.var 1001)) AL.nil)) (IE.lit 0))) :: pclng1_7)
def pclng1_11 : List BE := ((BE.eq (IE.fn .i64 21 (AL.lst (LE.cat (LE.fn 1 (AL.int .u64 (IE.lit 65537) AL.nil)) (LE.var 1001)) AL.nil)) (IE.lit 0)) :: pclng1_8)
def pclng1_12 : List BE := ((BE.not (BE.eq (IE.fn .i64 21 (AL.lst (LE.cat (LE.fn 1 (AL.int .u64 (IE.lit 65537) AL.nil)) (LE.var 1001)) AL.nil)) (IE.lit 0))) :: pclng1_8)
def pclng1_13 : List BE := ((BE.eq (IE.fn .i64 21 (AL.lst (LE.cat (LE.fn 1 (AL.int .u64 (IE.lit 65537) AL.nil)) (LE.var 1001)) AL.nil)) (IE.lit 3)) :: pclng1_10)
def pclng1_14 : List BE := ((BE.eq (IE.fn .i64 21 (AL.lst (LE.cat (LE.fn 1 (AL.int .u64 (IE.lit 65537) AL.nil)) (LE.var 1001)) AL.nil)) (IE.lit 3)) :: pclng1_12)
def pclng1_15 : List BE := ((BE.le (IE.var .i64 2) (IE.lit 0)) :: pclng1_13)
def pclng1_16 : List BE := ((BE.le (IE.var .i64 2) (IE.lit 0)) :: pclng1_14)
def wlng1_0 : VW := (VW.done ((BE.le (IE.lit 5) (IE.fn .i64 22 (AL.lst (LE.cat (LE.fn 1 (AL.int .u64 (IE.lit 65537) AL.nil)) (LE.var 1001)) AL.nil))) :: (BE.le (IE.fn .i64 22 (AL.lst (LE.cat (LE.fn 1 (AL.int .u64 (IE.lit 65537) AL.nil)) (LE.var 1001)) AL.nil)) (IE.add (IE.len (LE.fn 1 (AL.int .u64 (IE.lit 65537) AL.nil))) (IE.len (LE.var 1001)))) :: (BE.eq (IE.len (LE.fn 5 (AL.lst (LE.cat (LE.fn 1 (AL.int .u64 (IE.lit 65537) AL.nil)) (LE.var 1001)) AL.nil))) (IE.lit 0)) :: pclng1_9) (some [(G.b (BE.lit true) (BE.lit false))]))
def wlng1_1 : VW := (VW.done ((BE.le (IE.lit 5) (IE.fn .i64 22 (AL.lst (LE.cat (LE.fn 1 (AL.int .u64 (IE.lit 65537) AL.nil)) (LE.var 1001)) AL.nil))) :: (BE.le (IE.fn .i64 22 (AL.lst (LE.cat (LE.fn 1 (AL.int .u64 (IE.lit 65537) AL.nil)) (LE.var 1001)) AL.nil)) (IE.add (IE.len (LE.fn 1 (AL.int .u64 (IE.lit 65537) AL.nil))) (IE.len (LE.var 1001)))) :: (BE.not (BE.eq (IE.len (LE.fn 5 (AL.lst (LE.cat (LE.fn 1 (AL.int .u64 (IE.lit 65537) AL.nil)) (LE.var 1001)) AL.nil))) (IE.lit 0))) :: pclng1_9) (some [(G.b (BE.lit true) (BE.lit false))]))
def wlng1_2 : VW := (VW.done ((BE.eq (IE.len (LE.fn 3 (AL.lst (LE.var 1001) AL.nil))) (IE.add (IE.len (LE.var 1001)) (IE.lit 7))) :: pclng1_15) (some []))
def wlng1_3 : VW := (VW.done ((BE.not (BE.eq (IE.len (LE.fn 3 (AL.lst (LE.var 1001) AL.nil))) (IE.add (IE.len (LE.var 1001)) (IE.lit 7)))) :: pclng1_15) (some [(G.b (BE.lit true) (BE.lit false))]))
def wlng1_4 : VW := (VW.done ((BE.not (BE.le (IE.var .i64 2) (IE.lit 0))) :: pclng1_13) (some [(G.b (BE.lit true) (BE.lit false))]))
def wlng1_5 : VW := (VW.done ((BE.not (BE.eq (IE.fn .i64 21 (AL.lst (LE.cat (LE.fn 1 (AL.int .u64 (IE.lit 65537) AL.nil)) (LE.var 1001)) AL.nil)) (IE.lit 3))) :: pclng1_10) (some [(G.b (BE.lit true) (BE.lit false))]))
def wlng1_6 : VW := (VW.done ((BE.le (IE.lit 5) (IE.fn .i64 22 (AL.lst (LE.cat (LE.fn 1 (AL.int .u64 (IE.lit 65537) AL.nil)) (LE.var 1001)) AL.nil))) :: (BE.le (IE.fn .i64 22 (AL.lst (LE.cat (LE.fn 1 (AL.int .u64 (IE.lit 65537) AL.nil)) (LE.var 1001)) AL.nil)) (IE.add (IE.len (LE.fn 1 (AL.int .u64 (IE.lit 65537) AL.nil))) (IE.len (LE.var 1001)))) :: (BE.eq (IE.len (LE.fn 5 (AL.lst (LE.cat (LE.fn 1 (AL.int .u64 (IE.lit 65537) AL.nil)) (LE.var 1001)) AL.nil))) (IE.lit 0)) :: pclng1_11) (some [(G.b (BE.lit true) (BE.lit false))]))
def wlng1_7 : VW := (VW.done ((BE.le (IE.lit 5) (IE.fn .i64 22 (AL.lst (LE.cat (LE.fn 1 (AL.int .u64 (IE.lit 65537) AL.nil)) (LE.var 1001)) AL.nil))) :: (BE.le (IE.fn .i64 22 (AL.lst (LE.cat (LE.fn 1 (AL.int .u64 (IE.lit 65537) AL.nil)) (LE.var 1001)) AL.nil)) (IE.add (IE.len (LE.fn 1 (AL.int .u64 (IE.lit 65537) AL.nil))) (IE.len (LE.var 1001)))) :: (BE.not (BE.eq (IE.len (LE.fn 5 (AL.lst (LE.cat (LE.fn 1 (AL.int .u64 (IE.lit 65537) AL.nil)) (LE.var 1001)) AL.nil))) (IE.lit 0))) :: pclng1_11) (some [(G.b (BE.lit true) (BE.lit false))]))
def wlng1_8 : VW := (VW.done ((BE.eq (IE.len (LE.fn 3 (AL.lst (LE.var 1001) AL.nil))) (IE.add (IE.len (LE.var 1001)) (IE.lit 7))) :: pclng1_16) (some []))
def wlng1_9 : VW := (VW.done ((BE.not (BE.eq (IE.len (LE.fn 3 (AL.lst (LE.var 1001) AL.nil))) (IE.add (IE.len (LE.var 1001)) (IE.lit 7)))) :: pclng1_16) (some [(G.b (BE.lit true) (BE.lit false))]))
def wlng1_10 : VW := (VW.done ((BE.not (BE.le (IE.var .i64 2) (IE.lit 0))) :: pclng1_14) (some [(G.b (BE.lit true) (BE.lit false))]))
def wlng1_11 : VW := (VW.done ((BE.not (BE.eq (IE.fn .i64 21 (AL.lst (LE.cat (LE.fn 1 (AL.int .u64 (IE.lit 65537) AL.nil)) (LE.var 1001)) AL.nil)) (IE.lit 3))) :: pclng1_12) (some [(G.b (BE.lit true) (BE.lit false))]))
def wlng1_12 : VW := (VW.done ((BE.le (IE.lit 5) (IE.fn .i64 22 (AL.lst (LE.cat (LE.fn 1 (AL.int .u64 (IE.lit 65537) AL.nil)) (LE.var 1001)) AL.nil))) :: (BE.le (IE.fn .i64 22 (AL.lst (LE.cat (LE.fn 1 (AL.int .u64 (IE.lit 65537) AL.nil)) (LE.var 1001)) AL.nil)) (IE.add (IE.len (LE.fn 1 (AL.int .u64 (IE.lit 65537) AL.nil))) (IE.len (LE.var 1001)))) :: (BE.eq (IE.len (LE.fn 5 (AL.lst (LE.cat (LE.fn 1 (AL.int .u64 (IE.lit 65537) AL.nil)) (LE.var 1001)) AL.nil))) (IE.lit 0)) :: pclng1_3) (some [(G.b (BE.lit true) (BE.lit false))]))
def wlng1_13 : VW := (VW.done ((BE.le (IE.lit 5) (IE.fn .i64 22 (AL.lst (LE.cat (LE.fn 1 (AL.int .u64 (IE.lit 65537) AL.nil)) (LE.var 1001)) AL.nil))) :: (BE.le (IE.fn .i64 22 (AL.lst (LE.cat (LE.fn 1 (AL.int .u64 (IE.lit 65537) AL.nil)) (LE.var 1001)) AL.nil)) (IE.add (IE.len (LE.fn 1 (AL.int .u64 (IE.lit 65537) AL.nil))) (IE.len (LE.var 1001)))) :: (BE.not (BE.eq (IE.len (LE.fn 5 (AL.lst (LE.cat (LE.fn 1 (AL.int .u64 (IE.lit 65537) AL.nil)) (LE.var 1001)) AL.nil))) (IE.lit 0))) :: pclng1_3) (some [(G.b (BE.lit true) (BE.lit false))]))
def wlng1_14 : VW := (VW.done ((BE.le (IE.var .i64 2) (IE.lit 0)) :: pclng1_6) (some [(G.b (BE.lit true) (BE.lit false))]))
def wlng1_15 : VW := (VW.done ((BE.not (BE.le (IE.var .i64 2) (IE.lit 0))) :: pclng1_6) (some []))
def wlng1_16 : VW := (VW.done ((BE.not (BE.eq (IE.fn .i64 21 (AL.lst (LE.cat (LE.fn 1 (AL.int .u64 (IE.lit 65537) AL.nil)) (LE.var 1001)) AL.nil)) (IE.lit 3))) :: pclng1_4) (some [(G.b (BE.lit true) (BE.lit false))]))
def wlng1_17 : VW := (VW.cut 1 ((BE.not (BE.le (IE.len (LE.var 1001)) (IE.var .i64 1002))) :: pclng1_0) (Sx.Sub.mk [(.i64, (1002, (IE.add (IE.var .i64 1002) (IE.lit 1))))] [] [(1001, (LE.set (LE.var 1001) (IE.var .i64 1002) (AL.int .u8 (IE.var .u8 1) AL.nil)))] [] [] []))
def vwlng1 : List VW := [wlng1_0, wlng1_1, wlng1_2, wlng1_3, wlng1_4, wlng1_5, wlng1_6, wlng1_7, wlng1_8, wlng1_9, wlng1_10, wlng1_11, wlng1_12, wlng1_13, wlng1_14, wlng1_15, wlng1_16, wlng1_17]
def vwlng : Nat → List VW
  | 0 => vwlng0
  | 1 => vwlng1
  | _ => []
end
def invlng : Nat → Lt → Prop
  | 1, l => (((l.l 1001).length : Nat) : Int) = 65536 + (l.i .i64 2) ∧ -1 ≤ (l.i .i64 2) ∧ (l.i .i64 2) ≤ 1
  | _, _ => True
def mslng : Nat → Lt → Nat
  | 0, l => 80000
  | 1, l => (70000 - (l.i .i64 1002)).toNat
  | _, _ => 0
theorem vclng0_0 : VC TTlng invlng mslng 0 (startF 7 cLong.pat (.lit true :: cLong.pre)) wlng0_0 := by
  intro ρ kn hi hp
  have hF : ρ.z.F = oct.Φ := kn.F
  simp only [h_nil, h_cons, d_le, d_eq, d_not, d_var, d_lit, d_cel, d_leq, d_fn, d_and, d_iff, IE.den, LE.den, AL.den, lenV, true_and, and_true, pclng0_1, pclng0_0, hF, pi2, pi3, pi4, pi5, pi6, pi7, pi20, pl1, pi21, pi22, pl2, cE, cN, cV, cO, cM, sum_in, List.map_cons, List.map_nil, AV.cell] at hp
  obtain ⟨p1, p2⟩ := hp
  refine (show ((((List.replicate ((65536 : Int) + (ρ.i .i64 2)).toNat [Go.Value.int .u8 (0 : Int)]).length : Nat) : Int) = 65536 + (ρ.i .i64 2) ∧ -1 ≤ (ρ.i .i64 2) ∧ (ρ.i .i64 2) ≤ 1) ∧ (((70000 - (0 : Int)).toNat : Nat) < 80000) from ?_)
  exact ⟨⟨by rw [List.length_replicate]; omega, by omega, by omega⟩, by omega⟩
def ivlng1 (ρ : Rho) : Prop := (((ρ.l 1001).length : Nat) : Int) = 65536 + (ρ.i .i64 2) ∧ -1 ≤ (ρ.i .i64 2) ∧ (ρ.i .i64 2) ≤ 1
theorem vcglng1_0 : VC TTlng invlng mslng 1 tlng1 wlng1_0 ∧ VC TTlng invlng mslng 1 tlng1 wlng1_1 ∧ VC TTlng invlng mslng 1 tlng1 wlng1_3 ∧ VC TTlng invlng mslng 1 tlng1 wlng1_4 ∧ VC TTlng invlng mslng 1 tlng1 wlng1_5 ∧ VC TTlng invlng mslng 1 tlng1 wlng1_6 ∧ VC TTlng invlng mslng 1 tlng1 wlng1_7 ∧ VC TTlng invlng mslng 1 tlng1 wlng1_9 ∧ VC TTlng invlng mslng 1 tlng1 wlng1_10 ∧ VC TTlng invlng mslng 1 tlng1 wlng1_11 ∧ VC TTlng invlng mslng 1 tlng1 wlng1_12 ∧ VC TTlng invlng mslng 1 tlng1 wlng1_13 ∧ VC TTlng invlng mslng 1 tlng1 wlng1_14 ∧ VC TTlng invlng mslng 1 tlng1 wlng1_16 := by
  refine ⟨?_, ?_, ?_, ?_, ?_, ?_, ?_, ?_, ?_, ?_, ?_, ?_, ?_, ?_⟩
  all_goals
    intro ρ kn hi hp
    have hi : ivlng1 ρ := hi
    unfold ivlng1 at hi
    have hF : ρ.z.F = oct.Φ := kn.F
    simp only [h_nil, h_cons, d_le, d_eq, d_not, d_var, d_lit, d_cel, d_leq, d_fn, d_and, d_iff, IE.den, LE.den, AL.den, lenV, true_and, and_true, pclng1_9, pclng1_7, pclng1_5, pclng1_1, pclng1_0, pclng1_15, pclng1_13, pclng1_10, pclng1_11, pclng1_8, pclng1_16, pclng1_14, pclng1_12, pclng1_3, pclng1_2, pclng1_6, pclng1_4, hF, pi2, pi3, pi4, pi5, pi6, pi7, pi20, pl1, pi21, pi22, pl2, cE, cN, cV, cO, cM, sum_in, List.map_cons, List.map_nil, AV.cell] at hp
    have p1 := And.left hp
    replace hp := And.right hp
    repeat (have _ := And.left hp; replace hp := And.right hp)
    exfalso
    obtain ⟨h1, h2, h3⟩ := hi
    have hT : Typed byteK (ρ.l 1001) := kn.ok.lodd 1001 rfl
    obtain ⟨r1, r2, r3⟩ := read_back (n := 65537) (by omega) (by omega) (ρ.l 1001)
    have hE := opE_b r3 (by omega)
    have hc : clampK .u64 ((ρ.l 1001).length : Int) = ((ρ.l 1001).length : Int) := u64_in ⟨by omega, by omega⟩
    have hs := seal_len (ρ.l 1001)
    rw [hc, num3 (by omega) (by omega)] at hs
    try simp only [c65537, pl3t hT] at *
    omega
theorem vclng1_17 : VC TTlng invlng mslng 1 tlng1 wlng1_17 := by
  intro ρ kn hi hp
  have hi : ivlng1 ρ := hi
  unfold ivlng1 at hi
  have hF : ρ.z.F = oct.Φ := kn.F
  simp only [h_nil, h_cons, d_le, d_eq, d_not, d_var, d_lit, d_cel, d_leq, d_fn, d_and, d_iff, IE.den, LE.den, AL.den, lenV, true_and, and_true, pclng1_0, hF, pi2, pi3, pi4, pi5, pi6, pi7, pi20, pl1, pi21, pi22, pl2, cE, cN, cV, cO, cM, sum_in, List.map_cons, List.map_nil, AV.cell] at hp
  obtain ⟨p1, p2, p3, p4, p5⟩ := hp
  refine (show (((((ρ.l 1001).set (ρ.i .i64 1002).toNat [Go.Value.int .u8 (ρ.i .u8 1)]).length : Nat) : Int) = 65536 + (ρ.i .i64 2) ∧ -1 ≤ (ρ.i .i64 2) ∧ (ρ.i .i64 2) ≤ 1) ∧ (((70000 - ((ρ.i .i64 1002) + (1 : Int))).toNat : Nat) < (70000 - (ρ.i .i64 1002)).toNat) from ?_)
  obtain ⟨h1, h2, h3⟩ := hi
  exact ⟨⟨by rw [List.length_set]; exact h1, h2, h3⟩, by omega⟩
theorem vcslng0 : ∀ v ∈ vwlng 0, VC TTlng invlng mslng 0 (startF 7 cLong.pat (.lit true :: cLong.pre)) v := all_cons vclng0_0 (all_cons (fun _ _ _ _ => all_nil) (all_cons (fun _ _ _ _ => all_nil) (all_nil)))
theorem oklng0 : cfgOk (startF 7 cLong.pat (.lit true :: cLong.pre)) = true := by kernel_rfl
theorem sglng0 : segL cLong.roms cLong (seg TTlng sellng 9000 tmlng (startF 7 cLong.pat (.lit true :: cLong.pre))) = (true, codesR tmlng (views (seg TTlng sellng 9000 tmlng (startF 7 cLong.pat (.lit true :: cLong.pre)))), vwlng 0) := by kernel_rfl
theorem vcslng1 : ∀ v ∈ vwlng 1, VC TTlng invlng mslng 1 tlng1 v := all_cons vcglng1_0.1 (all_cons vcglng1_0.2.1 (all_cons (fun _ _ _ _ => all_nil) (all_cons vcglng1_0.2.2.1 (all_cons vcglng1_0.2.2.2.1 (all_cons vcglng1_0.2.2.2.2.1 (all_cons vcglng1_0.2.2.2.2.2.1 (all_cons vcglng1_0.2.2.2.2.2.2.1 (all_cons (fun _ _ _ _ => all_nil) (all_cons vcglng1_0.2.2.2.2.2.2.2.1 (all_cons vcglng1_0.2.2.2.2.2.2.2.2.1 (all_cons vcglng1_0.2.2.2.2.2.2.2.2.2.1 (all_cons vcglng1_0.2.2.2.2.2.2.2.2.2.2.1 (all_cons vcglng1_0.2.2.2.2.2.2.2.2.2.2.2.1 (all_cons vcglng1_0.2.2.2.2.2.2.2.2.2.2.2.2.1 (all_cons (fun _ _ _ _ => all_nil) (all_cons vcglng1_0.2.2.2.2.2.2.2.2.2.2.2.2.2 (all_cons vclng1_17 (all_nil))))))))))))))))))
theorem oklng1 : cfgOk tlng1 = true := by kernel_rfl
theorem sglng1 : segL cLong.roms cLong (seg TTlng sellng 9000 tmlng tlng1) = (true, codesR tmlng (views (seg TTlng sellng 9000 tmlng tlng1)), vwlng 1) := by kernel_rfl
theorem lnlng0 : ∀ ρ, Known TTlng (startF 7 cLong.pat (.lit true :: cLong.pre)) ρ → invlng 0 ρ.lt → Holds ρ (leanOf (Cfg.pc (startF 7 cLong.pat (.lit true :: cLong.pre)))) := by
  intro ρ _ _
  exact (show Holds ρ [] from fun p hp => by cases hp)
theorem lnlng1 : ∀ ρ, Known TTlng tlng1 ρ → invlng 1 ρ.lt → Holds ρ (leanOf (Cfg.pc tlng1)) := by
  intro ρ kn hi
  refine (show Holds ρ [.le (.len (.var 1001)) (.lit 65537)] from ?_)
  have hi : (((ρ.l 1001).length : Nat) : Int) = 65536 + (ρ.i .i64 2) ∧ -1 ≤ (ρ.i .i64 2) ∧ (ρ.i .i64 2) ≤ 1 := hi
  have hF : ρ.z.F = oct.Φ := kn.F
  simp only [h_nil, h_cons, d_le, d_eq, d_not, d_var, d_lit, d_cel, d_leq, d_fn, d_and, d_iff, IE.den, LE.den, AL.den, lenV, true_and, and_true, hF, pi2, pi3, pi4, pi5, pi6, pi7, pi20, pl1, pi21, pi22, pl2, cE, cN, cV, cO, cM, sum_in, List.map_cons, List.map_nil, AV.cell]
  omega
theorem told_lng : Sx.Told oct.Φ cLong := by
  refine told_of (cs := [cWorks, cRRead, cRSum, cOpenNo, cOpenZ, cOpenY, cSeal, cRSeal, cSealX, cRSealX, cSealNil, cOpenNil, cRNumber]) (all_cons told_works (all_cons told_rread (all_cons told_rsum (all_cons told_opno (all_cons told_opz (all_cons told_opy (all_cons told_seal (all_cons told_rseal (all_cons told_sealx (all_cons told_rsealx (all_cons told_sealnil (all_cons told_opnil (all_cons told_rnumber (all_nil)))))))))))))) (sel := sellng) 9000 tmlng invlng mslng vwlng 0 (pc0 := (.lit true :: cLong.pre)) (by kernel_rfl) (by kernel_rfl) (by kernel_rfl) (post_nil rfl) ?_ ?_ ?_ rfl (fun ρ _ h => h.cons (p := .lit true) (by simp only [BE.den])) (fun _ _ _ _ => trivial) ?_
  · intro k C h
    have := lk_mem h
    simp only [tmlng, List.mem_cons, Prod.mk.injEq, List.not_mem_nil, or_false] at this
    rcases this with ⟨rfl, rfl⟩ | ⟨rfl, rfl⟩
    · exact oklng0
    · exact oklng1
  · intro k C h
    have := lk_mem h
    simp only [tmlng, List.mem_cons, Prod.mk.injEq, List.not_mem_nil, or_false] at this
    rcases this with ⟨rfl, rfl⟩ | ⟨rfl, rfl⟩
    · exact sglng0
    · exact sglng1
  · intro k C h
    have := lk_mem h
    simp only [tmlng, List.mem_cons, Prod.mk.injEq, List.not_mem_nil, or_false] at this
    rcases this with ⟨rfl, rfl⟩ | ⟨rfl, rfl⟩
    · exact vcslng0
    · exact vcslng1
  · intro k C h
    have := lk_mem h
    simp only [tmlng, List.mem_cons, Prod.mk.injEq, List.not_mem_nil, or_false] at this
    rcases this with ⟨rfl, rfl⟩ | ⟨rfl, rfl⟩
    · exact lnlng0
    · exact lnlng1
end Go.Proofs.Ythbnjmmkjpoahaa.oct
