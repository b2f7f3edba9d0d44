/- Layer hold: the law HoldEach, by loops. No condition. -/
import Derived.Test.YteblnjgghbclpaaDoorHg
import Derived.Test.YteblnjgghbclpaaDoorHw
set_option linter.unusedVariables false
set_option linter.unusedSimpArgs false
set_option linter.deprecated false
namespace Go.Proofs.YteblnjgghbclpaaDoor.hold
open Go Go.Proofs.YteblnjgghbclpaaDoor.Sx
theorem told_each0 : Sx.Told hold.Φ cEach0 := told_auto (cs := [cWorks]) (all_cons told_works (all_nil)) 20000 (by kernel_rfl) (by kernel_rfl) (by kernel_rfl) (post_nil rfl) (by kernel_rfl) (by kernel_rfl)
noncomputable section
def teach1 : Cfg := { top := ⟨104, over (opqS 10000 18) [(0, (SV.func (Go.Fn.yield 14) [] [])), (5, (SV.sll 4 5 3 (IE.lit 0) (IE.len (LE.rom 0)) none)), (6, (SV.int .i64 (IE.len (LE.rom 0)))), (7, (SV.int .i64 (IE.var .i64 1000)))], ogt (loopTodo (bodyOf (T hold.Φ [] []) 104) 0), [], false, none⟩, rest := [⟨88, over (opqS 30000 17) [], ogt (rangeTodo (bodyOf (T hold.Φ [] []) 88) 0 14), [13], false, none⟩, ⟨12, over (opqS 50000 82) [(3, (SV.ptr 0 0)), (4, (SV.ptr 1 0)), (5, (SV.ptr 2 0)), (6, (SV.func (Go.Fn.func 88) [] [(SV.ptr 6 0)])), (7, (SV.ptr 7 0)), (8, (SV.ptr 8 0))], ogt (rangeTodo (bodyOf (T hold.Φ [] []) 12) 0 10), [9], false, none⟩], heap := [(14, .loop .ready none 88 (over (opqS 200000 17) [(2, (SV.ptr 11 0))]) [10, 11] ((rangeCode (bodyOf (T hold.Φ [] []) 88) 0).getD (.skip, .skip)).1 ((rangeCode (bodyOf (T hold.Φ [] []) 88) 0).getD (.skip, .skip)).2 13), (4, .rowl (LE.rom 0) (IE.len (LE.rom 0)) [(CK.int .i64), (CK.int .i64), (CK.int .i64)] 68 5 3), (13, .defd true), (9, .defd true), (10, .loop .ready none 12 (over (opqS 280000 82) [(3, (SV.ptr 0 0)), (4, (SV.ptr 1 0)), (5, (SV.ptr 2 0)), (7, (SV.ptr 7 0)), (8, (SV.ptr 8 0))]) [27, 28] ((rangeCode (bodyOf (T hold.Φ [] []) 12) 0).getD (.skip, .skip)).1 ((rangeCode (bodyOf (T hold.Φ [] []) 12) 0).getD (.skip, .skip)).2 9), (0, .cells [(SV.int .i64 (IE.var .i64 1))] 3), (1, .cells [(SV.bool (BE.lit false))] 4), (2, .cells [(SV.rom 0 (IE.lit 0) (IE.len (LE.rom 0)) none)] 66), (6, .cells [(SV.sll 4 5 3 (IE.lit 0) (IE.len (LE.rom 0)) none)] 115), (7, .cells [(SV.int .i64 (IE.lit 0))] 3), (8, .cells [(SV.int .i64 (IE.var .i64 1000))] 3), (11, .cells [(SV.func (Go.Fn.yield 10) [] [])] 124)], next := 15, pc := .lit true :: ([] ++ [(BE.le (IE.lit 1) (IE.len (LE.rom 0))), (BE.le (IE.len (LE.rom 0)) (IE.lit 300)), (BE.fn 4 (AL.lst (LE.rom 0) AL.nil)), (BE.le (IE.lit 0) (IE.var .i64 1000)), (BE.le (IE.var .i64 1000) (IE.len (LE.rom 0)))]) }
def teach2 : Cfg := { top := ⟨104, over (opqS 10000 18) [(0, (SV.func (Go.Fn.yield 22) [] [])), (5, (SV.sll 4 5 3 (IE.lit 0) (IE.len (LE.rom 0)) none)), (6, (SV.int .i64 (IE.len (LE.rom 0)))), (7, (SV.int .i64 (IE.var .i64 281297)))], ogt (loopTodo (bodyOf (T hold.Φ [] []) 104) 0), [], false, none⟩, rest := [⟨88, over (opqS 30000 17) [], ogt (rangeTodo (bodyOf (T hold.Φ [] []) 88) 0 22), [21], false, none⟩, ⟨12, over (opqS 50000 82) [(3, (SV.ptr 0 0)), (4, (SV.ptr 1 0)), (5, (SV.ptr 2 0)), (6, (SV.func (Go.Fn.func 88) [] [(SV.ptr 6 0)])), (7, (SV.ptr 15 0)), (8, (SV.ptr 16 0))], ogt (rangeTodo (bodyOf (T hold.Φ [] []) 12) 0 18), [17, 9], false, none⟩], heap := [(22, .loop .ready none 88 (over (opqS 200000 17) [(2, (SV.ptr 19 0))]) [10, 11] ((rangeCode (bodyOf (T hold.Φ [] []) 88) 0).getD (.skip, .skip)).1 ((rangeCode (bodyOf (T hold.Φ [] []) 88) 0).getD (.skip, .skip)).2 21), (4, .rowl (LE.rom 0) (IE.len (LE.rom 0)) [(CK.int .i64), (CK.int .i64), (CK.int .i64)] 68 5 3), (21, .defd true), (17, .defd true), (9, .defd true), (18, .loop .ready none 12 (over (opqS 300000 82) [(3, (SV.ptr 0 0)), (4, (SV.ptr 1 0)), (5, (SV.ptr 2 0)), (7, (SV.ptr 15 0)), (8, (SV.ptr 16 0))]) [27, 28] ((rangeCode (bodyOf (T hold.Φ [] []) 12) 0).getD (.skip, .skip)).1 ((rangeCode (bodyOf (T hold.Φ [] []) 12) 0).getD (.skip, .skip)).2 17), (0, .cells [(SV.int .i64 (IE.var .i64 1))] 3), (1, .cells [(SV.bool (BE.lit false))] 4), (2, .cells [(SV.rom 0 (IE.lit 0) (IE.len (LE.rom 0)) none)] 66), (6, .cells [(SV.sll 4 5 3 (IE.lit 0) (IE.len (LE.rom 0)) none)] 115), (15, .cells [(SV.int .i64 (IE.lit 1))] 3), (16, .cells [(SV.int .i64 (IE.var .i64 281297))] 3), (19, .cells [(SV.func (Go.Fn.yield 18) [] [])] 124)], next := 23, pc := .lit true :: ([] ++ [(BE.fn 4 (AL.lst (LE.rom 0) AL.nil)), (BE.le (IE.len (LE.rom 0)) (IE.lit 300)), (BE.le (IE.lit 1) (IE.len (LE.rom 0))), (BE.le (IE.lit 0) (IE.var .i64 281297)), (BE.le (IE.var .i64 281297) (IE.len (LE.rom 0)))]) }
def tmeach : List (Nat × Cfg) := [(0, startF 12 cEach.pat (.lit true :: cEach.pre)), (1, teach1), (2, teach2)]
def seleach : Sel := [(104, 1, 2020000000002, 1), (104, 1, 2030000000002, 2)]
def weach0_0 : VW := (VW.cut 1 [(BE.fn 4 (AL.lst (LE.rom 0) AL.nil)), (BE.le (IE.len (LE.rom 0)) (IE.lit 300)), (BE.lit true), (BE.le (IE.lit 1) (IE.len (LE.rom 0)))] (Sx.Sub.mk [(.i64, (1000, (IE.lit 0)))] [] [] [] [] []))
def weach0_1 : VW := (VW.done [(BE.le (IE.lit 1) (IE.var .i64 1)), (BE.not (BE.fn 4 (AL.lst (LE.rom 0) AL.nil))), (BE.le (IE.len (LE.rom 0)) (IE.lit 300)), (BE.lit true), (BE.le (IE.lit 1) (IE.len (LE.rom 0)))] (some []))
def weach0_2 : VW := (VW.done [(BE.not (BE.le (IE.lit 1) (IE.var .i64 1))), (BE.not (BE.fn 4 (AL.lst (LE.rom 0) AL.nil))), (BE.le (IE.len (LE.rom 0)) (IE.lit 300)), (BE.lit true), (BE.le (IE.lit 1) (IE.len (LE.rom 0)))] (some []))
def weach0_3 : VW := (VW.done [(BE.not (BE.le (IE.len (LE.rom 0)) (IE.lit 300))), (BE.lit true), (BE.le (IE.lit 1) (IE.len (LE.rom 0)))] (some []))
def vweach0 : List VW := [weach0_0, weach0_1, weach0_2, weach0_3]
def weach1_0 : VW := (VW.cut 2 [(BE.le (IE.len (LE.rom 0)) (IE.var .i64 1)), (BE.le (IE.lit 1) (IE.var .i64 1)), (BE.le (IE.len (LE.rom 0)) (IE.var .i64 1000)), (BE.lit true), (BE.le (IE.lit 1) (IE.len (LE.rom 0))), (BE.le (IE.len (LE.rom 0)) (IE.lit 300)), (BE.fn 4 (AL.lst (LE.rom 0) AL.nil)), (BE.le (IE.lit 0) (IE.var .i64 1000)), (BE.le (IE.var .i64 1000) (IE.len (LE.rom 0)))] (Sx.Sub.mk [(.i64, (281297, (IE.lit 0)))] [] [] [] [] []))
def weach1_1 : VW := (VW.done [(BE.not (BE.le (IE.len (LE.rom 0)) (IE.var .i64 1))), (BE.le (IE.lit 1) (IE.var .i64 1)), (BE.le (IE.len (LE.rom 0)) (IE.var .i64 1000)), (BE.lit true), (BE.le (IE.lit 1) (IE.len (LE.rom 0))), (BE.le (IE.len (LE.rom 0)) (IE.lit 300)), (BE.fn 4 (AL.lst (LE.rom 0) AL.nil)), (BE.le (IE.lit 0) (IE.var .i64 1000)), (BE.le (IE.var .i64 1000) (IE.len (LE.rom 0)))] (some [(G.b (BE.lit true) (BE.lit false))]))
def weach1_2 : VW := (VW.cut 2 [(BE.le (IE.len (LE.rom 0)) (IE.lit 1)), (BE.not (BE.le (IE.lit 1) (IE.var .i64 1))), (BE.le (IE.len (LE.rom 0)) (IE.var .i64 1000)), (BE.lit true), (BE.le (IE.lit 1) (IE.len (LE.rom 0))), (BE.le (IE.len (LE.rom 0)) (IE.lit 300)), (BE.fn 4 (AL.lst (LE.rom 0) AL.nil)), (BE.le (IE.lit 0) (IE.var .i64 1000)), (BE.le (IE.var .i64 1000) (IE.len (LE.rom 0)))] (Sx.Sub.mk [(.i64, (281297, (IE.lit 0)))] [] [] [] [] []))
def weach1_3 : VW := (VW.done [(BE.not (BE.le (IE.len (LE.rom 0)) (IE.lit 1))), (BE.not (BE.le (IE.lit 1) (IE.var .i64 1))), (BE.le (IE.len (LE.rom 0)) (IE.var .i64 1000)), (BE.lit true), (BE.le (IE.lit 1) (IE.len (LE.rom 0))), (BE.le (IE.len (LE.rom 0)) (IE.lit 300)), (BE.fn 4 (AL.lst (LE.rom 0) AL.nil)), (BE.le (IE.lit 0) (IE.var .i64 1000)), (BE.le (IE.var .i64 1000) (IE.len (LE.rom 0)))] (some [(G.b (BE.lit true) (BE.lit false))]))
def weach1_4 : VW := (VW.cut 2 [(BE.le (IE.len (LE.rom 0)) (IE.var .i64 1)), (BE.le (IE.lit 1) (IE.var .i64 1)), (BE.le (IE.var .i64 1) (IE.add (IE.var .i64 1000) (IE.lit 1))), (BE.not (BE.le (IE.len (LE.rom 0)) (IE.var .i64 1000))), (BE.lit true), (BE.le (IE.lit 1) (IE.len (LE.rom 0))), (BE.le (IE.len (LE.rom 0)) (IE.lit 300)), (BE.fn 4 (AL.lst (LE.rom 0) AL.nil)), (BE.le (IE.lit 0) (IE.var .i64 1000)), (BE.le (IE.var .i64 1000) (IE.len (LE.rom 0)))] (Sx.Sub.mk [(.i64, (281297, (IE.lit 0)))] [] [] [] [] []))
def weach1_5 : VW := (VW.cut 2 [(BE.eq (IE.add (IE.var .i64 1000) (IE.lit 1)) (IE.var .i64 1)), (BE.not (BE.le (IE.len (LE.rom 0)) (IE.var .i64 1))), (BE.le (IE.lit 1) (IE.var .i64 1)), (BE.le (IE.var .i64 1) (IE.add (IE.var .i64 1000) (IE.lit 1))), (BE.not (BE.le (IE.len (LE.rom 0)) (IE.var .i64 1000))), (BE.lit true), (BE.le (IE.lit 1) (IE.len (LE.rom 0))), (BE.le (IE.len (LE.rom 0)) (IE.lit 300)), (BE.fn 4 (AL.lst (LE.rom 0) AL.nil)), (BE.le (IE.lit 0) (IE.var .i64 1000)), (BE.le (IE.var .i64 1000) (IE.len (LE.rom 0)))] (Sx.Sub.mk [(.i64, (281297, (IE.lit 0)))] [] [] [] [] []))
def weach1_6 : VW := (VW.done [(BE.not (BE.eq (IE.add (IE.var .i64 1000) (IE.lit 1)) (IE.var .i64 1))), (BE.not (BE.le (IE.len (LE.rom 0)) (IE.var .i64 1))), (BE.le (IE.lit 1) (IE.var .i64 1)), (BE.le (IE.var .i64 1) (IE.add (IE.var .i64 1000) (IE.lit 1))), (BE.not (BE.le (IE.len (LE.rom 0)) (IE.var .i64 1000))), (BE.lit true), (BE.le (IE.lit 1) (IE.len (LE.rom 0))), (BE.le (IE.len (LE.rom 0)) (IE.lit 300)), (BE.fn 4 (AL.lst (LE.rom 0) AL.nil)), (BE.le (IE.lit 0) (IE.var .i64 1000)), (BE.le (IE.var .i64 1000) (IE.len (LE.rom 0)))] (some [(G.b (BE.lit true) (BE.lit false))]))
def weach1_7 : VW := (VW.cut 2 [(BE.le (IE.len (LE.rom 0)) (IE.lit 1)), (BE.not (BE.le (IE.lit 1) (IE.var .i64 1))), (BE.le (IE.var .i64 1) (IE.add (IE.var .i64 1000) (IE.lit 1))), (BE.not (BE.le (IE.len (LE.rom 0)) (IE.var .i64 1000))), (BE.lit true), (BE.le (IE.lit 1) (IE.len (LE.rom 0))), (BE.le (IE.len (LE.rom 0)) (IE.lit 300)), (BE.fn 4 (AL.lst (LE.rom 0) AL.nil)), (BE.le (IE.lit 0) (IE.var .i64 1000)), (BE.le (IE.var .i64 1000) (IE.len (LE.rom 0)))] (Sx.Sub.mk [(.i64, (281297, (IE.lit 0)))] [] [] [] [] []))
def weach1_8 : VW := (VW.cut 2 [(BE.eq (IE.add (IE.var .i64 1000) (IE.lit 1)) (IE.lit 1)), (BE.not (BE.le (IE.len (LE.rom 0)) (IE.lit 1))), (BE.not (BE.le (IE.lit 1) (IE.var .i64 1))), (BE.le (IE.var .i64 1) (IE.add (IE.var .i64 1000) (IE.lit 1))), (BE.not (BE.le (IE.len (LE.rom 0)) (IE.var .i64 1000))), (BE.lit true), (BE.le (IE.lit 1) (IE.len (LE.rom 0))), (BE.le (IE.len (LE.rom 0)) (IE.lit 300)), (BE.fn 4 (AL.lst (LE.rom 0) AL.nil)), (BE.le (IE.lit 0) (IE.var .i64 1000)), (BE.le (IE.var .i64 1000) (IE.len (LE.rom 0)))] (Sx.Sub.mk [(.i64, (281297, (IE.lit 0)))] [] [] [] [] []))
def weach1_9 : VW := (VW.done [(BE.not (BE.eq (IE.add (IE.var .i64 1000) (IE.lit 1)) (IE.lit 1))), (BE.not (BE.le (IE.len (LE.rom 0)) (IE.lit 1))), (BE.not (BE.le (IE.lit 1) (IE.var .i64 1))), (BE.le (IE.var .i64 1) (IE.add (IE.var .i64 1000) (IE.lit 1))), (BE.not (BE.le (IE.len (LE.rom 0)) (IE.var .i64 1000))), (BE.lit true), (BE.le (IE.lit 1) (IE.len (LE.rom 0))), (BE.le (IE.len (LE.rom 0)) (IE.lit 300)), (BE.fn 4 (AL.lst (LE.rom 0) AL.nil)), (BE.le (IE.lit 0) (IE.var .i64 1000)), (BE.le (IE.var .i64 1000) (IE.len (LE.rom 0)))] (some [(G.b (BE.lit true) (BE.lit false))]))
def weach1_10 : VW := (VW.cut 1 [(BE.not (BE.le (IE.var .i64 1) (IE.add (IE.var .i64 1000) (IE.lit 1)))), (BE.not (BE.le (IE.len (LE.rom 0)) (IE.var .i64 1000))), (BE.lit true), (BE.le (IE.lit 1) (IE.len (LE.rom 0))), (BE.le (IE.len (LE.rom 0)) (IE.lit 300)), (BE.fn 4 (AL.lst (LE.rom 0) AL.nil)), (BE.le (IE.lit 0) (IE.var .i64 1000)), (BE.le (IE.var .i64 1000) (IE.len (LE.rom 0)))] (Sx.Sub.mk [(.i64, (1000, (IE.add (IE.var .i64 1000) (IE.lit 1))))] [] [] [] [] []))
def vweach1 : List VW := [weach1_0, weach1_1, weach1_2, weach1_3, weach1_4, weach1_5, weach1_6, weach1_7, weach1_8, weach1_9, weach1_10]
def weach2_0 : VW := (VW.done [(BE.le (IE.len (LE.rom 0)) (IE.var .i64 281297)), (BE.lit true), (BE.fn 4 (AL.lst (LE.rom 0) AL.nil)), (BE.le (IE.len (LE.rom 0)) (IE.lit 300)), (BE.le (IE.lit 1) (IE.len (LE.rom 0))), (BE.le (IE.lit 0) (IE.var .i64 281297)), (BE.le (IE.var .i64 281297) (IE.len (LE.rom 0)))] (some []))
def weach2_1 : VW := (VW.cut 2 [(BE.not (BE.le (IE.len (LE.rom 0)) (IE.var .i64 281297))), (BE.lit true), (BE.fn 4 (AL.lst (LE.rom 0) AL.nil)), (BE.le (IE.len (LE.rom 0)) (IE.lit 300)), (BE.le (IE.lit 1) (IE.len (LE.rom 0))), (BE.le (IE.lit 0) (IE.var .i64 281297)), (BE.le (IE.var .i64 281297) (IE.len (LE.rom 0)))] (Sx.Sub.mk [(.i64, (281297, (IE.add (IE.var .i64 281297) (IE.lit 1))))] [] [] [] [] []))
def vweach2 : List VW := [weach2_0, weach2_1]
def vweach : Nat → List VW
  | 0 => vweach0
  | 1 => vweach1
  | 2 => vweach2
  | _ => []
end
def inveach : Nat → Lt → Prop
  | 1, l => (l.i .i64 1000) = 0 ∨ (l.i .i64 1000) < (l.i .i64 1)
  | _, _ => True
def mseach : Nat → Lt → Nat
  | 0, l => 2 * ((l.z.rl 0).length + 2)
  | 1, l => ((l.z.rl 0).length + 1) + ((l.z.rl 0).length - (l.i .i64 1000).toNat)
  | 2, l => (l.z.rl 0).length - (l.i .i64 281297).toNat
  | _, _ => 0
theorem vceach0_0 : VC (T hold.Φ cEach.roms [cWorks, cRightP, cRightR]) inveach mseach 0 (startF 12 cEach.pat (.lit true :: cEach.pre)) weach0_0 := by
  intro ρ kn hi hp
  have hF : ρ.z.F = hold.Φ := kn.F
  simp only [h_nil, h_cons, d_le, d_eq, d_not, d_var, d_lit, d_cel, d_leq, d_fn, d_and, d_iff, IE.den, LE.den, AL.den, lenV, true_and, and_true, hF, pi1, pl2, pb1, pb2, pb3, pb4, pb5, pb6] at hp
  obtain ⟨p1, p2, p3⟩ := hp
  refine (show ((0 : Int) = 0 ∨ (0 : Int) < (ρ.i .i64 1)) ∧ ((((ρ.z.rl 0).length + 1) + ((ρ.z.rl 0).length - (0 : Int).toNat) : Nat) < 2 * ((ρ.z.rl 0).length + 2)) from ?_)
  exact ⟨.inl rfl, by omega⟩
theorem vceach0_1 : VC (T hold.Φ cEach.roms [cWorks, cRightP, cRightR]) inveach mseach 0 (startF 12 cEach.pat (.lit true :: cEach.pre)) weach0_1 := by
  intro ρ kn hi hp
  exact all_nil
theorem vceach0_2 : VC (T hold.Φ cEach.roms [cWorks, cRightP, cRightR]) inveach mseach 0 (startF 12 cEach.pat (.lit true :: cEach.pre)) weach0_2 := by
  intro ρ kn hi hp
  exact all_nil
theorem vceach0_3 : VC (T hold.Φ cEach.roms [cWorks, cRightP, cRightR]) inveach mseach 0 (startF 12 cEach.pat (.lit true :: cEach.pre)) weach0_3 := by
  intro ρ kn hi hp
  exact all_nil
theorem vceach1_0 : VC (T hold.Φ cEach.roms [cWorks, cRightP, cRightR]) inveach mseach 1 teach1 weach1_0 := by
  intro ρ kn hi hp
  have hi : (ρ.i .i64 1000) = 0 ∨ (ρ.i .i64 1000) < (ρ.i .i64 1) := hi
  have hr4 : Typed [(CK.int .i64), (CK.int .i64), (CK.int .i64)] (ρ.z.rl 0) ∧ (((ρ.z.rl 0).length : Nat) : Int) = (((ρ.z.rl 0)).length : Int) := kn.rows 4 _ _ _ _ _ _ rfl
  have hF : ρ.z.F = hold.Φ := kn.F
  simp only [h_nil, h_cons, d_le, d_eq, d_not, d_var, d_lit, d_cel, d_leq, d_fn, d_and, d_iff, IE.den, LE.den, AL.den, lenV, true_and, and_true, hF, pi1, pl2, pb1, pb2, pb3, pb4, pb5, pb6] at hp
  obtain ⟨p1, p2, p3, p4, p5, p6, p7, p8⟩ := hp
  refine (show (True) ∧ (((ρ.z.rl 0).length - (0 : Int).toNat : Nat) < ((ρ.z.rl 0).length + 1) + ((ρ.z.rl 0).length - (ρ.i .i64 1000).toNat)) from ?_)
  exact ⟨trivial, by omega⟩
theorem vceach1_1 : VC (T hold.Φ cEach.roms [cWorks, cRightP, cRightR]) inveach mseach 1 teach1 weach1_1 := by
  intro ρ kn hi hp
  have hi : (ρ.i .i64 1000) = 0 ∨ (ρ.i .i64 1000) < (ρ.i .i64 1) := hi
  have hr4 : Typed [(CK.int .i64), (CK.int .i64), (CK.int .i64)] (ρ.z.rl 0) ∧ (((ρ.z.rl 0).length : Nat) : Int) = (((ρ.z.rl 0)).length : Int) := kn.rows 4 _ _ _ _ _ _ rfl
  have hF : ρ.z.F = hold.Φ := kn.F
  simp only [h_nil, h_cons, d_le, d_eq, d_not, d_var, d_lit, d_cel, d_leq, d_fn, d_and, d_iff, IE.den, LE.den, AL.den, lenV, true_and, and_true, hF, pi1, pl2, pb1, pb2, pb3, pb4, pb5, pb6] at hp
  obtain ⟨p1, p2, p3, p4, p5, p6, p7, p8⟩ := hp
  exfalso
  omega
theorem vceach1_2 : VC (T hold.Φ cEach.roms [cWorks, cRightP, cRightR]) inveach mseach 1 teach1 weach1_2 := by
  intro ρ kn hi hp
  have hi : (ρ.i .i64 1000) = 0 ∨ (ρ.i .i64 1000) < (ρ.i .i64 1) := hi
  have hr4 : Typed [(CK.int .i64), (CK.int .i64), (CK.int .i64)] (ρ.z.rl 0) ∧ (((ρ.z.rl 0).length : Nat) : Int) = (((ρ.z.rl 0)).length : Int) := kn.rows 4 _ _ _ _ _ _ rfl
  have hF : ρ.z.F = hold.Φ := kn.F
  simp only [h_nil, h_cons, d_le, d_eq, d_not, d_var, d_lit, d_cel, d_leq, d_fn, d_and, d_iff, IE.den, LE.den, AL.den, lenV, true_and, and_true, hF, pi1, pl2, pb1, pb2, pb3, pb4, pb5, pb6] at hp
  obtain ⟨p1, p2, p3, p4, p5, p6, p7, p8⟩ := hp
  refine (show (True) ∧ (((ρ.z.rl 0).length - (0 : Int).toNat : Nat) < ((ρ.z.rl 0).length + 1) + ((ρ.z.rl 0).length - (ρ.i .i64 1000).toNat)) from ?_)
  exact ⟨trivial, by omega⟩
theorem vceach1_3 : VC (T hold.Φ cEach.roms [cWorks, cRightP, cRightR]) inveach mseach 1 teach1 weach1_3 := by
  intro ρ kn hi hp
  have hi : (ρ.i .i64 1000) = 0 ∨ (ρ.i .i64 1000) < (ρ.i .i64 1) := hi
  have hr4 : Typed [(CK.int .i64), (CK.int .i64), (CK.int .i64)] (ρ.z.rl 0) ∧ (((ρ.z.rl 0).length : Nat) : Int) = (((ρ.z.rl 0)).length : Int) := kn.rows 4 _ _ _ _ _ _ rfl
  have hF : ρ.z.F = hold.Φ := kn.F
  simp only [h_nil, h_cons, d_le, d_eq, d_not, d_var, d_lit, d_cel, d_leq, d_fn, d_and, d_iff, IE.den, LE.den, AL.den, lenV, true_and, and_true, hF, pi1, pl2, pb1, pb2, pb3, pb4, pb5, pb6] at hp
  obtain ⟨p1, p2, p3, p4, p5, p6, p7, p8⟩ := hp
  exfalso
  omega
theorem vceach1_4 : VC (T hold.Φ cEach.roms [cWorks, cRightP, cRightR]) inveach mseach 1 teach1 weach1_4 := by
  intro ρ kn hi hp
  have hi : (ρ.i .i64 1000) = 0 ∨ (ρ.i .i64 1000) < (ρ.i .i64 1) := hi
  have hr4 : Typed [(CK.int .i64), (CK.int .i64), (CK.int .i64)] (ρ.z.rl 0) ∧ (((ρ.z.rl 0).length : Nat) : Int) = (((ρ.z.rl 0)).length : Int) := kn.rows 4 _ _ _ _ _ _ rfl
  have hF : ρ.z.F = hold.Φ := kn.F
  simp only [h_nil, h_cons, d_le, d_eq, d_not, d_var, d_lit, d_cel, d_leq, d_fn, d_and, d_iff, IE.den, LE.den, AL.den, lenV, true_and, and_true, hF, pi1, pl2, pb1, pb2, pb3, pb4, pb5, pb6] at hp
  obtain ⟨p1, p2, p3, p4, p5, p6, p7, p8, p9⟩ := hp
  refine (show (True) ∧ (((ρ.z.rl 0).length - (0 : Int).toNat : Nat) < ((ρ.z.rl 0).length + 1) + ((ρ.z.rl 0).length - (ρ.i .i64 1000).toNat)) from ?_)
  exact ⟨trivial, by omega⟩
theorem vceach1_5 : VC (T hold.Φ cEach.roms [cWorks, cRightP, cRightR]) inveach mseach 1 teach1 weach1_5 := by
  intro ρ kn hi hp
  have hi : (ρ.i .i64 1000) = 0 ∨ (ρ.i .i64 1000) < (ρ.i .i64 1) := hi
  have hr4 : Typed [(CK.int .i64), (CK.int .i64), (CK.int .i64)] (ρ.z.rl 0) ∧ (((ρ.z.rl 0).length : Nat) : Int) = (((ρ.z.rl 0)).length : Int) := kn.rows 4 _ _ _ _ _ _ rfl
  have hF : ρ.z.F = hold.Φ := kn.F
  simp only [h_nil, h_cons, d_le, d_eq, d_not, d_var, d_lit, d_cel, d_leq, d_fn, d_and, d_iff, IE.den, LE.den, AL.den, lenV, true_and, and_true, hF, pi1, pl2, pb1, pb2, pb3, pb4, pb5, pb6] at hp
  obtain ⟨p1, p2, p3, p4, p5, p6, p7, p8, p9, p10⟩ := hp
  refine (show (True) ∧ (((ρ.z.rl 0).length - (0 : Int).toNat : Nat) < ((ρ.z.rl 0).length + 1) + ((ρ.z.rl 0).length - (ρ.i .i64 1000).toNat)) from ?_)
  exact ⟨trivial, by omega⟩
theorem vceach1_6 : VC (T hold.Φ cEach.roms [cWorks, cRightP, cRightR]) inveach mseach 1 teach1 weach1_6 := by
  intro ρ kn hi hp
  have hi : (ρ.i .i64 1000) = 0 ∨ (ρ.i .i64 1000) < (ρ.i .i64 1) := hi
  have hr4 : Typed [(CK.int .i64), (CK.int .i64), (CK.int .i64)] (ρ.z.rl 0) ∧ (((ρ.z.rl 0).length : Nat) : Int) = (((ρ.z.rl 0)).length : Int) := kn.rows 4 _ _ _ _ _ _ rfl
  have hF : ρ.z.F = hold.Φ := kn.F
  simp only [h_nil, h_cons, d_le, d_eq, d_not, d_var, d_lit, d_cel, d_leq, d_fn, d_and, d_iff, IE.den, LE.den, AL.den, lenV, true_and, and_true, hF, pi1, pl2, pb1, pb2, pb3, pb4, pb5, pb6] at hp
  obtain ⟨p1, p2, p3, p4, p5, p6, p7, p8, p9, p10⟩ := hp
  exfalso
  omega
theorem vceach1_7 : VC (T hold.Φ cEach.roms [cWorks, cRightP, cRightR]) inveach mseach 1 teach1 weach1_7 := by
  intro ρ kn hi hp
  have hi : (ρ.i .i64 1000) = 0 ∨ (ρ.i .i64 1000) < (ρ.i .i64 1) := hi
  have hr4 : Typed [(CK.int .i64), (CK.int .i64), (CK.int .i64)] (ρ.z.rl 0) ∧ (((ρ.z.rl 0).length : Nat) : Int) = (((ρ.z.rl 0)).length : Int) := kn.rows 4 _ _ _ _ _ _ rfl
  have hF : ρ.z.F = hold.Φ := kn.F
  simp only [h_nil, h_cons, d_le, d_eq, d_not, d_var, d_lit, d_cel, d_leq, d_fn, d_and, d_iff, IE.den, LE.den, AL.den, lenV, true_and, and_true, hF, pi1, pl2, pb1, pb2, pb3, pb4, pb5, pb6] at hp
  obtain ⟨p1, p2, p3, p4, p5, p6, p7, p8, p9⟩ := hp
  refine (show (True) ∧ (((ρ.z.rl 0).length - (0 : Int).toNat : Nat) < ((ρ.z.rl 0).length + 1) + ((ρ.z.rl 0).length - (ρ.i .i64 1000).toNat)) from ?_)
  exact ⟨trivial, by omega⟩
theorem vceach1_8 : VC (T hold.Φ cEach.roms [cWorks, cRightP, cRightR]) inveach mseach 1 teach1 weach1_8 := by
  intro ρ kn hi hp
  have hi : (ρ.i .i64 1000) = 0 ∨ (ρ.i .i64 1000) < (ρ.i .i64 1) := hi
  have hr4 : Typed [(CK.int .i64), (CK.int .i64), (CK.int .i64)] (ρ.z.rl 0) ∧ (((ρ.z.rl 0).length : Nat) : Int) = (((ρ.z.rl 0)).length : Int) := kn.rows 4 _ _ _ _ _ _ rfl
  have hF : ρ.z.F = hold.Φ := kn.F
  simp only [h_nil, h_cons, d_le, d_eq, d_not, d_var, d_lit, d_cel, d_leq, d_fn, d_and, d_iff, IE.den, LE.den, AL.den, lenV, true_and, and_true, hF, pi1, pl2, pb1, pb2, pb3, pb4, pb5, pb6] at hp
  obtain ⟨p1, p2, p3, p4, p5, p6, p7, p8, p9, p10⟩ := hp
  refine (show (True) ∧ (((ρ.z.rl 0).length - (0 : Int).toNat : Nat) < ((ρ.z.rl 0).length + 1) + ((ρ.z.rl 0).length - (ρ.i .i64 1000).toNat)) from ?_)
  exact ⟨trivial, by omega⟩
theorem vceach1_9 : VC (T hold.Φ cEach.roms [cWorks, cRightP, cRightR]) inveach mseach 1 teach1 weach1_9 := by
  intro ρ kn hi hp
  have hi : (ρ.i .i64 1000) = 0 ∨ (ρ.i .i64 1000) < (ρ.i .i64 1) := hi
  have hr4 : Typed [(CK.int .i64), (CK.int .i64), (CK.int .i64)] (ρ.z.rl 0) ∧ (((ρ.z.rl 0).length : Nat) : Int) = (((ρ.z.rl 0)).length : Int) := kn.rows 4 _ _ _ _ _ _ rfl
  have hF : ρ.z.F = hold.Φ := kn.F
  simp only [h_nil, h_cons, d_le, d_eq, d_not, d_var, d_lit, d_cel, d_leq, d_fn, d_and, d_iff, IE.den, LE.den, AL.den, lenV, true_and, and_true, hF, pi1, pl2, pb1, pb2, pb3, pb4, pb5, pb6] at hp
  obtain ⟨p1, p2, p3, p4, p5, p6, p7, p8, p9, p10⟩ := hp
  exfalso
  omega
theorem vceach1_10 : VC (T hold.Φ cEach.roms [cWorks, cRightP, cRightR]) inveach mseach 1 teach1 weach1_10 := by
  intro ρ kn hi hp
  have hi : (ρ.i .i64 1000) = 0 ∨ (ρ.i .i64 1000) < (ρ.i .i64 1) := hi
  have hr4 : Typed [(CK.int .i64), (CK.int .i64), (CK.int .i64)] (ρ.z.rl 0) ∧ (((ρ.z.rl 0).length : Nat) : Int) = (((ρ.z.rl 0)).length : Int) := kn.rows 4 _ _ _ _ _ _ rfl
  have hF : ρ.z.F = hold.Φ := kn.F
  simp only [h_nil, h_cons, d_le, d_eq, d_not, d_var, d_lit, d_cel, d_leq, d_fn, d_and, d_iff, IE.den, LE.den, AL.den, lenV, true_and, and_true, hF, pi1, pl2, pb1, pb2, pb3, pb4, pb5, pb6] at hp
  obtain ⟨p1, p2, p3, p4, p5, p6, p7⟩ := hp
  refine (show (((ρ.i .i64 1000) + (1 : Int)) = 0 ∨ ((ρ.i .i64 1000) + (1 : Int)) < (ρ.i .i64 1)) ∧ ((((ρ.z.rl 0).length + 1) + ((ρ.z.rl 0).length - ((ρ.i .i64 1000) + (1 : Int)).toNat) : Nat) < ((ρ.z.rl 0).length + 1) + ((ρ.z.rl 0).length - (ρ.i .i64 1000).toNat)) from ?_)
  exact ⟨.inr (by omega), by omega⟩
theorem vceach2_0 : VC (T hold.Φ cEach.roms [cWorks, cRightP, cRightR]) inveach mseach 2 teach2 weach2_0 := by
  intro ρ kn hi hp
  exact all_nil
theorem vceach2_1 : VC (T hold.Φ cEach.roms [cWorks, cRightP, cRightR]) inveach mseach 2 teach2 weach2_1 := by
  intro ρ kn hi hp
  have hr4 : Typed [(CK.int .i64), (CK.int .i64), (CK.int .i64)] (ρ.z.rl 0) ∧ (((ρ.z.rl 0).length : Nat) : Int) = (((ρ.z.rl 0)).length : Int) := kn.rows 4 _ _ _ _ _ _ rfl
  have hF : ρ.z.F = hold.Φ := kn.F
  simp only [h_nil, h_cons, d_le, d_eq, d_not, d_var, d_lit, d_cel, d_leq, d_fn, d_and, d_iff, IE.den, LE.den, AL.den, lenV, true_and, and_true, hF, pi1, pl2, pb1, pb2, pb3, pb4, pb5, pb6] at hp
  obtain ⟨p1, p2, p3, p4, p5, p6⟩ := hp
  refine (show (True) ∧ (((ρ.z.rl 0).length - ((ρ.i .i64 281297) + (1 : Int)).toNat : Nat) < (ρ.z.rl 0).length - (ρ.i .i64 281297).toNat) from ?_)
  exact ⟨trivial, by omega⟩
theorem vcseach0 : ∀ v ∈ vweach 0, VC (T hold.Φ cEach.roms [cWorks, cRightP, cRightR]) inveach mseach 0 (startF 12 cEach.pat (.lit true :: cEach.pre)) v := all_cons vceach0_0 (all_cons vceach0_1 (all_cons vceach0_2 (all_cons vceach0_3 (all_nil))))
theorem okeach0 : cfgOk (startF 12 cEach.pat (.lit true :: cEach.pre)) = true := by kernel_rfl
theorem sgeach0 : segL cEach.roms cEach (seg (T hold.Φ cEach.roms [cWorks, cRightP, cRightR]) seleach 3000 tmeach (startF 12 cEach.pat (.lit true :: cEach.pre))) = (true, codesR tmeach (views (seg (T hold.Φ cEach.roms [cWorks, cRightP, cRightR]) seleach 3000 tmeach (startF 12 cEach.pat (.lit true :: cEach.pre)))), vweach 0) := by kernel_rfl
theorem vcseach1 : ∀ v ∈ vweach 1, VC (T hold.Φ cEach.roms [cWorks, cRightP, cRightR]) inveach mseach 1 teach1 v := all_cons vceach1_0 (all_cons vceach1_1 (all_cons vceach1_2 (all_cons vceach1_3 (all_cons vceach1_4 (all_cons vceach1_5 (all_cons vceach1_6 (all_cons vceach1_7 (all_cons vceach1_8 (all_cons vceach1_9 (all_cons vceach1_10 (all_nil)))))))))))
theorem okeach1 : cfgOk teach1 = true := by kernel_rfl
theorem sgeach1 : segL cEach.roms cEach (seg (T hold.Φ cEach.roms [cWorks, cRightP, cRightR]) seleach 3000 tmeach teach1) = (true, codesR tmeach (views (seg (T hold.Φ cEach.roms [cWorks, cRightP, cRightR]) seleach 3000 tmeach teach1)), vweach 1) := by kernel_rfl
theorem vcseach2 : ∀ v ∈ vweach 2, VC (T hold.Φ cEach.roms [cWorks, cRightP, cRightR]) inveach mseach 2 teach2 v := all_cons vceach2_0 (all_cons vceach2_1 (all_nil))
theorem okeach2 : cfgOk teach2 = true := by kernel_rfl
theorem sgeach2 : segL cEach.roms cEach (seg (T hold.Φ cEach.roms [cWorks, cRightP, cRightR]) seleach 3000 tmeach teach2) = (true, codesR tmeach (views (seg (T hold.Φ cEach.roms [cWorks, cRightP, cRightR]) seleach 3000 tmeach teach2)), vweach 2) := by kernel_rfl
theorem lneach0 : ∀ ρ, Known (T hold.Φ cEach.roms [cWorks, cRightP, cRightR]) (startF 12 cEach.pat (.lit true :: cEach.pre)) ρ → inveach 0 ρ.lt → Holds ρ (leanOf (Cfg.pc (startF 12 cEach.pat (.lit true :: cEach.pre)))) := by
  intro ρ _ _
  exact (show Holds ρ [] from fun p hp => by cases hp)
theorem lneach1 : ∀ ρ, Known (T hold.Φ cEach.roms [cWorks, cRightP, cRightR]) teach1 ρ → inveach 1 ρ.lt → Holds ρ (leanOf (Cfg.pc teach1)) := by
  intro ρ _ _
  exact (show Holds ρ [] from fun p hp => by cases hp)
theorem lneach2 : ∀ ρ, Known (T hold.Φ cEach.roms [cWorks, cRightP, cRightR]) teach2 ρ → inveach 2 ρ.lt → Holds ρ (leanOf (Cfg.pc teach2)) := by
  intro ρ _ _
  exact (show Holds ρ [] from fun p hp => by cases hp)
theorem told_each : Sx.Told hold.Φ cEach := by
  refine told_of (cs := [cWorks, cRightP, cRightR]) (all_cons told_works (all_cons told_rightP (all_cons told_rightR (all_nil)))) (sel := seleach) 3000 tmeach inveach mseach vweach 0 (pc0 := (.lit true :: cEach.pre)) (by kernel_rfl) (by kernel_rfl) (by kernel_rfl) (post_nil rfl) ?_ ?_ ?_ rfl (fun ρ _ h => h.cons (p := .lit true) (by simp only [BE.den])) (fun _ _ _ _ => trivial) ?_
  · intro k C h
    have := lk_mem h
    simp only [tmeach, List.mem_cons, Prod.mk.injEq, List.not_mem_nil, or_false] at this
    rcases this with ⟨rfl, rfl⟩ | ⟨rfl, rfl⟩ | ⟨rfl, rfl⟩
    · exact okeach0
    · exact okeach1
    · exact okeach2
  · intro k C h
    have := lk_mem h
    simp only [tmeach, List.mem_cons, Prod.mk.injEq, List.not_mem_nil, or_false] at this
    rcases this with ⟨rfl, rfl⟩ | ⟨rfl, rfl⟩ | ⟨rfl, rfl⟩
    · exact sgeach0
    · exact sgeach1
    · exact sgeach2
  · intro k C h
    have := lk_mem h
    simp only [tmeach, List.mem_cons, Prod.mk.injEq, List.not_mem_nil, or_false] at this
    rcases this with ⟨rfl, rfl⟩ | ⟨rfl, rfl⟩ | ⟨rfl, rfl⟩
    · exact vcseach0
    · exact vcseach1
    · exact vcseach2
  · intro k C h
    have := lk_mem h
    simp only [tmeach, List.mem_cons, Prod.mk.injEq, List.not_mem_nil, or_false] at this
    rcases this with ⟨rfl, rfl⟩ | ⟨rfl, rfl⟩ | ⟨rfl, rfl⟩
    · exact lneach0
    · exact lneach1
    · exact lneach2
end Go.Proofs.YteblnjgghbclpaaDoor.hold
