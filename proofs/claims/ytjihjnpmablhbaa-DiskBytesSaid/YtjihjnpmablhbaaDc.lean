/- Layer disk: the law DiskBytes. No condition. -/
import Derived.Test.YtjihjnpmablhbaaDb
set_option linter.unusedVariables false
set_option linter.unusedSimpArgs false
set_option linter.deprecated false
namespace Go.Proofs.Ytjihjnpmablhbaa.dsk
open Go Go.Proofs.Ytjihjnpmablhbaa.Sx
theorem told_by0 : Sx.Told dsk.Φ cBytes0 := told_auto (cs := [cWorks]) (all_cons told_works (all_nil)) 9000 (by kernel_rfl) (by kernel_rfl) (by kernel_rfl) (post_nil rfl) (by kernel_rfl) (by kernel_rfl)
theorem told_byA : Sx.Told dsk.Φ cBytesA := told_auto (cs := [cWorks]) (all_cons told_works (all_nil)) 9000 (by kernel_rfl) (by kernel_rfl) (by kernel_rfl) (post_nil rfl) (by kernel_rfl) (by kernel_rfl)
theorem told_byB : Sx.Told dsk.Φ cBytesB := told_auto (cs := [cWorks]) (all_cons told_works (all_nil)) 9000 (by kernel_rfl) (by kernel_rfl) (by kernel_rfl) (post_nil rfl) (by kernel_rfl) (by kernel_rfl)
theorem told_byZ : Sx.Told dsk.Φ cBytesZ := told_auto (cs := [cWorks]) (all_cons told_works (all_nil)) 9000 (by kernel_rfl) (by kernel_rfl) (by kernel_rfl) (post_nil rfl) (by kernel_rfl) (by kernel_rfl)
noncomputable section
abbrev TTby1 : Tab := T dsk.Φ cBytes1.roms [cWorks]
def tby11 : Cfg := { top := ⟨38, over (opqS 10000 18) [(0, (SV.func (Go.Fn.yield 37) [] [])), (5, (SV.sll 30 31 1 (IE.lit 0) (IE.len (LE.rom 0)) none)), (6, (SV.int .i64 (IE.len (LE.rom 0)))), (7, (SV.int .i64 (IE.var .i64 1000)))], ogt (loopTodo (bodyOf (T dsk.Φ [] []) 38) 0), [], false, none⟩, rest := [⟨5, over (opqS 30000 102) [(3, (SV.ptr 0 0)), (5, (SV.ptr 1 0)), (6, (SV.ptr 2 0)), (10, (SV.func (Go.Fn.func 38) [] [(SV.ptr 32 0)])), (11, (SV.ptr 33 0)), (12, (SV.ptr 34 0)), (13, (SV.ptr 35 0))], ogt (rangeTodo (bodyOf (T dsk.Φ [] []) 5) 0 37), [36], false, none⟩], heap := [(37, .loop .ready none 5 (over (opqS 200000 102) [(3, (SV.ptr 0 0)), (5, (SV.ptr 1 0)), (6, (SV.ptr 2 0)), (11, (SV.ptr 33 0)), (12, (SV.ptr 34 0)), (13, (SV.ptr 35 0))]) [54, 55] ((rangeCode (bodyOf (T dsk.Φ [] []) 5) 0).getD (.skip, .skip)).1 ((rangeCode (bodyOf (T dsk.Φ [] []) 5) 0).getD (.skip, .skip)).2 36), (30, .rowl (LE.rom 0) (IE.len (LE.rom 0)) [(CK.int .u8)] 5 31 1), (36, .defd true), (0, .cells [(SV.rom 0 (IE.lit 0) (IE.len (LE.rom 0)) none)] 38), (1, .cells [(SV.int .i64 (IE.var .i64 2))] 3), (2, .cells [(SV.bool (BE.lit false))] 4), (32, .cells [(SV.sll 30 31 1 (IE.lit 0) (IE.len (LE.rom 0)) none)] 38), (33, .cells [(SV.int .i64 (IE.len (LE.rom 0)))] 3), (34, .cells [(SV.int .i64 (IE.lit 0))] 3), (35, .cells [(SV.int .i64 (IE.var .i64 1000))] 3)], next := 38, pc := .lit true :: ([] ++ [(BE.le (IE.lit 1) (IE.len (LE.rom 0))), (BE.le (IE.len (LE.rom 0)) (IE.lit 300)), (BE.le (IE.lit 0) (IE.var .i64 1000)), (BE.le (IE.var .i64 1000) (IE.len (LE.rom 0)))]) }
def tby12 : Cfg := { top := ⟨38, over (opqS 10000 18) [(0, (SV.func (Go.Fn.yield 41) [] [])), (5, (SV.sll 30 31 1 (IE.lit 0) (IE.len (LE.rom 0)) none)), (6, (SV.int .i64 (IE.len (LE.rom 0)))), (7, (SV.int .i64 (IE.var .i64 201617)))], ogt (loopTodo (bodyOf (T dsk.Φ [] []) 38) 0), [], false, none⟩, rest := [⟨5, over (opqS 30000 102) [(3, (SV.ptr 0 0)), (5, (SV.ptr 1 0)), (6, (SV.ptr 2 0)), (10, (SV.func (Go.Fn.func 38) [] [(SV.ptr 32 0)])), (11, (SV.ptr 33 0)), (12, (SV.ptr 38 0)), (13, (SV.ptr 39 0))], ogt (rangeTodo (bodyOf (T dsk.Φ [] []) 5) 0 41), [40, 36], false, none⟩], heap := [(41, .loop .ready none 5 (over (opqS 200000 102) [(3, (SV.ptr 0 0)), (5, (SV.ptr 1 0)), (6, (SV.ptr 2 0)), (11, (SV.ptr 33 0)), (12, (SV.ptr 38 0)), (13, (SV.ptr 39 0))]) [54, 55] ((rangeCode (bodyOf (T dsk.Φ [] []) 5) 0).getD (.skip, .skip)).1 ((rangeCode (bodyOf (T dsk.Φ [] []) 5) 0).getD (.skip, .skip)).2 40), (30, .rowl (LE.rom 0) (IE.len (LE.rom 0)) [(CK.int .u8)] 5 31 1), (40, .defd true), (36, .defd true), (0, .cells [(SV.rom 0 (IE.lit 0) (IE.len (LE.rom 0)) none)] 38), (1, .cells [(SV.int .i64 (IE.var .i64 2))] 3), (2, .cells [(SV.bool (BE.lit false))] 4), (32, .cells [(SV.sll 30 31 1 (IE.lit 0) (IE.len (LE.rom 0)) none)] 38), (33, .cells [(SV.int .i64 (IE.len (LE.rom 0)))] 3), (38, .cells [(SV.int .i64 (IE.lit 1))] 3), (39, .cells [(SV.int .i64 (IE.var .i64 201617))] 3)], next := 42, pc := .lit true :: ([] ++ [(BE.le (IE.len (LE.rom 0)) (IE.lit 300)), (BE.le (IE.lit 1) (IE.len (LE.rom 0))), (BE.le (IE.lit 0) (IE.var .i64 201617)), (BE.le (IE.var .i64 201617) (IE.len (LE.rom 0)))]) }
def tmby1 : List (Nat × Cfg) := [(0, startF 5 cBytes1.pat (.lit true :: cBytes1.pre)), (1, tby11), (2, tby12)]
def selby1 : Sel := [(38, 1, 1020000000001, 1), (38, 1, 1030000000001, 2)]
def pcby10_0 : List BE := [(BE.lit true), (BE.le (IE.lit 1) (IE.len (LE.rom 0)))]
def wby10_0 : VW := (VW.cut 1 ((BE.le (IE.len (LE.rom 0)) (IE.lit 300)) :: pcby10_0) (Sx.Sub.mk [(.i64, (1000, (IE.lit 0)))] [] [] [] [] []))
def wby10_1 : VW := (VW.done ((BE.not (BE.le (IE.len (LE.rom 0)) (IE.lit 300))) :: pcby10_0) (some []))
def vwby10 : List VW := [wby10_0, wby10_1]
def pcby11_0 : List BE := [(BE.lit true), (BE.le (IE.lit 1) (IE.len (LE.rom 0))), (BE.le (IE.len (LE.rom 0)) (IE.lit 300)), (BE.le (IE.lit 0) (IE.var .i64 1000)), (BE.le (IE.var .i64 1000) (IE.len (LE.rom 0)))]
def pcby11_1 : List BE := ((BE.le (IE.len (LE.rom 0)) (IE.var .i64 1000)) :: pcby11_0)
def pcby11_2 : List BE := ((BE.not (BE.le (IE.len (LE.rom 0)) (IE.var .i64 1000))) :: pcby11_0)
def pcby11_3 : List BE := ((BE.le (IE.lit 1) (IE.var .i64 2)) :: pcby11_1)
def pcby11_4 : List BE := ((BE.not (BE.le (IE.lit 1) (IE.var .i64 2))) :: pcby11_1)
def pcby11_5 : List BE := ((BE.le (IE.var .i64 2) (IE.add (IE.var .i64 1000) (IE.lit 1))) :: pcby11_2)
def pcby11_6 : List BE := ((BE.le (IE.lit 1) (IE.var .i64 2)) :: pcby11_5)
def pcby11_7 : List BE := ((BE.not (BE.le (IE.lit 1) (IE.var .i64 2))) :: pcby11_5)
def pcby11_8 : List BE := ((BE.not (BE.le (IE.len (LE.rom 0)) (IE.var .i64 2))) :: pcby11_6)
def pcby11_9 : List BE := ((BE.not (BE.le (IE.len (LE.rom 0)) (IE.lit 1))) :: pcby11_7)
def wby11_0 : VW := (VW.cut 2 ((BE.le (IE.len (LE.rom 0)) (IE.var .i64 2)) :: pcby11_3) (Sx.Sub.mk [(.i64, (201617, (IE.lit 0)))] [] [] [] [] []))
def wby11_1 : VW := (VW.done ((BE.not (BE.le (IE.len (LE.rom 0)) (IE.var .i64 2))) :: pcby11_3) (some [(G.b (BE.lit true) (BE.lit false))]))
def wby11_2 : VW := (VW.cut 2 ((BE.le (IE.len (LE.rom 0)) (IE.lit 1)) :: pcby11_4) (Sx.Sub.mk [(.i64, (201617, (IE.lit 0)))] [] [] [] [] []))
def wby11_3 : VW := (VW.done ((BE.not (BE.le (IE.len (LE.rom 0)) (IE.lit 1))) :: pcby11_4) (some [(G.b (BE.lit true) (BE.lit false))]))
def wby11_4 : VW := (VW.cut 2 ((BE.le (IE.len (LE.rom 0)) (IE.var .i64 2)) :: pcby11_6) (Sx.Sub.mk [(.i64, (201617, (IE.lit 0)))] [] [] [] [] []))
def wby11_5 : VW := (VW.cut 2 ((BE.eq (IE.add (IE.var .i64 1000) (IE.lit 1)) (IE.var .i64 2)) :: pcby11_8) (Sx.Sub.mk [(.i64, (201617, (IE.lit 0)))] [] [] [] [] []))
def wby11_6 : VW := (VW.done ((BE.not (BE.eq (IE.add (IE.var .i64 1000) (IE.lit 1)) (IE.var .i64 2))) :: pcby11_8) (some [(G.b (BE.lit true) (BE.lit false))]))
def wby11_7 : VW := (VW.cut 2 ((BE.le (IE.len (LE.rom 0)) (IE.lit 1)) :: pcby11_7) (Sx.Sub.mk [(.i64, (201617, (IE.lit 0)))] [] [] [] [] []))
def wby11_8 : VW := (VW.cut 2 ((BE.eq (IE.add (IE.var .i64 1000) (IE.lit 1)) (IE.lit 1)) :: pcby11_9) (Sx.Sub.mk [(.i64, (201617, (IE.lit 0)))] [] [] [] [] []))
def wby11_9 : VW := (VW.done ((BE.not (BE.eq (IE.add (IE.var .i64 1000) (IE.lit 1)) (IE.lit 1))) :: pcby11_9) (some [(G.b (BE.lit true) (BE.lit false))]))
def wby11_10 : VW := (VW.cut 1 ((BE.not (BE.le (IE.var .i64 2) (IE.add (IE.var .i64 1000) (IE.lit 1)))) :: pcby11_2) (Sx.Sub.mk [(.i64, (1000, (IE.add (IE.var .i64 1000) (IE.lit 1))))] [] [] [] [] []))
def vwby11 : List VW := [wby11_0, wby11_1, wby11_2, wby11_3, wby11_4, wby11_5, wby11_6, wby11_7, wby11_8, wby11_9, wby11_10]
def pcby12_0 : List BE := [(BE.lit true), (BE.le (IE.len (LE.rom 0)) (IE.lit 300)), (BE.le (IE.lit 1) (IE.len (LE.rom 0))), (BE.le (IE.lit 0) (IE.var .i64 201617)), (BE.le (IE.var .i64 201617) (IE.len (LE.rom 0)))]
def wby12_0 : VW := (VW.done ((BE.le (IE.len (LE.rom 0)) (IE.var .i64 201617)) :: pcby12_0) (some []))
def wby12_1 : VW := (VW.cut 2 ((BE.not (BE.le (IE.len (LE.rom 0)) (IE.var .i64 201617))) :: pcby12_0) (Sx.Sub.mk [(.i64, (201617, (IE.add (IE.var .i64 201617) (IE.lit 1))))] [] [] [] [] []))
def vwby12 : List VW := [wby12_0, wby12_1]
def vwby1 : Nat → List VW
  | 0 => vwby10
  | 1 => vwby11
  | 2 => vwby12
  | _ => []
end
def invby1 : Nat → Lt → Prop
  | 1, l => (l.i .i64 1000) = 0 ∨ (l.i .i64 1000) < (l.i .i64 2)
  | _, _ => True
def msby1 : Nat → Lt → Nat
  | 0, l => 2 * (l.z.rl 0).length + 3
  | 1, l => ((l.z.rl 0).length - (l.i .i64 1000).toNat) + (l.z.rl 0).length + 2
  | 2, l => (l.z.rl 0).length - (l.i .i64 201617).toNat
  | _, _ => 0
theorem vcby10_0 : VC TTby1 invby1 msby1 0 (startF 5 cBytes1.pat (.lit true :: cBytes1.pre)) wby10_0 := by
  intro ρ kn hi hp
  have hF : ρ.z.F = dsk.Φ := kn.F
  simp only [h_nil, h_cons, d_le, d_eq, d_not, d_var, d_lit, d_cel, d_leq, d_fn, d_and, d_iff, IE.den, LE.den, AL.den, lenV, true_and, and_true, pcby10_0] at hp
  obtain ⟨p1, p2⟩ := hp
  refine (show ((0 : Int) = 0 ∨ (0 : Int) < (ρ.i .i64 2)) ∧ ((((ρ.z.rl 0).length - (0 : Int).toNat) + (ρ.z.rl 0).length + 2 : Nat) < 2 * (ρ.z.rl 0).length + 3) from ?_)
  exact ⟨.inl rfl, by omega⟩
def ivby11 (ρ : Rho) : Prop := (ρ.i .i64 1000) = 0 ∨ (ρ.i .i64 1000) < (ρ.i .i64 2)
theorem vcgby11_0 : VC TTby1 invby1 msby1 1 tby11 wby11_1 ∧ VC TTby1 invby1 msby1 1 tby11 wby11_3 ∧ VC TTby1 invby1 msby1 1 tby11 wby11_6 ∧ VC TTby1 invby1 msby1 1 tby11 wby11_9 := by
  refine ⟨?_, ?_, ?_, ?_⟩
  all_goals
    intro ρ kn hi hp
    have hi : ivby11 ρ := hi
    unfold ivby11 at hi
    have hF : ρ.z.F = dsk.Φ := kn.F
    simp only [h_nil, h_cons, d_le, d_eq, d_not, d_var, d_lit, d_cel, d_leq, d_fn, d_and, d_iff, IE.den, LE.den, AL.den, lenV, true_and, and_true, pcby11_3, pcby11_1, pcby11_0, pcby11_4, pcby11_8, pcby11_6, pcby11_5, pcby11_2, pcby11_9, pcby11_7] at hp
    have p1 := And.left hp
    replace hp := And.right hp
    repeat (have _ := And.left hp; replace hp := And.right hp)
    exfalso
    omega
theorem vcby11_0 : VC TTby1 invby1 msby1 1 tby11 wby11_0 := by
  intro ρ kn hi hp
  have hi : ivby11 ρ := hi
  unfold ivby11 at hi
  have hF : ρ.z.F = dsk.Φ := kn.F
  simp only [h_nil, h_cons, d_le, d_eq, d_not, d_var, d_lit, d_cel, d_leq, d_fn, d_and, d_iff, IE.den, LE.den, AL.den, lenV, true_and, and_true, pcby11_3, pcby11_1, pcby11_0] at hp
  obtain ⟨p1, p2, p3, p4, p5, p6, p7⟩ := hp
  refine (show (True) ∧ (((ρ.z.rl 0).length - (0 : Int).toNat : Nat) < ((ρ.z.rl 0).length - (ρ.i .i64 1000).toNat) + (ρ.z.rl 0).length + 2) from ?_)
  exact ⟨trivial, by omega⟩
theorem vcby11_2 : VC TTby1 invby1 msby1 1 tby11 wby11_2 := by
  intro ρ kn hi hp
  have hi : ivby11 ρ := hi
  unfold ivby11 at hi
  have hF : ρ.z.F = dsk.Φ := kn.F
  simp only [h_nil, h_cons, d_le, d_eq, d_not, d_var, d_lit, d_cel, d_leq, d_fn, d_and, d_iff, IE.den, LE.den, AL.den, lenV, true_and, and_true, pcby11_4, pcby11_1, pcby11_0] at hp
  obtain ⟨p1, p2, p3, p4, p5, p6, p7⟩ := hp
  refine (show (True) ∧ (((ρ.z.rl 0).length - (0 : Int).toNat : Nat) < ((ρ.z.rl 0).length - (ρ.i .i64 1000).toNat) + (ρ.z.rl 0).length + 2) from ?_)
  exact ⟨trivial, by omega⟩
theorem vcby11_4 : VC TTby1 invby1 msby1 1 tby11 wby11_4 := by
  intro ρ kn hi hp
  have hi : ivby11 ρ := hi
  unfold ivby11 at hi
  have hF : ρ.z.F = dsk.Φ := kn.F
  simp only [h_nil, h_cons, d_le, d_eq, d_not, d_var, d_lit, d_cel, d_leq, d_fn, d_and, d_iff, IE.den, LE.den, AL.den, lenV, true_and, and_true, pcby11_6, pcby11_5, pcby11_2, pcby11_0] at hp
  obtain ⟨p1, p2, p3, p4, p5, p6, p7, p8⟩ := hp
  refine (show (True) ∧ (((ρ.z.rl 0).length - (0 : Int).toNat : Nat) < ((ρ.z.rl 0).length - (ρ.i .i64 1000).toNat) + (ρ.z.rl 0).length + 2) from ?_)
  exact ⟨trivial, by omega⟩
theorem vcby11_5 : VC TTby1 invby1 msby1 1 tby11 wby11_5 := by
  intro ρ kn hi hp
  have hi : ivby11 ρ := hi
  unfold ivby11 at hi
  have hF : ρ.z.F = dsk.Φ := kn.F
  simp only [h_nil, h_cons, d_le, d_eq, d_not, d_var, d_lit, d_cel, d_leq, d_fn, d_and, d_iff, IE.den, LE.den, AL.den, lenV, true_and, and_true, pcby11_8, pcby11_6, pcby11_5, pcby11_2, pcby11_0] at hp
  obtain ⟨p1, p2, p3, p4, p5, p6, p7, p8, p9⟩ := hp
  refine (show (True) ∧ (((ρ.z.rl 0).length - (0 : Int).toNat : Nat) < ((ρ.z.rl 0).length - (ρ.i .i64 1000).toNat) + (ρ.z.rl 0).length + 2) from ?_)
  exact ⟨trivial, by omega⟩
theorem vcby11_7 : VC TTby1 invby1 msby1 1 tby11 wby11_7 := by
  intro ρ kn hi hp
  have hi : ivby11 ρ := hi
  unfold ivby11 at hi
  have hF : ρ.z.F = dsk.Φ := kn.F
  simp only [h_nil, h_cons, d_le, d_eq, d_not, d_var, d_lit, d_cel, d_leq, d_fn, d_and, d_iff, IE.den, LE.den, AL.den, lenV, true_and, and_true, pcby11_7, pcby11_5, pcby11_2, pcby11_0] at hp
  obtain ⟨p1, p2, p3, p4, p5, p6, p7, p8⟩ := hp
  refine (show (True) ∧ (((ρ.z.rl 0).length - (0 : Int).toNat : Nat) < ((ρ.z.rl 0).length - (ρ.i .i64 1000).toNat) + (ρ.z.rl 0).length + 2) from ?_)
  exact ⟨trivial, by omega⟩
theorem vcby11_8 : VC TTby1 invby1 msby1 1 tby11 wby11_8 := by
  intro ρ kn hi hp
  have hi : ivby11 ρ := hi
  unfold ivby11 at hi
  have hF : ρ.z.F = dsk.Φ := kn.F
  simp only [h_nil, h_cons, d_le, d_eq, d_not, d_var, d_lit, d_cel, d_leq, d_fn, d_and, d_iff, IE.den, LE.den, AL.den, lenV, true_and, and_true, pcby11_9, pcby11_7, pcby11_5, pcby11_2, pcby11_0] at hp
  obtain ⟨p1, p2, p3, p4, p5, p6, p7, p8, p9⟩ := hp
  refine (show (True) ∧ (((ρ.z.rl 0).length - (0 : Int).toNat : Nat) < ((ρ.z.rl 0).length - (ρ.i .i64 1000).toNat) + (ρ.z.rl 0).length + 2) from ?_)
  exact ⟨trivial, by omega⟩
theorem vcby11_10 : VC TTby1 invby1 msby1 1 tby11 wby11_10 := by
  intro ρ kn hi hp
  have hi : ivby11 ρ := hi
  unfold ivby11 at hi
  have hF : ρ.z.F = dsk.Φ := kn.F
  simp only [h_nil, h_cons, d_le, d_eq, d_not, d_var, d_lit, d_cel, d_leq, d_fn, d_and, d_iff, IE.den, LE.den, AL.den, lenV, true_and, and_true, pcby11_2, pcby11_0] at hp
  obtain ⟨p1, p2, p3, p4, p5, p6⟩ := hp
  refine (show (((ρ.i .i64 1000) + (1 : Int)) = 0 ∨ ((ρ.i .i64 1000) + (1 : Int)) < (ρ.i .i64 2)) ∧ ((((ρ.z.rl 0).length - ((ρ.i .i64 1000) + (1 : Int)).toNat) + (ρ.z.rl 0).length + 2 : Nat) < ((ρ.z.rl 0).length - (ρ.i .i64 1000).toNat) + (ρ.z.rl 0).length + 2) from ?_)
  exact ⟨by omega, by omega⟩
theorem vcby12_1 : VC TTby1 invby1 msby1 2 tby12 wby12_1 := by
  intro ρ kn hi hp
  have hF : ρ.z.F = dsk.Φ := kn.F
  simp only [h_nil, h_cons, d_le, d_eq, d_not, d_var, d_lit, d_cel, d_leq, d_fn, d_and, d_iff, IE.den, LE.den, AL.den, lenV, true_and, and_true, pcby12_0] at hp
  obtain ⟨p1, p2, p3, p4, p5⟩ := hp
  refine (show (True) ∧ (((ρ.z.rl 0).length - ((ρ.i .i64 201617) + (1 : Int)).toNat : Nat) < (ρ.z.rl 0).length - (ρ.i .i64 201617).toNat) from ?_)
  exact ⟨trivial, by omega⟩
theorem vcsby10 : ∀ v ∈ vwby1 0, VC TTby1 invby1 msby1 0 (startF 5 cBytes1.pat (.lit true :: cBytes1.pre)) v := all_cons vcby10_0 (all_cons (fun _ _ _ _ => all_nil) (all_nil))
theorem okby10 : cfgOk (startF 5 cBytes1.pat (.lit true :: cBytes1.pre)) = true := by kernel_rfl
theorem sgby10 : segL cBytes1.roms cBytes1 (seg TTby1 selby1 3000 tmby1 (startF 5 cBytes1.pat (.lit true :: cBytes1.pre))) = (true, codesR tmby1 (views (seg TTby1 selby1 3000 tmby1 (startF 5 cBytes1.pat (.lit true :: cBytes1.pre)))), vwby1 0) := by kernel_rfl
theorem vcsby11 : ∀ v ∈ vwby1 1, VC TTby1 invby1 msby1 1 tby11 v := all_cons vcby11_0 (all_cons vcgby11_0.1 (all_cons vcby11_2 (all_cons vcgby11_0.2.1 (all_cons vcby11_4 (all_cons vcby11_5 (all_cons vcgby11_0.2.2.1 (all_cons vcby11_7 (all_cons vcby11_8 (all_cons vcgby11_0.2.2.2 (all_cons vcby11_10 (all_nil)))))))))))
theorem okby11 : cfgOk tby11 = true := by kernel_rfl
theorem sgby11 : segL cBytes1.roms cBytes1 (seg TTby1 selby1 3000 tmby1 tby11) = (true, codesR tmby1 (views (seg TTby1 selby1 3000 tmby1 tby11)), vwby1 1) := by kernel_rfl
theorem vcsby12 : ∀ v ∈ vwby1 2, VC TTby1 invby1 msby1 2 tby12 v := all_cons (fun _ _ _ _ => all_nil) (all_cons vcby12_1 (all_nil))
theorem okby12 : cfgOk tby12 = true := by kernel_rfl
theorem sgby12 : segL cBytes1.roms cBytes1 (seg TTby1 selby1 3000 tmby1 tby12) = (true, codesR tmby1 (views (seg TTby1 selby1 3000 tmby1 tby12)), vwby1 2) := by kernel_rfl
theorem lnby10 : ∀ ρ, Known TTby1 (startF 5 cBytes1.pat (.lit true :: cBytes1.pre)) ρ → invby1 0 ρ.lt → Holds ρ (leanOf (Cfg.pc (startF 5 cBytes1.pat (.lit true :: cBytes1.pre)))) := by
  intro ρ _ _
  exact (show Holds ρ [] from fun p hp => by cases hp)
theorem lnby11 : ∀ ρ, Known TTby1 tby11 ρ → invby1 1 ρ.lt → Holds ρ (leanOf (Cfg.pc tby11)) := by
  intro ρ _ _
  exact (show Holds ρ [] from fun p hp => by cases hp)
theorem lnby12 : ∀ ρ, Known TTby1 tby12 ρ → invby1 2 ρ.lt → Holds ρ (leanOf (Cfg.pc tby12)) := by
  intro ρ _ _
  exact (show Holds ρ [] from fun p hp => by cases hp)
theorem told_by1 : Sx.Told dsk.Φ cBytes1 := by
  refine told_of (cs := [cWorks]) (all_cons told_works (all_nil)) (sel := selby1) 3000 tmby1 invby1 msby1 vwby1 0 (pc0 := (.lit true :: cBytes1.pre)) (by kernel_rfl) (by kernel_rfl) (by kernel_rfl) (post_nil rfl) ?_ ?_ ?_ rfl (fun ρ _ h => h.cons (p := .lit true) (by simp only [BE.den])) (fun _ _ _ _ => trivial) ?_
  · intro k C h
    have := lk_mem h
    simp only [tmby1, List.mem_cons, Prod.mk.injEq, List.not_mem_nil, or_false] at this
    rcases this with ⟨rfl, rfl⟩ | ⟨rfl, rfl⟩ | ⟨rfl, rfl⟩
    · exact okby10
    · exact okby11
    · exact okby12
  · intro k C h
    have := lk_mem h
    simp only [tmby1, List.mem_cons, Prod.mk.injEq, List.not_mem_nil, or_false] at this
    rcases this with ⟨rfl, rfl⟩ | ⟨rfl, rfl⟩ | ⟨rfl, rfl⟩
    · exact sgby10
    · exact sgby11
    · exact sgby12
  · intro k C h
    have := lk_mem h
    simp only [tmby1, List.mem_cons, Prod.mk.injEq, List.not_mem_nil, or_false] at this
    rcases this with ⟨rfl, rfl⟩ | ⟨rfl, rfl⟩ | ⟨rfl, rfl⟩
    · exact vcsby10
    · exact vcsby11
    · exact vcsby12
  · intro k C h
    have := lk_mem h
    simp only [tmby1, List.mem_cons, Prod.mk.injEq, List.not_mem_nil, or_false] at this
    rcases this with ⟨rfl, rfl⟩ | ⟨rfl, rfl⟩ | ⟨rfl, rfl⟩
    · exact lnby10
    · exact lnby11
    · exact lnby12
end Go.Proofs.Ytjihjnpmablhbaa.dsk
