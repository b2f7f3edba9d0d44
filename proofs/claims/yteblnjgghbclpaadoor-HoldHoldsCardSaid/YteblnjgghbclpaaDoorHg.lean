/- Layer hold: holds. No condition. -/
import Derived.Test.YteblnjgghbclpaaDoorHf
set_option linter.unusedVariables false
set_option linter.unusedSimpArgs false
set_option linter.deprecated false
namespace Go.Proofs.YteblnjgghbclpaaDoor.hold
open Go Go.Proofs.YteblnjgghbclpaaDoor.Sx
noncomputable section
abbrev TTrightP : Tab := T hold.Φ cRightP.roms [cM86, cM86z, cTogF, cRight1]
def trightP1 : Cfg := { top := ⟨79, over (opqS 10000 22) [(0, (SV.rom 0 (IE.lit 0) (IE.len (LE.rom 0)) none)), (1, (SV.func (Go.Fn.func 100) [] [(SV.ptr 1 0), (SV.ptr 0 0)])), (8, (SV.rom 0 (IE.lit 0) (IE.len (LE.rom 0)) none)), (9, (SV.int .i64 (IE.len (LE.rom 0)))), (10, (SV.int .i64 (IE.var .i64 1000)))], ogt (loopTodo (bodyOf (T hold.Φ [] []) 79) 0), [], false, none⟩, rest := [⟨75, over (opqS 30000 28) [(0, (SV.rom 0 (IE.lit 0) (IE.len (LE.rom 0)) none))], ogt (callTodo (bodyOf (T hold.Φ [] []) 75) 3 [2, 3, 4, 5, 6, 7]), [], false, none⟩], heap := [(1, .cells [(SV.int .i64 (IE.var .i64 1001)), (SV.int .i64 (IE.var .i64 1002)), (SV.int .i64 (IE.var .i64 1003))] 141), (0, .cells [(SV.func (Go.Fn.func 99) [] [])] 139)], next := 2, pc := .lit true :: ([] ++ [(BE.le (IE.len (LE.rom 0)) (IE.lit 1000000)), (BE.le (IE.lit 0) (IE.var .i64 1000)), (BE.le (IE.var .i64 1000) (IE.len (LE.rom 0)))]) }
def tmrightP : List (Nat × Cfg) := [(0, startF 75 cRightP.pat (.lit true :: cRightP.pre)), (1, trightP1)]
def selrightP : Sel := [(79, 1, 1, 1)]
def wrightP0_0 : VW := (VW.cut 1 [(BE.lit true), (BE.le (IE.len (LE.rom 0)) (IE.lit 1000000))] (Sx.Sub.mk [(.i64, (1003, (IE.lit 0))), (.i64, (1002, (IE.lit 0))), (.i64, (1001, (IE.lit (-1)))), (.i64, (1000, (IE.lit 0)))] [] [] [] [] []))
def vwrightP0 : List VW := [wrightP0_0]
def pcrightP1_0 : List BE := [(BE.lit true), (BE.le (IE.len (LE.rom 0)) (IE.lit 1000000)), (BE.le (IE.lit 0) (IE.var .i64 1000)), (BE.le (IE.var .i64 1000) (IE.len (LE.rom 0)))]
def pcrightP1_1 : List BE := ((BE.le (IE.len (LE.rom 0)) (IE.var .i64 1000)) :: pcrightP1_0)
def pcrightP1_2 : List BE := ((BE.not (BE.le (IE.len (LE.rom 0)) (IE.var .i64 1000))) :: pcrightP1_0)
def pcrightP1_3 : List BE := ((BE.not (BE.le (IE.lit 1) (IE.len (LE.rom 0)))) :: pcrightP1_1)
def pcrightP1_4 : List BE := ((BE.fn 2 (AL.int .i64 (IE.cel .i64 (LE.rom 0) (IE.var .i64 1000) 0) (AL.int .i64 (IE.cel .i64 (LE.rom 0) (IE.var .i64 1000) 1) (AL.int .i64 (IE.cel .i64 (LE.rom 0) (IE.var .i64 1000) 2) AL.nil)))) :: pcrightP1_2)
def pcrightP1_5 : List BE := ((BE.eq (IE.len (LE.fn 2 (AL.lst (LE.rom 0) AL.nil))) (IE.len (LE.rom 0))) :: (BE.le (IE.lit 1) (IE.len (LE.rom 0))) :: pcrightP1_1)
def pcrightP1_6 : List BE := ((BE.fn 6 (AL.lst LE.nil AL.nil)) :: pcrightP1_3)
def pcrightP1_7 : List BE := ((BE.le (IE.cel .i64 (LE.rom 0) (IE.var .i64 1000) 0) (IE.var .i64 1001)) :: pcrightP1_4)
def pcrightP1_8 : List BE := ((BE.fn 6 (AL.lst (LE.fn 2 (AL.lst (LE.rom 0) AL.nil)) AL.nil)) :: pcrightP1_5)
def wrightP1_0 : VW := (VW.done ((BE.fn 3 (AL.lst (LE.fn 2 (AL.lst (LE.rom 0) AL.nil)) AL.nil)) :: pcrightP1_8) (some [(G.b (BE.fn 4 (AL.lst (LE.rom 0) AL.nil)) (BE.eq (IE.ite (BE.fn 6 (AL.lst (LE.fn 2 (AL.lst (LE.rom 0) AL.nil)) AL.nil)) (IE.lit 0) (IE.lit 130)) (IE.lit 0)))]))
def wrightP1_1 : VW := (VW.done ((BE.not (BE.fn 3 (AL.lst (LE.fn 2 (AL.lst (LE.rom 0) AL.nil)) AL.nil))) :: pcrightP1_8) (some [(G.b (BE.fn 4 (AL.lst (LE.rom 0) AL.nil)) (BE.lit false))]))
def wrightP1_2 : VW := (VW.done ((BE.not (BE.fn 6 (AL.lst (LE.fn 2 (AL.lst (LE.rom 0) AL.nil)) AL.nil))) :: pcrightP1_5) (some [(G.b (BE.fn 4 (AL.lst (LE.rom 0) AL.nil)) (BE.lit false))]))
def wrightP1_3 : VW := (VW.done ((BE.fn 3 (AL.lst LE.nil AL.nil)) :: pcrightP1_6) (some [(G.b (BE.fn 4 (AL.lst (LE.rom 0) AL.nil)) (BE.eq (IE.ite (BE.fn 6 (AL.lst LE.nil AL.nil)) (IE.lit 0) (IE.lit 130)) (IE.lit 0)))]))
def wrightP1_4 : VW := (VW.done ((BE.not (BE.fn 3 (AL.lst LE.nil AL.nil))) :: pcrightP1_6) (some [(G.b (BE.fn 4 (AL.lst (LE.rom 0) AL.nil)) (BE.lit false))]))
def wrightP1_5 : VW := (VW.done ((BE.not (BE.fn 6 (AL.lst LE.nil AL.nil))) :: pcrightP1_3) (some [(G.b (BE.fn 4 (AL.lst (LE.rom 0) AL.nil)) (BE.lit false))]))
def wrightP1_6 : VW := (VW.done ((BE.le (IE.var .i64 1001) (IE.cel .i64 (LE.rom 0) (IE.var .i64 1000) 0)) :: pcrightP1_7) (some [(G.b (BE.fn 4 (AL.lst (LE.rom 0) AL.nil)) (BE.lit false))]))
def wrightP1_7 : VW := (VW.done ((BE.not (BE.le (IE.var .i64 1001) (IE.cel .i64 (LE.rom 0) (IE.var .i64 1000) 0))) :: pcrightP1_7) (some [(G.b (BE.fn 4 (AL.lst (LE.rom 0) AL.nil)) (BE.lit false))]))
def wrightP1_8 : VW := (VW.cut 1 ((BE.not (BE.le (IE.cel .i64 (LE.rom 0) (IE.var .i64 1000) 0) (IE.var .i64 1001))) :: pcrightP1_4) (Sx.Sub.mk [(.i64, (1003, (IE.cel .i64 (LE.rom 0) (IE.var .i64 1000) 2))), (.i64, (1002, (IE.cel .i64 (LE.rom 0) (IE.var .i64 1000) 1))), (.i64, (1001, (IE.cel .i64 (LE.rom 0) (IE.var .i64 1000) 0))), (.i64, (1000, (IE.add (IE.var .i64 1000) (IE.lit 1))))] [] [] [] [] []))
def wrightP1_9 : VW := (VW.done ((BE.not (BE.fn 2 (AL.int .i64 (IE.cel .i64 (LE.rom 0) (IE.var .i64 1000) 0) (AL.int .i64 (IE.cel .i64 (LE.rom 0) (IE.var .i64 1000) 1) (AL.int .i64 (IE.cel .i64 (LE.rom 0) (IE.var .i64 1000) 2) AL.nil))))) :: pcrightP1_2) (some [(G.b (BE.fn 4 (AL.lst (LE.rom 0) AL.nil)) (BE.lit false))]))
def vwrightP1 : List VW := [wrightP1_0, wrightP1_1, wrightP1_2, wrightP1_3, wrightP1_4, wrightP1_5, wrightP1_6, wrightP1_7, wrightP1_8, wrightP1_9]
def vwrightP : Nat → List VW
  | 0 => vwrightP0
  | 1 => vwrightP1
  | _ => []
end
def invrightP : Nat → Lt → Prop
  | 1, l => risN (l.z.rl 0) (l.i .i64 1000).toNat = true ∧ (((l.i .i64 1000) = 0 ∧ (l.i .i64 1001) = -1) ∨ (1 ≤ (l.i .i64 1000) ∧ (l.i .i64 1001) = clampK .i64 (intV (celV (l.z.rl 0) ((l.i .i64 1000) - 1) 0))))
  | _, _ => True
def msrightP : Nat → Lt → Nat
  | 0, l => (l.z.rl 0).length + 1
  | 1, l => (l.z.rl 0).length - (l.i .i64 1000).toNat
  | _, _ => 0
theorem vcrightP0_0 : VC TTrightP invrightP msrightP 0 (startF 75 cRightP.pat (.lit true :: cRightP.pre)) wrightP0_0 := by
  intro ρ kn hi hp
  have hF : ρ.z.F = hold.Φ := kn.F
  simp only [h_nil, h_cons, d_le, d_eq, d_not, d_var, d_lit, d_cel, d_leq, d_fn, d_and, d_iff, IE.den, LE.den, AL.den, lenV, true_and, and_true, hF, pi1, pl2, pb1, pb2, pb3, pb4, pb5, pb6] at hp
  have p1 := hp
  refine (show (risN (ρ.z.rl 0) (0 : Int).toNat = true ∧ (((0 : Int) = 0 ∧ (-1 : Int) = -1) ∨ (1 ≤ (0 : Int) ∧ (-1 : Int) = clampK .i64 (intV (celV (ρ.z.rl 0) ((0 : Int) - 1) 0))))) ∧ (((ρ.z.rl 0).length - (0 : Int).toNat : Nat) < (ρ.z.rl 0).length + 1) from ?_)
  exact ⟨⟨rfl, .inl ⟨rfl, rfl⟩⟩, by omega⟩
def ivrightP1 (ρ : Rho) : Prop := risN (ρ.z.rl 0) (ρ.i .i64 1000).toNat = true ∧ (((ρ.i .i64 1000) = 0 ∧ (ρ.i .i64 1001) = -1) ∨ (1 ≤ (ρ.i .i64 1000) ∧ (ρ.i .i64 1001) = clampK .i64 (intV (celV (ρ.z.rl 0) ((ρ.i .i64 1000) - 1) 0))))
theorem vcgrightP1_4 : VC TTrightP invrightP msrightP 1 trightP1 wrightP1_6 ∧ VC TTrightP invrightP msrightP 1 trightP1 wrightP1_7 ∧ VC TTrightP invrightP msrightP 1 trightP1 wrightP1_9 := by
  refine ⟨?_, ?_, ?_⟩
  all_goals
    intro ρ kn hi hp
    have hi : ivrightP1 ρ := hi
    unfold ivrightP1 at hi
    have hF : ρ.z.F = hold.Φ := kn.F
    simp only [h_nil, h_cons, d_le, d_eq, d_not, d_var, d_lit, d_cel, d_leq, d_fn, d_and, d_iff, IE.den, LE.den, AL.den, lenV, true_and, and_true, pcrightP1_7, pcrightP1_4, pcrightP1_2, pcrightP1_0, hF, pi1, pl2, pb1, pb2, pb3, pb4, pb5, pb6] at hp
    have p1 := And.left hp
    replace hp := And.right hp
    repeat (have _ := And.left hp; replace hp := And.right hp)
    refine all_cons (show (ρ.z.F.b 4 [.lst (ρ.z.rl 0)]) = false from ?_) (all_nil)
    all_goals try simp only [hF, pi1, pl2, pb1, pb2, pb3, pb4, pb5, pb6]
    refine right_f (i := ρ.i .i64 1000) (by omega) (by omega) fun hh => ?_
    obtain ⟨_, g2, g3⟩ := (ris_s (by omega)).1 hh
    first
      | (exact absurd g2 p1)
      | (rw [may_iff] at g2; omega)
theorem vcrightP1_0 : VC TTrightP invrightP msrightP 1 trightP1 wrightP1_0 := by
  intro ρ kn hi hp
  have hi : ivrightP1 ρ := hi
  unfold ivrightP1 at hi
  have hF : ρ.z.F = hold.Φ := kn.F
  simp only [h_nil, h_cons, d_le, d_eq, d_not, d_var, d_lit, d_cel, d_leq, d_fn, d_and, d_iff, IE.den, LE.den, AL.den, lenV, true_and, and_true, pcrightP1_8, pcrightP1_5, pcrightP1_1, pcrightP1_0, hF, pi1, pl2, pb1, pb2, pb3, pb4, pb5, pb6] at hp
  obtain ⟨p1, p2, p3, p4, p5, p6, p7, p8⟩ := hp
  refine all_cons (show (ρ.z.F.b 4 [.lst (ρ.z.rl 0)]) = (decide ((if (ρ.z.F.b 6 [.lst (ρ.z.F.l 2 [.lst (ρ.z.rl 0)])]) then (0 : Int) else (130 : Int)) = (0 : Int))) from ?_) (all_nil)
  all_goals try simp only [hF, pi1, pl2, pb1, pb2, pb3, pb4, pb5, pb6]
  obtain ⟨e1, e2⟩ := right_t (i := ρ.i .i64 1000) (by assumption) (by assumption) hi.1
  rw [e1, p1, p2]; simp
theorem vcrightP1_1 : VC TTrightP invrightP msrightP 1 trightP1 wrightP1_1 := by
  intro ρ kn hi hp
  have hi : ivrightP1 ρ := hi
  unfold ivrightP1 at hi
  have hF : ρ.z.F = hold.Φ := kn.F
  simp only [h_nil, h_cons, d_le, d_eq, d_not, d_var, d_lit, d_cel, d_leq, d_fn, d_and, d_iff, IE.den, LE.den, AL.den, lenV, true_and, and_true, pcrightP1_8, pcrightP1_5, pcrightP1_1, pcrightP1_0, hF, pi1, pl2, pb1, pb2, pb3, pb4, pb5, pb6] at hp
  obtain ⟨p1, p2, p3, p4, p5, p6, p7, p8⟩ := hp
  refine all_cons (show (ρ.z.F.b 4 [.lst (ρ.z.rl 0)]) = false from ?_) (all_nil)
  all_goals try simp only [hF, pi1, pl2, pb1, pb2, pb3, pb4, pb5, pb6]
  obtain ⟨e1, e2⟩ := right_t (i := ρ.i .i64 1000) (by assumption) (by assumption) hi.1
  rw [e1]; exact Bool.eq_false_iff.2 p1
theorem vcrightP1_2 : VC TTrightP invrightP msrightP 1 trightP1 wrightP1_2 := by
  intro ρ kn hi hp
  have hi : ivrightP1 ρ := hi
  unfold ivrightP1 at hi
  have hF : ρ.z.F = hold.Φ := kn.F
  simp only [h_nil, h_cons, d_le, d_eq, d_not, d_var, d_lit, d_cel, d_leq, d_fn, d_and, d_iff, IE.den, LE.den, AL.den, lenV, true_and, and_true, pcrightP1_5, pcrightP1_1, pcrightP1_0, hF, pi1, pl2, pb1, pb2, pb3, pb4, pb5, pb6] at hp
  obtain ⟨p1, p2, p3, p4, p5, p6, p7⟩ := hp
  refine all_cons (show (ρ.z.F.b 4 [.lst (ρ.z.rl 0)]) = false from ?_) (all_nil)
  all_goals try simp only [hF, pi1, pl2, pb1, pb2, pb3, pb4, pb5, pb6]
  obtain ⟨e1, e2⟩ := right_t (i := ρ.i .i64 1000) (by assumption) (by assumption) hi.1
  exact absurd e2 p1
theorem vcrightP1_3 : VC TTrightP invrightP msrightP 1 trightP1 wrightP1_3 := by
  intro ρ kn hi hp
  have hi : ivrightP1 ρ := hi
  unfold ivrightP1 at hi
  have hF : ρ.z.F = hold.Φ := kn.F
  simp only [h_nil, h_cons, d_le, d_eq, d_not, d_var, d_lit, d_cel, d_leq, d_fn, d_and, d_iff, IE.den, LE.den, AL.den, lenV, true_and, and_true, pcrightP1_6, pcrightP1_3, pcrightP1_1, pcrightP1_0, hF, pi1, pl2, pb1, pb2, pb3, pb4, pb5, pb6] at hp
  obtain ⟨p1, p2, p3, p4, p5, p6, p7⟩ := hp
  refine all_cons (show (ρ.z.F.b 4 [.lst (ρ.z.rl 0)]) = (decide ((if (ρ.z.F.b 6 [.lst ([] : LV)]) then (0 : Int) else (130 : Int)) = (0 : Int))) from ?_) (all_nil)
  all_goals try simp only [hF, pi1, pl2, pb1, pb2, pb3, pb4, pb5, pb6]
  obtain ⟨e1, e2⟩ := right_t (i := ρ.i .i64 1000) (by assumption) (by assumption) hi.1
  rw [show (ρ.z.rl 0).length = 0 by omega] at e1
  rw [e1]; simp [modesL, togN, modesN]
theorem vcrightP1_4 : VC TTrightP invrightP msrightP 1 trightP1 wrightP1_4 := by
  intro ρ kn hi hp
  have hi : ivrightP1 ρ := hi
  unfold ivrightP1 at hi
  have hF : ρ.z.F = hold.Φ := kn.F
  simp only [h_nil, h_cons, d_le, d_eq, d_not, d_var, d_lit, d_cel, d_leq, d_fn, d_and, d_iff, IE.den, LE.den, AL.den, lenV, true_and, and_true, pcrightP1_6, pcrightP1_3, pcrightP1_1, pcrightP1_0, hF, pi1, pl2, pb1, pb2, pb3, pb4, pb5, pb6] at hp
  obtain ⟨p1, p2, p3, p4, p5, p6, p7⟩ := hp
  refine all_cons (show (ρ.z.F.b 4 [.lst (ρ.z.rl 0)]) = false from ?_) (all_nil)
  all_goals try simp only [hF, pi1, pl2, pb1, pb2, pb3, pb4, pb5, pb6]
  exact absurd rfl p1
theorem vcrightP1_5 : VC TTrightP invrightP msrightP 1 trightP1 wrightP1_5 := by
  intro ρ kn hi hp
  have hi : ivrightP1 ρ := hi
  unfold ivrightP1 at hi
  have hF : ρ.z.F = hold.Φ := kn.F
  simp only [h_nil, h_cons, d_le, d_eq, d_not, d_var, d_lit, d_cel, d_leq, d_fn, d_and, d_iff, IE.den, LE.den, AL.den, lenV, true_and, and_true, pcrightP1_3, pcrightP1_1, pcrightP1_0, hF, pi1, pl2, pb1, pb2, pb3, pb4, pb5, pb6] at hp
  obtain ⟨p1, p2, p3, p4, p5, p6⟩ := hp
  refine all_cons (show (ρ.z.F.b 4 [.lst (ρ.z.rl 0)]) = false from ?_) (all_nil)
  all_goals try simp only [hF, pi1, pl2, pb1, pb2, pb3, pb4, pb5, pb6]
  exact absurd rfl p1
theorem vcrightP1_8 : VC TTrightP invrightP msrightP 1 trightP1 wrightP1_8 := by
  intro ρ kn hi hp
  have hi : ivrightP1 ρ := hi
  unfold ivrightP1 at hi
  have hF : ρ.z.F = hold.Φ := kn.F
  simp only [h_nil, h_cons, d_le, d_eq, d_not, d_var, d_lit, d_cel, d_leq, d_fn, d_and, d_iff, IE.den, LE.den, AL.den, lenV, true_and, and_true, pcrightP1_4, pcrightP1_2, pcrightP1_0, hF, pi1, pl2, pb1, pb2, pb3, pb4, pb5, pb6] at hp
  obtain ⟨p1, p2, p3, p4, p5, p6⟩ := hp
  refine (show (risN (ρ.z.rl 0) ((ρ.i .i64 1000) + (1 : Int)).toNat = true ∧ ((((ρ.i .i64 1000) + (1 : Int)) = 0 ∧ (clampK .i64 (intV (celV (ρ.z.rl 0) (ρ.i .i64 1000) 0))) = -1) ∨ (1 ≤ ((ρ.i .i64 1000) + (1 : Int)) ∧ (clampK .i64 (intV (celV (ρ.z.rl 0) (ρ.i .i64 1000) 0))) = clampK .i64 (intV (celV (ρ.z.rl 0) (((ρ.i .i64 1000) + (1 : Int)) - 1) 0))))) ∧ (((ρ.z.rl 0).length - ((ρ.i .i64 1000) + (1 : Int)).toNat : Nat) < (ρ.z.rl 0).length - (ρ.i .i64 1000).toNat) from ?_)
  refine ⟨⟨(ris_s (by omega)).2 ⟨hi.1, by assumption, by omega⟩, .inr ⟨by omega, by rw [Int.add_sub_cancel]⟩⟩, by omega⟩
theorem vcsrightP0 : ∀ v ∈ vwrightP 0, VC TTrightP invrightP msrightP 0 (startF 75 cRightP.pat (.lit true :: cRightP.pre)) v := all_cons vcrightP0_0 (all_nil)
theorem okrightP0 : cfgOk (startF 75 cRightP.pat (.lit true :: cRightP.pre)) = true := by kernel_rfl
theorem sgrightP0 : segL cRightP.roms cRightP (seg TTrightP selrightP 2500 tmrightP (startF 75 cRightP.pat (.lit true :: cRightP.pre))) = (true, codesR tmrightP (views (seg TTrightP selrightP 2500 tmrightP (startF 75 cRightP.pat (.lit true :: cRightP.pre)))), vwrightP 0) := by kernel_rfl
theorem vcsrightP1 : ∀ v ∈ vwrightP 1, VC TTrightP invrightP msrightP 1 trightP1 v := all_cons vcrightP1_0 (all_cons vcrightP1_1 (all_cons vcrightP1_2 (all_cons vcrightP1_3 (all_cons vcrightP1_4 (all_cons vcrightP1_5 (all_cons vcgrightP1_4.1 (all_cons vcgrightP1_4.2.1 (all_cons vcrightP1_8 (all_cons vcgrightP1_4.2.2 (all_nil))))))))))
theorem okrightP1 : cfgOk trightP1 = true := by kernel_rfl
theorem sgrightP1 : segL cRightP.roms cRightP (seg TTrightP selrightP 2500 tmrightP trightP1) = (true, codesR tmrightP (views (seg TTrightP selrightP 2500 tmrightP trightP1)), vwrightP 1) := by kernel_rfl
theorem lnrightP0 : ∀ ρ, Known TTrightP (startF 75 cRightP.pat (.lit true :: cRightP.pre)) ρ → invrightP 0 ρ.lt → Holds ρ (leanOf (Cfg.pc (startF 75 cRightP.pat (.lit true :: cRightP.pre)))) := by
  intro ρ _ _
  exact (show Holds ρ [] from fun p hp => by cases hp)
theorem lnrightP1 : ∀ ρ, Known TTrightP trightP1 ρ → invrightP 1 ρ.lt → Holds ρ (leanOf (Cfg.pc trightP1)) := by
  intro ρ _ _
  exact (show Holds ρ [] from fun p hp => by cases hp)
theorem told_rightP : Sx.Told hold.Φ cRightP := by
  refine told_of (cs := [cM86, cM86z, cTogF, cRight1]) (all_cons told_m86 (all_cons told_m86z (all_cons told_togF (all_cons told_right1 (all_nil))))) (sel := selrightP) 2500 tmrightP invrightP msrightP vwrightP 0 (pc0 := (.lit true :: cRightP.pre)) (by kernel_rfl) (by kernel_rfl) (by kernel_rfl) (post_nil rfl) ?_ ?_ ?_ rfl (fun ρ _ h => h.cons (p := .lit true) (by simp only [BE.den])) (fun _ _ _ _ => trivial) ?_
  · intro k C h
    have := lk_mem h
    simp only [tmrightP, List.mem_cons, Prod.mk.injEq, List.not_mem_nil, or_false] at this
    rcases this with ⟨rfl, rfl⟩ | ⟨rfl, rfl⟩
    · exact okrightP0
    · exact okrightP1
  · intro k C h
    have := lk_mem h
    simp only [tmrightP, List.mem_cons, Prod.mk.injEq, List.not_mem_nil, or_false] at this
    rcases this with ⟨rfl, rfl⟩ | ⟨rfl, rfl⟩
    · exact sgrightP0
    · exact sgrightP1
  · intro k C h
    have := lk_mem h
    simp only [tmrightP, List.mem_cons, Prod.mk.injEq, List.not_mem_nil, or_false] at this
    rcases this with ⟨rfl, rfl⟩ | ⟨rfl, rfl⟩
    · exact vcsrightP0
    · exact vcsrightP1
  · intro k C h
    have := lk_mem h
    simp only [tmrightP, List.mem_cons, Prod.mk.injEq, List.not_mem_nil, or_false] at this
    rcases this with ⟨rfl, rfl⟩ | ⟨rfl, rfl⟩
    · exact lnrightP0
    · exact lnrightP1
noncomputable section
abbrev TTrightR : Tab := T hold.Φ cRightR.roms [cM51, cM51z, cTog03, cMay]
def trightR1 : Cfg := { top := ⟨44, over (opqS 10000 37) [(0, (SV.rom 0 (IE.lit 0) (IE.len (LE.rom 0)) none)), (3, (SV.int .i64 (IE.var .i64 1000)))], ogt (loopTodo (bodyOf (T hold.Φ [] []) 44) 0), [], false, none⟩, rest := [], heap := [], next := 1, pc := .lit true :: ([] ++ [(BE.le (IE.len (LE.rom 0)) (IE.lit 1000000)), (BE.le (IE.lit 0) (IE.var .i64 1000)), (BE.le (IE.var .i64 1000) (IE.len (LE.rom 0)))]) }
def tmrightR : List (Nat × Cfg) := [(0, startF 44 cRightR.pat (.lit true :: cRightR.pre)), (1, trightR1)]
def selrightR : Sel := [(44, 1, 0, 1)]
def wrightR0_0 : VW := (VW.cut 1 [(BE.lit true), (BE.le (IE.len (LE.rom 0)) (IE.lit 1000000))] (Sx.Sub.mk [(.i64, (1000, (IE.lit 0)))] [] [] [] [] []))
def vwrightR0 : List VW := [wrightR0_0]
def pcrightR1_0 : List BE := [(BE.lit true), (BE.le (IE.len (LE.rom 0)) (IE.lit 1000000)), (BE.le (IE.lit 0) (IE.var .i64 1000)), (BE.le (IE.var .i64 1000) (IE.len (LE.rom 0)))]
def pcrightR1_1 : List BE := ((BE.le (IE.len (LE.rom 0)) (IE.var .i64 1000)) :: pcrightR1_0)
def pcrightR1_2 : List BE := ((BE.not (BE.le (IE.len (LE.rom 0)) (IE.var .i64 1000))) :: pcrightR1_0)
def pcrightR1_3 : List BE := ((BE.fn 2 (AL.int .i64 (IE.cel .i64 (LE.rom 0) (IE.var .i64 1000) 0) (AL.int .i64 (IE.cel .i64 (LE.rom 0) (IE.var .i64 1000) 1) (AL.int .i64 (IE.cel .i64 (LE.rom 0) (IE.var .i64 1000) 2) AL.nil)))) :: pcrightR1_2)
def pcrightR1_4 : List BE := ((BE.not (BE.le (IE.var .i64 1000) (IE.lit 0))) :: pcrightR1_3)
def wrightR1_0 : VW := (VW.done ((BE.eq (IE.len (LE.fn 2 (AL.lst (LE.rom 0) AL.nil))) (IE.len (LE.rom 0))) :: (BE.le (IE.lit 1) (IE.len (LE.rom 0))) :: pcrightR1_1) (some [(G.b (BE.fn 4 (AL.lst (LE.rom 0) AL.nil)) (BE.fn 3 (AL.lst (LE.fn 2 (AL.lst (LE.rom 0) AL.nil)) AL.nil)))]))
def wrightR1_1 : VW := (VW.done ((BE.not (BE.le (IE.lit 1) (IE.len (LE.rom 0)))) :: pcrightR1_1) (some [(G.b (BE.fn 4 (AL.lst (LE.rom 0) AL.nil)) (BE.fn 3 (AL.lst LE.nil AL.nil)))]))
def wrightR1_2 : VW := (VW.cut 1 ((BE.le (IE.var .i64 1000) (IE.lit 0)) :: pcrightR1_3) (Sx.Sub.mk [(.i64, (1000, (IE.add (IE.var .i64 1000) (IE.lit 1))))] [] [] [] [] []))
def wrightR1_3 : VW := (VW.done ((BE.le (IE.cel .i64 (LE.rom 0) (IE.var .i64 1000) 0) (IE.cel .i64 (LE.rom 0) (IE.sub (IE.var .i64 1000) (IE.lit 1)) 0)) :: pcrightR1_4) (some [(G.b (BE.fn 4 (AL.lst (LE.rom 0) AL.nil)) (BE.lit false))]))
def wrightR1_4 : VW := (VW.cut 1 ((BE.not (BE.le (IE.cel .i64 (LE.rom 0) (IE.var .i64 1000) 0) (IE.cel .i64 (LE.rom 0) (IE.sub (IE.var .i64 1000) (IE.lit 1)) 0))) :: pcrightR1_4) (Sx.Sub.mk [(.i64, (1000, (IE.add (IE.var .i64 1000) (IE.lit 1))))] [] [] [] [] []))
def wrightR1_5 : VW := (VW.done ((BE.not (BE.fn 2 (AL.int .i64 (IE.cel .i64 (LE.rom 0) (IE.var .i64 1000) 0) (AL.int .i64 (IE.cel .i64 (LE.rom 0) (IE.var .i64 1000) 1) (AL.int .i64 (IE.cel .i64 (LE.rom 0) (IE.var .i64 1000) 2) AL.nil))))) :: pcrightR1_2) (some [(G.b (BE.fn 4 (AL.lst (LE.rom 0) AL.nil)) (BE.lit false))]))
def vwrightR1 : List VW := [wrightR1_0, wrightR1_1, wrightR1_2, wrightR1_3, wrightR1_4, wrightR1_5]
def vwrightR : Nat → List VW
  | 0 => vwrightR0
  | 1 => vwrightR1
  | _ => []
end
def invrightR : Nat → Lt → Prop
  | 1, l => risN (l.z.rl 0) (l.i .i64 1000).toNat = true
  | _, _ => True
def msrightR : Nat → Lt → Nat
  | 0, l => (l.z.rl 0).length + 1
  | 1, l => (l.z.rl 0).length - (l.i .i64 1000).toNat
  | _, _ => 0
theorem vcrightR0_0 : VC TTrightR invrightR msrightR 0 (startF 44 cRightR.pat (.lit true :: cRightR.pre)) wrightR0_0 := by
  intro ρ kn hi hp
  have hF : ρ.z.F = hold.Φ := kn.F
  simp only [h_nil, h_cons, d_le, d_eq, d_not, d_var, d_lit, d_cel, d_leq, d_fn, d_and, d_iff, IE.den, LE.den, AL.den, lenV, true_and, and_true, hF, pi1, pl2, pb1, pb2, pb3, pb4, pb5, pb6] at hp
  have p1 := hp
  refine (show (risN (ρ.z.rl 0) (0 : Int).toNat = true) ∧ (((ρ.z.rl 0).length - (0 : Int).toNat : Nat) < (ρ.z.rl 0).length + 1) from ?_)
  exact ⟨rfl, by omega⟩
def ivrightR1 (ρ : Rho) : Prop := risN (ρ.z.rl 0) (ρ.i .i64 1000).toNat = true
theorem vcrightR1_0 : VC TTrightR invrightR msrightR 1 trightR1 wrightR1_0 := by
  intro ρ kn hi hp
  have hi : ivrightR1 ρ := hi
  unfold ivrightR1 at hi
  have hF : ρ.z.F = hold.Φ := kn.F
  simp only [h_nil, h_cons, d_le, d_eq, d_not, d_var, d_lit, d_cel, d_leq, d_fn, d_and, d_iff, IE.den, LE.den, AL.den, lenV, true_and, and_true, pcrightR1_1, pcrightR1_0, hF, pi1, pl2, pb1, pb2, pb3, pb4, pb5, pb6] at hp
  obtain ⟨p1, p2, p3, p4, p5, p6⟩ := hp
  refine all_cons (show (ρ.z.F.b 4 [.lst (ρ.z.rl 0)]) = (ρ.z.F.b 3 [.lst (ρ.z.F.l 2 [.lst (ρ.z.rl 0)])]) from ?_) (all_nil)
  all_goals try simp only [hF, pi1, pl2, pb1, pb2, pb3, pb4, pb5, pb6]
  obtain ⟨e1, e2⟩ := right_t (i := ρ.i .i64 1000) (by assumption) (by assumption) hi
  exact e1
theorem vcrightR1_1 : VC TTrightR invrightR msrightR 1 trightR1 wrightR1_1 := by
  intro ρ kn hi hp
  have hi : ivrightR1 ρ := hi
  unfold ivrightR1 at hi
  have hF : ρ.z.F = hold.Φ := kn.F
  simp only [h_nil, h_cons, d_le, d_eq, d_not, d_var, d_lit, d_cel, d_leq, d_fn, d_and, d_iff, IE.den, LE.den, AL.den, lenV, true_and, and_true, pcrightR1_1, pcrightR1_0, hF, pi1, pl2, pb1, pb2, pb3, pb4, pb5, pb6] at hp
  obtain ⟨p1, p2, p3, p4, p5⟩ := hp
  refine all_cons (show (ρ.z.F.b 4 [.lst (ρ.z.rl 0)]) = (ρ.z.F.b 3 [.lst ([] : LV)]) from ?_) (all_nil)
  all_goals try simp only [hF, pi1, pl2, pb1, pb2, pb3, pb4, pb5, pb6]
  obtain ⟨e1, e2⟩ := right_t (i := ρ.i .i64 1000) (by assumption) (by assumption) hi
  rw [show (ρ.z.rl 0).length = 0 by omega] at e1
  rw [e1]; rfl
theorem vcrightR1_2 : VC TTrightR invrightR msrightR 1 trightR1 wrightR1_2 := by
  intro ρ kn hi hp
  have hi : ivrightR1 ρ := hi
  unfold ivrightR1 at hi
  have hF : ρ.z.F = hold.Φ := kn.F
  simp only [h_nil, h_cons, d_le, d_eq, d_not, d_var, d_lit, d_cel, d_leq, d_fn, d_and, d_iff, IE.den, LE.den, AL.den, lenV, true_and, and_true, pcrightR1_3, pcrightR1_2, pcrightR1_0, hF, pi1, pl2, pb1, pb2, pb3, pb4, pb5, pb6] at hp
  obtain ⟨p1, p2, p3, p4, p5, p6⟩ := hp
  refine (show (risN (ρ.z.rl 0) ((ρ.i .i64 1000) + (1 : Int)).toNat = true) ∧ (((ρ.z.rl 0).length - ((ρ.i .i64 1000) + (1 : Int)).toNat : Nat) < (ρ.z.rl 0).length - (ρ.i .i64 1000).toNat) from ?_)
  exact ⟨(ris_s (by omega)).2 ⟨hi, by assumption, by omega⟩, by omega⟩
theorem vcrightR1_3 : VC TTrightR invrightR msrightR 1 trightR1 wrightR1_3 := by
  intro ρ kn hi hp
  have hi : ivrightR1 ρ := hi
  unfold ivrightR1 at hi
  have hF : ρ.z.F = hold.Φ := kn.F
  simp only [h_nil, h_cons, d_le, d_eq, d_not, d_var, d_lit, d_cel, d_leq, d_fn, d_and, d_iff, IE.den, LE.den, AL.den, lenV, true_and, and_true, pcrightR1_4, pcrightR1_3, pcrightR1_2, pcrightR1_0, hF, pi1, pl2, pb1, pb2, pb3, pb4, pb5, pb6] at hp
  obtain ⟨p1, p2, p3, p4, p5, p6, p7⟩ := hp
  refine all_cons (show (ρ.z.F.b 4 [.lst (ρ.z.rl 0)]) = false from ?_) (all_nil)
  all_goals try simp only [hF, pi1, pl2, pb1, pb2, pb3, pb4, pb5, pb6]
  refine right_f (i := ρ.i .i64 1000) (by omega) (by omega) fun hh => ?_
  obtain ⟨_, g2, g3⟩ := (ris_s (by omega)).1 hh
  first
    | (exact absurd g2 p1)
    | (rw [may_iff] at g2; omega)
theorem vcrightR1_4 : VC TTrightR invrightR msrightR 1 trightR1 wrightR1_4 := by
  intro ρ kn hi hp
  have hi : ivrightR1 ρ := hi
  unfold ivrightR1 at hi
  have hF : ρ.z.F = hold.Φ := kn.F
  simp only [h_nil, h_cons, d_le, d_eq, d_not, d_var, d_lit, d_cel, d_leq, d_fn, d_and, d_iff, IE.den, LE.den, AL.den, lenV, true_and, and_true, pcrightR1_4, pcrightR1_3, pcrightR1_2, pcrightR1_0, hF, pi1, pl2, pb1, pb2, pb3, pb4, pb5, pb6] at hp
  obtain ⟨p1, p2, p3, p4, p5, p6, p7⟩ := hp
  refine (show (risN (ρ.z.rl 0) ((ρ.i .i64 1000) + (1 : Int)).toNat = true) ∧ (((ρ.z.rl 0).length - ((ρ.i .i64 1000) + (1 : Int)).toNat : Nat) < (ρ.z.rl 0).length - (ρ.i .i64 1000).toNat) from ?_)
  exact ⟨(ris_s (by omega)).2 ⟨hi, by assumption, by omega⟩, by omega⟩
theorem vcrightR1_5 : VC TTrightR invrightR msrightR 1 trightR1 wrightR1_5 := by
  intro ρ kn hi hp
  have hi : ivrightR1 ρ := hi
  unfold ivrightR1 at hi
  have hF : ρ.z.F = hold.Φ := kn.F
  simp only [h_nil, h_cons, d_le, d_eq, d_not, d_var, d_lit, d_cel, d_leq, d_fn, d_and, d_iff, IE.den, LE.den, AL.den, lenV, true_and, and_true, pcrightR1_2, pcrightR1_0, hF, pi1, pl2, pb1, pb2, pb3, pb4, pb5, pb6] at hp
  obtain ⟨p1, p2, p3, p4, p5⟩ := hp
  refine all_cons (show (ρ.z.F.b 4 [.lst (ρ.z.rl 0)]) = false from ?_) (all_nil)
  all_goals try simp only [hF, pi1, pl2, pb1, pb2, pb3, pb4, pb5, pb6]
  refine right_f (i := ρ.i .i64 1000) (by omega) (by omega) fun hh => ?_
  obtain ⟨_, g2, g3⟩ := (ris_s (by omega)).1 hh
  first
    | (exact absurd g2 p1)
    | (rw [may_iff] at g2; omega)
theorem vcsrightR0 : ∀ v ∈ vwrightR 0, VC TTrightR invrightR msrightR 0 (startF 44 cRightR.pat (.lit true :: cRightR.pre)) v := all_cons vcrightR0_0 (all_nil)
theorem okrightR0 : cfgOk (startF 44 cRightR.pat (.lit true :: cRightR.pre)) = true := by kernel_rfl
theorem sgrightR0 : segL cRightR.roms cRightR (seg TTrightR selrightR 2500 tmrightR (startF 44 cRightR.pat (.lit true :: cRightR.pre))) = (true, codesR tmrightR (views (seg TTrightR selrightR 2500 tmrightR (startF 44 cRightR.pat (.lit true :: cRightR.pre)))), vwrightR 0) := by kernel_rfl
theorem vcsrightR1 : ∀ v ∈ vwrightR 1, VC TTrightR invrightR msrightR 1 trightR1 v := all_cons vcrightR1_0 (all_cons vcrightR1_1 (all_cons vcrightR1_2 (all_cons vcrightR1_3 (all_cons vcrightR1_4 (all_cons vcrightR1_5 (all_nil))))))
theorem okrightR1 : cfgOk trightR1 = true := by kernel_rfl
theorem sgrightR1 : segL cRightR.roms cRightR (seg TTrightR selrightR 2500 tmrightR trightR1) = (true, codesR tmrightR (views (seg TTrightR selrightR 2500 tmrightR trightR1)), vwrightR 1) := by kernel_rfl
theorem lnrightR0 : ∀ ρ, Known TTrightR (startF 44 cRightR.pat (.lit true :: cRightR.pre)) ρ → invrightR 0 ρ.lt → Holds ρ (leanOf (Cfg.pc (startF 44 cRightR.pat (.lit true :: cRightR.pre)))) := by
  intro ρ _ _
  exact (show Holds ρ [] from fun p hp => by cases hp)
theorem lnrightR1 : ∀ ρ, Known TTrightR trightR1 ρ → invrightR 1 ρ.lt → Holds ρ (leanOf (Cfg.pc trightR1)) := by
  intro ρ _ _
  exact (show Holds ρ [] from fun p hp => by cases hp)
theorem told_rightR : Sx.Told hold.Φ cRightR := by
  refine told_of (cs := [cM51, cM51z, cTog03, cMay]) (all_cons told_m51 (all_cons told_m51z (all_cons told_tog03 (all_cons told_may (all_nil))))) (sel := selrightR) 2500 tmrightR invrightR msrightR vwrightR 0 (pc0 := (.lit true :: cRightR.pre)) (by kernel_rfl) (by kernel_rfl) (by kernel_rfl) (post_nil rfl) ?_ ?_ ?_ rfl (fun ρ _ h => h.cons (p := .lit true) (by simp only [BE.den])) (fun _ _ _ _ => trivial) ?_
  · intro k C h
    have := lk_mem h
    simp only [tmrightR, List.mem_cons, Prod.mk.injEq, List.not_mem_nil, or_false] at this
    rcases this with ⟨rfl, rfl⟩ | ⟨rfl, rfl⟩
    · exact okrightR0
    · exact okrightR1
  · intro k C h
    have := lk_mem h
    simp only [tmrightR, List.mem_cons, Prod.mk.injEq, List.not_mem_nil, or_false] at this
    rcases this with ⟨rfl, rfl⟩ | ⟨rfl, rfl⟩
    · exact sgrightR0
    · exact sgrightR1
  · intro k C h
    have := lk_mem h
    simp only [tmrightR, List.mem_cons, Prod.mk.injEq, List.not_mem_nil, or_false] at this
    rcases this with ⟨rfl, rfl⟩ | ⟨rfl, rfl⟩
    · exact vcsrightR0
    · exact vcsrightR1
  · intro k C h
    have := lk_mem h
    simp only [tmrightR, List.mem_cons, Prod.mk.injEq, List.not_mem_nil, or_false] at this
    rcases this with ⟨rfl, rfl⟩ | ⟨rfl, rfl⟩
    · exact lnrightR0
    · exact lnrightR1
end Go.Proofs.YteblnjgghbclpaaDoor.hold
