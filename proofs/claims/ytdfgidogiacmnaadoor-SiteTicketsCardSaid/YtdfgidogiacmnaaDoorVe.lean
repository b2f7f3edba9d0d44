/- Layer site: names of tickets, and back, told. No condition. -/
import Derived.Test.YtdfgidogiacmnaaDoorVd
set_option linter.unusedVariables false
set_option linter.unusedSimpArgs false
set_option linter.deprecated false
namespace Go.Proofs.YtdfgidogiacmnaaDoor.sih
open Go Go.Proofs.YtdfgidogiacmnaaDoor.Sx
noncomputable section
abbrev TTvrightS : Tab := T sih.Φ cRightS.roms []
def pcvrightS_0 : List BE := [(BE.lit true)]
def pcvrightS_1 : List BE := ((BE.le (IE.lit 1) (IE.var .i64 1)) :: pcvrightS_0)
def pcvrightS_2 : List BE := ((BE.not (BE.le (IE.lit 1) (IE.var .i64 1))) :: pcvrightS_0)
def pcvrightS_3 : List BE := ((BE.le (IE.lit 1) (IE.var .i64 2)) :: pcvrightS_1)
def pcvrightS_4 : List BE := ((BE.not (BE.le (IE.lit 1) (IE.var .i64 2))) :: pcvrightS_1)
def pcvrightS_5 : List BE := ((BE.le (IE.lit 1) (IE.var .i64 2)) :: pcvrightS_2)
def pcvrightS_6 : List BE := ((BE.not (BE.le (IE.lit 1) (IE.var .i64 2))) :: pcvrightS_2)
def pcvrightS_7 : List BE := ((BE.le (IE.lit 1) (IE.var .i64 3)) :: pcvrightS_3)
def pcvrightS_8 : List BE := ((BE.not (BE.le (IE.lit 1) (IE.var .i64 3))) :: pcvrightS_3)
def pcvrightS_9 : List BE := ((BE.le (IE.lit 1) (IE.var .i64 3)) :: pcvrightS_4)
def pcvrightS_10 : List BE := ((BE.not (BE.le (IE.lit 1) (IE.var .i64 3))) :: pcvrightS_4)
def pcvrightS_11 : List BE := ((BE.le (IE.var .i64 1) (IE.lit 64)) :: pcvrightS_7)
def pcvrightS_12 : List BE := ((BE.le (IE.var .i64 1) (IE.lit 64)) :: pcvrightS_8)
def pcvrightS_13 : List BE := ((BE.le (IE.var .i64 2) (IE.lit 8)) :: pcvrightS_11)
def wvrightS_0 : VW := (VW.done ((BE.le (IE.var .i64 3) (IE.lit 4)) :: pcvrightS_13) (some [(G.b (BE.fn 2 (AL.int .i64 (IE.var .i64 1) (AL.int .i64 (IE.var .i64 2) (AL.int .i64 (IE.var .i64 3) AL.nil)))) (BE.lit true))]))
def wvrightS_1 : VW := (VW.done ((BE.not (BE.le (IE.var .i64 3) (IE.lit 4))) :: pcvrightS_13) (some [(G.b (BE.fn 2 (AL.int .i64 (IE.var .i64 1) (AL.int .i64 (IE.var .i64 2) (AL.int .i64 (IE.var .i64 3) AL.nil)))) (BE.lit false))]))
def wvrightS_2 : VW := (VW.done ((BE.not (BE.le (IE.var .i64 2) (IE.lit 8))) :: pcvrightS_11) (some [(G.b (BE.fn 2 (AL.int .i64 (IE.var .i64 1) (AL.int .i64 (IE.var .i64 2) (AL.int .i64 (IE.var .i64 3) AL.nil)))) (BE.lit false))]))
def wvrightS_3 : VW := (VW.done ((BE.not (BE.le (IE.var .i64 1) (IE.lit 64))) :: pcvrightS_7) (some [(G.b (BE.fn 2 (AL.int .i64 (IE.var .i64 1) (AL.int .i64 (IE.var .i64 2) (AL.int .i64 (IE.var .i64 3) AL.nil)))) (BE.lit false))]))
def wvrightS_4 : VW := (VW.done ((BE.le (IE.var .i64 2) (IE.lit 8)) :: pcvrightS_12) (some [(G.b (BE.fn 2 (AL.int .i64 (IE.var .i64 1) (AL.int .i64 (IE.var .i64 2) (AL.int .i64 (IE.var .i64 3) AL.nil)))) (BE.lit false))]))
def wvrightS_5 : VW := (VW.done ((BE.not (BE.le (IE.var .i64 2) (IE.lit 8))) :: pcvrightS_12) (some [(G.b (BE.fn 2 (AL.int .i64 (IE.var .i64 1) (AL.int .i64 (IE.var .i64 2) (AL.int .i64 (IE.var .i64 3) AL.nil)))) (BE.lit false))]))
def wvrightS_6 : VW := (VW.done ((BE.not (BE.le (IE.var .i64 1) (IE.lit 64))) :: pcvrightS_8) (some [(G.b (BE.fn 2 (AL.int .i64 (IE.var .i64 1) (AL.int .i64 (IE.var .i64 2) (AL.int .i64 (IE.var .i64 3) AL.nil)))) (BE.lit false))]))
def wvrightS_7 : VW := (VW.done ((BE.le (IE.var .i64 1) (IE.lit 64)) :: pcvrightS_9) (some [(G.b (BE.fn 2 (AL.int .i64 (IE.var .i64 1) (AL.int .i64 (IE.var .i64 2) (AL.int .i64 (IE.var .i64 3) AL.nil)))) (BE.lit false))]))
def wvrightS_8 : VW := (VW.done ((BE.not (BE.le (IE.var .i64 1) (IE.lit 64))) :: pcvrightS_9) (some [(G.b (BE.fn 2 (AL.int .i64 (IE.var .i64 1) (AL.int .i64 (IE.var .i64 2) (AL.int .i64 (IE.var .i64 3) AL.nil)))) (BE.lit false))]))
def wvrightS_9 : VW := (VW.done ((BE.le (IE.var .i64 1) (IE.lit 64)) :: pcvrightS_10) (some [(G.b (BE.fn 2 (AL.int .i64 (IE.var .i64 1) (AL.int .i64 (IE.var .i64 2) (AL.int .i64 (IE.var .i64 3) AL.nil)))) (BE.lit false))]))
def wvrightS_10 : VW := (VW.done ((BE.not (BE.le (IE.var .i64 1) (IE.lit 64))) :: pcvrightS_10) (some [(G.b (BE.fn 2 (AL.int .i64 (IE.var .i64 1) (AL.int .i64 (IE.var .i64 2) (AL.int .i64 (IE.var .i64 3) AL.nil)))) (BE.lit false))]))
def wvrightS_11 : VW := (VW.done ((BE.le (IE.lit 1) (IE.var .i64 3)) :: pcvrightS_5) (some [(G.b (BE.fn 2 (AL.int .i64 (IE.var .i64 1) (AL.int .i64 (IE.var .i64 2) (AL.int .i64 (IE.var .i64 3) AL.nil)))) (BE.lit false))]))
def wvrightS_12 : VW := (VW.done ((BE.not (BE.le (IE.lit 1) (IE.var .i64 3))) :: pcvrightS_5) (some [(G.b (BE.fn 2 (AL.int .i64 (IE.var .i64 1) (AL.int .i64 (IE.var .i64 2) (AL.int .i64 (IE.var .i64 3) AL.nil)))) (BE.lit false))]))
def wvrightS_13 : VW := (VW.done ((BE.le (IE.lit 1) (IE.var .i64 3)) :: pcvrightS_6) (some [(G.b (BE.fn 2 (AL.int .i64 (IE.var .i64 1) (AL.int .i64 (IE.var .i64 2) (AL.int .i64 (IE.var .i64 3) AL.nil)))) (BE.lit false))]))
def wvrightS_14 : VW := (VW.done ((BE.not (BE.le (IE.lit 1) (IE.var .i64 3))) :: pcvrightS_6) (some [(G.b (BE.fn 2 (AL.int .i64 (IE.var .i64 1) (AL.int .i64 (IE.var .i64 2) (AL.int .i64 (IE.var .i64 3) AL.nil)))) (BE.lit false))]))
def vwvrightS : List VW := [wvrightS_0, wvrightS_1, wvrightS_2, wvrightS_3, wvrightS_4, wvrightS_5, wvrightS_6, wvrightS_7, wvrightS_8, wvrightS_9, wvrightS_10, wvrightS_11, wvrightS_12, wvrightS_13, wvrightS_14]
end
theorem vcvrightS_0 : VD TTvrightS (st0 cRightS) wvrightS_0 := by
  intro ρ kn hp
  have hF : ρ.z.F = sih.Φ := kn.F
  simp only [h_nil, h_cons, d_le, d_eq, d_not, d_var, d_lit, d_cel, d_leq, d_fn, d_and, d_iff, IE.den, LE.den, AL.den, lenV, true_and, and_true, pcvrightS_13, pcvrightS_11, pcvrightS_7, pcvrightS_3, pcvrightS_1, pcvrightS_0, hF, pb2, pb6, pi1, pi3, pi5, pl1] at hp
  obtain ⟨p1, p2, p3, p4, p5, p6⟩ := hp
  refine all_cons (show (ρ.z.F.b 2 [.int .i64 (ρ.i .i64 1), .int .i64 (ρ.i .i64 2), .int .i64 (ρ.i .i64 3)]) = true from ?_) (all_nil)
  all_goals try simp only [hF, pb2, pb6, pi1, pi3, pi5, pl1]
  all_goals
    apply beq_of
    simp only [shapeN_iff, Bool.false_eq_true, iff_false, iff_true, decide_eq_true_eq]
    omega
theorem vcvrightS_1 : VD TTvrightS (st0 cRightS) wvrightS_1 := by
  intro ρ kn hp
  have hF : ρ.z.F = sih.Φ := kn.F
  simp only [h_nil, h_cons, d_le, d_eq, d_not, d_var, d_lit, d_cel, d_leq, d_fn, d_and, d_iff, IE.den, LE.den, AL.den, lenV, true_and, and_true, pcvrightS_13, pcvrightS_11, pcvrightS_7, pcvrightS_3, pcvrightS_1, pcvrightS_0, hF, pb2, pb6, pi1, pi3, pi5, pl1] at hp
  obtain ⟨p1, p2, p3, p4, p5, p6⟩ := hp
  refine all_cons (show (ρ.z.F.b 2 [.int .i64 (ρ.i .i64 1), .int .i64 (ρ.i .i64 2), .int .i64 (ρ.i .i64 3)]) = false from ?_) (all_nil)
  all_goals try simp only [hF, pb2, pb6, pi1, pi3, pi5, pl1]
  all_goals
    apply beq_of
    simp only [shapeN_iff, Bool.false_eq_true, iff_false, iff_true, decide_eq_true_eq]
    omega
theorem vcvrightS_2 : VD TTvrightS (st0 cRightS) wvrightS_2 := by
  intro ρ kn hp
  have hF : ρ.z.F = sih.Φ := kn.F
  simp only [h_nil, h_cons, d_le, d_eq, d_not, d_var, d_lit, d_cel, d_leq, d_fn, d_and, d_iff, IE.den, LE.den, AL.den, lenV, true_and, and_true, pcvrightS_11, pcvrightS_7, pcvrightS_3, pcvrightS_1, pcvrightS_0, hF, pb2, pb6, pi1, pi3, pi5, pl1] at hp
  obtain ⟨p1, p2, p3, p4, p5⟩ := hp
  refine all_cons (show (ρ.z.F.b 2 [.int .i64 (ρ.i .i64 1), .int .i64 (ρ.i .i64 2), .int .i64 (ρ.i .i64 3)]) = false from ?_) (all_nil)
  all_goals try simp only [hF, pb2, pb6, pi1, pi3, pi5, pl1]
  all_goals
    apply beq_of
    simp only [shapeN_iff, Bool.false_eq_true, iff_false, iff_true, decide_eq_true_eq]
    omega
theorem vcvrightS_3 : VD TTvrightS (st0 cRightS) wvrightS_3 := by
  intro ρ kn hp
  have hF : ρ.z.F = sih.Φ := kn.F
  simp only [h_nil, h_cons, d_le, d_eq, d_not, d_var, d_lit, d_cel, d_leq, d_fn, d_and, d_iff, IE.den, LE.den, AL.den, lenV, true_and, and_true, pcvrightS_7, pcvrightS_3, pcvrightS_1, pcvrightS_0, hF, pb2, pb6, pi1, pi3, pi5, pl1] at hp
  obtain ⟨p1, p2, p3, p4⟩ := hp
  refine all_cons (show (ρ.z.F.b 2 [.int .i64 (ρ.i .i64 1), .int .i64 (ρ.i .i64 2), .int .i64 (ρ.i .i64 3)]) = false from ?_) (all_nil)
  all_goals try simp only [hF, pb2, pb6, pi1, pi3, pi5, pl1]
  all_goals
    apply beq_of
    simp only [shapeN_iff, Bool.false_eq_true, iff_false, iff_true, decide_eq_true_eq]
    omega
theorem vcvrightS_4 : VD TTvrightS (st0 cRightS) wvrightS_4 := by
  intro ρ kn hp
  have hF : ρ.z.F = sih.Φ := kn.F
  simp only [h_nil, h_cons, d_le, d_eq, d_not, d_var, d_lit, d_cel, d_leq, d_fn, d_and, d_iff, IE.den, LE.den, AL.den, lenV, true_and, and_true, pcvrightS_12, pcvrightS_8, pcvrightS_3, pcvrightS_1, pcvrightS_0, hF, pb2, pb6, pi1, pi3, pi5, pl1] at hp
  obtain ⟨p1, p2, p3, p4, p5⟩ := hp
  refine all_cons (show (ρ.z.F.b 2 [.int .i64 (ρ.i .i64 1), .int .i64 (ρ.i .i64 2), .int .i64 (ρ.i .i64 3)]) = false from ?_) (all_nil)
  all_goals try simp only [hF, pb2, pb6, pi1, pi3, pi5, pl1]
  all_goals
    apply beq_of
    simp only [shapeN_iff, Bool.false_eq_true, iff_false, iff_true, decide_eq_true_eq]
    omega
theorem vcvrightS_5 : VD TTvrightS (st0 cRightS) wvrightS_5 := by
  intro ρ kn hp
  have hF : ρ.z.F = sih.Φ := kn.F
  simp only [h_nil, h_cons, d_le, d_eq, d_not, d_var, d_lit, d_cel, d_leq, d_fn, d_and, d_iff, IE.den, LE.den, AL.den, lenV, true_and, and_true, pcvrightS_12, pcvrightS_8, pcvrightS_3, pcvrightS_1, pcvrightS_0, hF, pb2, pb6, pi1, pi3, pi5, pl1] at hp
  obtain ⟨p1, p2, p3, p4, p5⟩ := hp
  refine all_cons (show (ρ.z.F.b 2 [.int .i64 (ρ.i .i64 1), .int .i64 (ρ.i .i64 2), .int .i64 (ρ.i .i64 3)]) = false from ?_) (all_nil)
  all_goals try simp only [hF, pb2, pb6, pi1, pi3, pi5, pl1]
  all_goals
    apply beq_of
    simp only [shapeN_iff, Bool.false_eq_true, iff_false, iff_true, decide_eq_true_eq]
    omega
theorem vcvrightS_6 : VD TTvrightS (st0 cRightS) wvrightS_6 := by
  intro ρ kn hp
  have hF : ρ.z.F = sih.Φ := kn.F
  simp only [h_nil, h_cons, d_le, d_eq, d_not, d_var, d_lit, d_cel, d_leq, d_fn, d_and, d_iff, IE.den, LE.den, AL.den, lenV, true_and, and_true, pcvrightS_8, pcvrightS_3, pcvrightS_1, pcvrightS_0, hF, pb2, pb6, pi1, pi3, pi5, pl1] at hp
  obtain ⟨p1, p2, p3, p4⟩ := hp
  refine all_cons (show (ρ.z.F.b 2 [.int .i64 (ρ.i .i64 1), .int .i64 (ρ.i .i64 2), .int .i64 (ρ.i .i64 3)]) = false from ?_) (all_nil)
  all_goals try simp only [hF, pb2, pb6, pi1, pi3, pi5, pl1]
  all_goals
    apply beq_of
    simp only [shapeN_iff, Bool.false_eq_true, iff_false, iff_true, decide_eq_true_eq]
    omega
theorem vcvrightS_7 : VD TTvrightS (st0 cRightS) wvrightS_7 := by
  intro ρ kn hp
  have hF : ρ.z.F = sih.Φ := kn.F
  simp only [h_nil, h_cons, d_le, d_eq, d_not, d_var, d_lit, d_cel, d_leq, d_fn, d_and, d_iff, IE.den, LE.den, AL.den, lenV, true_and, and_true, pcvrightS_9, pcvrightS_4, pcvrightS_1, pcvrightS_0, hF, pb2, pb6, pi1, pi3, pi5, pl1] at hp
  obtain ⟨p1, p2, p3, p4⟩ := hp
  refine all_cons (show (ρ.z.F.b 2 [.int .i64 (ρ.i .i64 1), .int .i64 (ρ.i .i64 2), .int .i64 (ρ.i .i64 3)]) = false from ?_) (all_nil)
  all_goals try simp only [hF, pb2, pb6, pi1, pi3, pi5, pl1]
  all_goals
    apply beq_of
    simp only [shapeN_iff, Bool.false_eq_true, iff_false, iff_true, decide_eq_true_eq]
    omega
theorem vcvrightS_8 : VD TTvrightS (st0 cRightS) wvrightS_8 := by
  intro ρ kn hp
  have hF : ρ.z.F = sih.Φ := kn.F
  simp only [h_nil, h_cons, d_le, d_eq, d_not, d_var, d_lit, d_cel, d_leq, d_fn, d_and, d_iff, IE.den, LE.den, AL.den, lenV, true_and, and_true, pcvrightS_9, pcvrightS_4, pcvrightS_1, pcvrightS_0, hF, pb2, pb6, pi1, pi3, pi5, pl1] at hp
  obtain ⟨p1, p2, p3, p4⟩ := hp
  refine all_cons (show (ρ.z.F.b 2 [.int .i64 (ρ.i .i64 1), .int .i64 (ρ.i .i64 2), .int .i64 (ρ.i .i64 3)]) = false from ?_) (all_nil)
  all_goals try simp only [hF, pb2, pb6, pi1, pi3, pi5, pl1]
  all_goals
    apply beq_of
    simp only [shapeN_iff, Bool.false_eq_true, iff_false, iff_true, decide_eq_true_eq]
    omega
theorem vcvrightS_9 : VD TTvrightS (st0 cRightS) wvrightS_9 := by
  intro ρ kn hp
  have hF : ρ.z.F = sih.Φ := kn.F
  simp only [h_nil, h_cons, d_le, d_eq, d_not, d_var, d_lit, d_cel, d_leq, d_fn, d_and, d_iff, IE.den, LE.den, AL.den, lenV, true_and, and_true, pcvrightS_10, pcvrightS_4, pcvrightS_1, pcvrightS_0, hF, pb2, pb6, pi1, pi3, pi5, pl1] at hp
  obtain ⟨p1, p2, p3, p4⟩ := hp
  refine all_cons (show (ρ.z.F.b 2 [.int .i64 (ρ.i .i64 1), .int .i64 (ρ.i .i64 2), .int .i64 (ρ.i .i64 3)]) = false from ?_) (all_nil)
  all_goals try simp only [hF, pb2, pb6, pi1, pi3, pi5, pl1]
  all_goals
    apply beq_of
    simp only [shapeN_iff, Bool.false_eq_true, iff_false, iff_true, decide_eq_true_eq]
    omega
theorem vcvrightS_10 : VD TTvrightS (st0 cRightS) wvrightS_10 := by
  intro ρ kn hp
  have hF : ρ.z.F = sih.Φ := kn.F
  simp only [h_nil, h_cons, d_le, d_eq, d_not, d_var, d_lit, d_cel, d_leq, d_fn, d_and, d_iff, IE.den, LE.den, AL.den, lenV, true_and, and_true, pcvrightS_10, pcvrightS_4, pcvrightS_1, pcvrightS_0, hF, pb2, pb6, pi1, pi3, pi5, pl1] at hp
  obtain ⟨p1, p2, p3, p4⟩ := hp
  refine all_cons (show (ρ.z.F.b 2 [.int .i64 (ρ.i .i64 1), .int .i64 (ρ.i .i64 2), .int .i64 (ρ.i .i64 3)]) = false from ?_) (all_nil)
  all_goals try simp only [hF, pb2, pb6, pi1, pi3, pi5, pl1]
  all_goals
    apply beq_of
    simp only [shapeN_iff, Bool.false_eq_true, iff_false, iff_true, decide_eq_true_eq]
    omega
theorem vcvrightS_11 : VD TTvrightS (st0 cRightS) wvrightS_11 := by
  intro ρ kn hp
  have hF : ρ.z.F = sih.Φ := kn.F
  simp only [h_nil, h_cons, d_le, d_eq, d_not, d_var, d_lit, d_cel, d_leq, d_fn, d_and, d_iff, IE.den, LE.den, AL.den, lenV, true_and, and_true, pcvrightS_5, pcvrightS_2, pcvrightS_0, hF, pb2, pb6, pi1, pi3, pi5, pl1] at hp
  obtain ⟨p1, p2, p3⟩ := hp
  refine all_cons (show (ρ.z.F.b 2 [.int .i64 (ρ.i .i64 1), .int .i64 (ρ.i .i64 2), .int .i64 (ρ.i .i64 3)]) = false from ?_) (all_nil)
  all_goals try simp only [hF, pb2, pb6, pi1, pi3, pi5, pl1]
  all_goals
    apply beq_of
    simp only [shapeN_iff, Bool.false_eq_true, iff_false, iff_true, decide_eq_true_eq]
    omega
theorem vcvrightS_12 : VD TTvrightS (st0 cRightS) wvrightS_12 := by
  intro ρ kn hp
  have hF : ρ.z.F = sih.Φ := kn.F
  simp only [h_nil, h_cons, d_le, d_eq, d_not, d_var, d_lit, d_cel, d_leq, d_fn, d_and, d_iff, IE.den, LE.den, AL.den, lenV, true_and, and_true, pcvrightS_5, pcvrightS_2, pcvrightS_0, hF, pb2, pb6, pi1, pi3, pi5, pl1] at hp
  obtain ⟨p1, p2, p3⟩ := hp
  refine all_cons (show (ρ.z.F.b 2 [.int .i64 (ρ.i .i64 1), .int .i64 (ρ.i .i64 2), .int .i64 (ρ.i .i64 3)]) = false from ?_) (all_nil)
  all_goals try simp only [hF, pb2, pb6, pi1, pi3, pi5, pl1]
  all_goals
    apply beq_of
    simp only [shapeN_iff, Bool.false_eq_true, iff_false, iff_true, decide_eq_true_eq]
    omega
theorem vcvrightS_13 : VD TTvrightS (st0 cRightS) wvrightS_13 := by
  intro ρ kn hp
  have hF : ρ.z.F = sih.Φ := kn.F
  simp only [h_nil, h_cons, d_le, d_eq, d_not, d_var, d_lit, d_cel, d_leq, d_fn, d_and, d_iff, IE.den, LE.den, AL.den, lenV, true_and, and_true, pcvrightS_6, pcvrightS_2, pcvrightS_0, hF, pb2, pb6, pi1, pi3, pi5, pl1] at hp
  obtain ⟨p1, p2, p3⟩ := hp
  refine all_cons (show (ρ.z.F.b 2 [.int .i64 (ρ.i .i64 1), .int .i64 (ρ.i .i64 2), .int .i64 (ρ.i .i64 3)]) = false from ?_) (all_nil)
  all_goals try simp only [hF, pb2, pb6, pi1, pi3, pi5, pl1]
  all_goals
    apply beq_of
    simp only [shapeN_iff, Bool.false_eq_true, iff_false, iff_true, decide_eq_true_eq]
    omega
theorem vcvrightS_14 : VD TTvrightS (st0 cRightS) wvrightS_14 := by
  intro ρ kn hp
  have hF : ρ.z.F = sih.Φ := kn.F
  simp only [h_nil, h_cons, d_le, d_eq, d_not, d_var, d_lit, d_cel, d_leq, d_fn, d_and, d_iff, IE.den, LE.den, AL.den, lenV, true_and, and_true, pcvrightS_6, pcvrightS_2, pcvrightS_0, hF, pb2, pb6, pi1, pi3, pi5, pl1] at hp
  obtain ⟨p1, p2, p3⟩ := hp
  refine all_cons (show (ρ.z.F.b 2 [.int .i64 (ρ.i .i64 1), .int .i64 (ρ.i .i64 2), .int .i64 (ρ.i .i64 3)]) = false from ?_) (all_nil)
  all_goals try simp only [hF, pb2, pb6, pi1, pi3, pi5, pl1]
  all_goals
    apply beq_of
    simp only [shapeN_iff, Bool.false_eq_true, iff_false, iff_true, decide_eq_true_eq]
    omega
theorem told_vrightS : Sx.Told sih.Φ cRightS := told_vw (cs := []) (all_nil) 4000 vwvrightS (by kernel_rfl) (by kernel_rfl) (by kernel_rfl) (post_nil rfl) (by kernel_rfl) (by kernel_rfl) (all_cons vcvrightS_0 (all_cons vcvrightS_1 (all_cons vcvrightS_2 (all_cons vcvrightS_3 (all_cons vcvrightS_4 (all_cons vcvrightS_5 (all_cons vcvrightS_6 (all_cons vcvrightS_7 (all_cons vcvrightS_8 (all_cons vcvrightS_9 (all_cons vcvrightS_10 (all_cons vcvrightS_11 (all_cons vcvrightS_12 (all_cons vcvrightS_13 (all_cons vcvrightS_14 (all_nil))))))))))))))))
theorem told_vworks : Sx.Told sih.Φ cWorks := told_auto (cs := [cJoin, cIx1, cIxA, cIxB]) (all_cons told_join (all_cons told_ix1 (all_cons told_ixA (all_cons told_ixB (all_nil))))) 20000 (by kernel_rfl) (by kernel_rfl) (by kernel_rfl) (post_nil rfl) (by kernel_rfl) (by kernel_rfl)
theorem told_vchk1 : Sx.Told sih.Φ cChk1 := told_auto (cs := [cRightS]) (all_cons told_vrightS (all_nil)) 4000 (by kernel_rfl) (by kernel_rfl) (by kernel_rfl) post_chk1 (by kernel_rfl) (by kernel_rfl)
theorem told_vchk2 : Sx.Told sih.Φ cChk2 := told_auto (cs := [cRightS]) (all_cons told_vrightS (all_nil)) 4000 (by kernel_rfl) (by kernel_rfl) (by kernel_rfl) (post_nil rfl) (by kernel_rfl) (by kernel_rfl)
noncomputable section
abbrev TTvhas : Tab := T sih.Φ cHas.roms []
def pcvhas_0 : List BE := [(BE.lit true), (BE.fn 2 (AL.int .i64 (IE.var .i64 1) (AL.int .i64 (IE.var .i64 2) (AL.int .i64 (IE.var .i64 3) AL.nil))))]
def pcvhas_1 : List BE := ((BE.le (IE.lit 0) (IE.var .i64 4)) :: pcvhas_0)
def pcvhas_2 : List BE := ((BE.le (IE.var .i64 4) (IE.wrap .i64 (IE.sub (IE.var .i64 1) (IE.lit 1)))) :: pcvhas_1)
def pcvhas_3 : List BE := ((BE.le (IE.lit 0) (IE.var .i64 5)) :: pcvhas_2)
def pcvhas_4 : List BE := ((BE.le (IE.var .i64 5) (IE.wrap .i64 (IE.sub (IE.var .i64 2) (IE.lit 1)))) :: pcvhas_3)
def pcvhas_5 : List BE := ((BE.le (IE.lit 0) (IE.var .i64 6)) :: pcvhas_4)
def pcvhas_6 : List BE := ((BE.le (IE.var .i64 6) (IE.wrap .i64 (IE.sub (IE.var .i64 3) (IE.lit 1)))) :: pcvhas_5)
def pcvhas_7 : List BE := ((BE.le (IE.lit 1) (IE.var .i64 7)) :: pcvhas_6)
def wvhas_0 : VW := (VW.done ((BE.le (IE.var .i64 7) (IE.lit 1099511627776)) :: pcvhas_7) (some [(G.b (BE.fn 6 (AL.int .i64 (IE.var .i64 1) (AL.int .i64 (IE.var .i64 2) (AL.int .i64 (IE.var .i64 3) (AL.int .i64 (IE.var .i64 4) (AL.int .i64 (IE.var .i64 5) (AL.int .i64 (IE.var .i64 6) (AL.int .i64 (IE.var .i64 7) AL.nil)))))))) (BE.lit true))]))
def wvhas_1 : VW := (VW.done ((BE.not (BE.le (IE.var .i64 7) (IE.lit 1099511627776))) :: pcvhas_7) (some [(G.b (BE.fn 6 (AL.int .i64 (IE.var .i64 1) (AL.int .i64 (IE.var .i64 2) (AL.int .i64 (IE.var .i64 3) (AL.int .i64 (IE.var .i64 4) (AL.int .i64 (IE.var .i64 5) (AL.int .i64 (IE.var .i64 6) (AL.int .i64 (IE.var .i64 7) AL.nil)))))))) (BE.lit false))]))
def wvhas_2 : VW := (VW.done ((BE.not (BE.le (IE.lit 1) (IE.var .i64 7))) :: pcvhas_6) (some [(G.b (BE.fn 6 (AL.int .i64 (IE.var .i64 1) (AL.int .i64 (IE.var .i64 2) (AL.int .i64 (IE.var .i64 3) (AL.int .i64 (IE.var .i64 4) (AL.int .i64 (IE.var .i64 5) (AL.int .i64 (IE.var .i64 6) (AL.int .i64 (IE.var .i64 7) AL.nil)))))))) (BE.lit false))]))
def wvhas_3 : VW := (VW.done ((BE.not (BE.le (IE.var .i64 6) (IE.wrap .i64 (IE.sub (IE.var .i64 3) (IE.lit 1))))) :: pcvhas_5) (some [(G.b (BE.fn 6 (AL.int .i64 (IE.var .i64 1) (AL.int .i64 (IE.var .i64 2) (AL.int .i64 (IE.var .i64 3) (AL.int .i64 (IE.var .i64 4) (AL.int .i64 (IE.var .i64 5) (AL.int .i64 (IE.var .i64 6) (AL.int .i64 (IE.var .i64 7) AL.nil)))))))) (BE.lit false))]))
def wvhas_4 : VW := (VW.done ((BE.not (BE.le (IE.lit 0) (IE.var .i64 6))) :: pcvhas_4) (some [(G.b (BE.fn 6 (AL.int .i64 (IE.var .i64 1) (AL.int .i64 (IE.var .i64 2) (AL.int .i64 (IE.var .i64 3) (AL.int .i64 (IE.var .i64 4) (AL.int .i64 (IE.var .i64 5) (AL.int .i64 (IE.var .i64 6) (AL.int .i64 (IE.var .i64 7) AL.nil)))))))) (BE.lit false))]))
def wvhas_5 : VW := (VW.done ((BE.not (BE.le (IE.var .i64 5) (IE.wrap .i64 (IE.sub (IE.var .i64 2) (IE.lit 1))))) :: pcvhas_3) (some [(G.b (BE.fn 6 (AL.int .i64 (IE.var .i64 1) (AL.int .i64 (IE.var .i64 2) (AL.int .i64 (IE.var .i64 3) (AL.int .i64 (IE.var .i64 4) (AL.int .i64 (IE.var .i64 5) (AL.int .i64 (IE.var .i64 6) (AL.int .i64 (IE.var .i64 7) AL.nil)))))))) (BE.lit false))]))
def wvhas_6 : VW := (VW.done ((BE.not (BE.le (IE.lit 0) (IE.var .i64 5))) :: pcvhas_2) (some [(G.b (BE.fn 6 (AL.int .i64 (IE.var .i64 1) (AL.int .i64 (IE.var .i64 2) (AL.int .i64 (IE.var .i64 3) (AL.int .i64 (IE.var .i64 4) (AL.int .i64 (IE.var .i64 5) (AL.int .i64 (IE.var .i64 6) (AL.int .i64 (IE.var .i64 7) AL.nil)))))))) (BE.lit false))]))
def wvhas_7 : VW := (VW.done ((BE.not (BE.le (IE.var .i64 4) (IE.wrap .i64 (IE.sub (IE.var .i64 1) (IE.lit 1))))) :: pcvhas_1) (some [(G.b (BE.fn 6 (AL.int .i64 (IE.var .i64 1) (AL.int .i64 (IE.var .i64 2) (AL.int .i64 (IE.var .i64 3) (AL.int .i64 (IE.var .i64 4) (AL.int .i64 (IE.var .i64 5) (AL.int .i64 (IE.var .i64 6) (AL.int .i64 (IE.var .i64 7) AL.nil)))))))) (BE.lit false))]))
def wvhas_8 : VW := (VW.done ((BE.not (BE.le (IE.lit 0) (IE.var .i64 4))) :: pcvhas_0) (some [(G.b (BE.fn 6 (AL.int .i64 (IE.var .i64 1) (AL.int .i64 (IE.var .i64 2) (AL.int .i64 (IE.var .i64 3) (AL.int .i64 (IE.var .i64 4) (AL.int .i64 (IE.var .i64 5) (AL.int .i64 (IE.var .i64 6) (AL.int .i64 (IE.var .i64 7) AL.nil)))))))) (BE.lit false))]))
def vwvhas : List VW := [wvhas_0, wvhas_1, wvhas_2, wvhas_3, wvhas_4, wvhas_5, wvhas_6, wvhas_7, wvhas_8]
end
theorem vcvhas_0 : VD TTvhas (st0 cHas) wvhas_0 := by
  intro ρ kn hp
  have hF : ρ.z.F = sih.Φ := kn.F
  simp only [h_nil, h_cons, d_le, d_eq, d_not, d_var, d_lit, d_cel, d_leq, d_fn, d_and, d_iff, IE.den, LE.den, AL.den, lenV, true_and, and_true, pcvhas_7, pcvhas_6, pcvhas_5, pcvhas_4, pcvhas_3, pcvhas_2, pcvhas_1, pcvhas_0, hF, pb2, pb6, pi1, pi3, pi5, pl1] at hp
  obtain ⟨p1, p2, p3, p4, p5, p6, p7, p8, p9⟩ := hp
  refine all_cons (show (ρ.z.F.b 6 [.int .i64 (ρ.i .i64 1), .int .i64 (ρ.i .i64 2), .int .i64 (ρ.i .i64 3), .int .i64 (ρ.i .i64 4), .int .i64 (ρ.i .i64 5), .int .i64 (ρ.i .i64 6), .int .i64 (ρ.i .i64 7)]) = true from ?_) (all_nil)
  all_goals try simp only [hF, pb2, pb6, pi1, pi3, pi5, pl1]
  all_goals
    have hs : shapeN (ρ.i .i64 1) (ρ.i .i64 2) (ρ.i .i64 3) = true := by assumption
    rw [shapeN_iff] at hs
    have w1 := wr (x := ρ.i .i64 1 - 1) (by omega) (by omega)
    have w2 := wr (x := ρ.i .i64 2 - 1) (by omega) (by omega)
    have w3 := wr (x := ρ.i .i64 3 - 1) (by omega) (by omega)
    apply beq_of
    simp only [tickN_iff, Bool.false_eq_true, iff_false, iff_true, decide_eq_true_eq]
    omega
theorem vcvhas_1 : VD TTvhas (st0 cHas) wvhas_1 := by
  intro ρ kn hp
  have hF : ρ.z.F = sih.Φ := kn.F
  simp only [h_nil, h_cons, d_le, d_eq, d_not, d_var, d_lit, d_cel, d_leq, d_fn, d_and, d_iff, IE.den, LE.den, AL.den, lenV, true_and, and_true, pcvhas_7, pcvhas_6, pcvhas_5, pcvhas_4, pcvhas_3, pcvhas_2, pcvhas_1, pcvhas_0, hF, pb2, pb6, pi1, pi3, pi5, pl1] at hp
  obtain ⟨p1, p2, p3, p4, p5, p6, p7, p8, p9⟩ := hp
  refine all_cons (show (ρ.z.F.b 6 [.int .i64 (ρ.i .i64 1), .int .i64 (ρ.i .i64 2), .int .i64 (ρ.i .i64 3), .int .i64 (ρ.i .i64 4), .int .i64 (ρ.i .i64 5), .int .i64 (ρ.i .i64 6), .int .i64 (ρ.i .i64 7)]) = false from ?_) (all_nil)
  all_goals try simp only [hF, pb2, pb6, pi1, pi3, pi5, pl1]
  all_goals
    have hs : shapeN (ρ.i .i64 1) (ρ.i .i64 2) (ρ.i .i64 3) = true := by assumption
    rw [shapeN_iff] at hs
    have w1 := wr (x := ρ.i .i64 1 - 1) (by omega) (by omega)
    have w2 := wr (x := ρ.i .i64 2 - 1) (by omega) (by omega)
    have w3 := wr (x := ρ.i .i64 3 - 1) (by omega) (by omega)
    apply beq_of
    simp only [tickN_iff, Bool.false_eq_true, iff_false, iff_true, decide_eq_true_eq]
    omega
theorem vcvhas_2 : VD TTvhas (st0 cHas) wvhas_2 := by
  intro ρ kn hp
  have hF : ρ.z.F = sih.Φ := kn.F
  simp only [h_nil, h_cons, d_le, d_eq, d_not, d_var, d_lit, d_cel, d_leq, d_fn, d_and, d_iff, IE.den, LE.den, AL.den, lenV, true_and, and_true, pcvhas_6, pcvhas_5, pcvhas_4, pcvhas_3, pcvhas_2, pcvhas_1, pcvhas_0, hF, pb2, pb6, pi1, pi3, pi5, pl1] at hp
  obtain ⟨p1, p2, p3, p4, p5, p6, p7, p8⟩ := hp
  refine all_cons (show (ρ.z.F.b 6 [.int .i64 (ρ.i .i64 1), .int .i64 (ρ.i .i64 2), .int .i64 (ρ.i .i64 3), .int .i64 (ρ.i .i64 4), .int .i64 (ρ.i .i64 5), .int .i64 (ρ.i .i64 6), .int .i64 (ρ.i .i64 7)]) = false from ?_) (all_nil)
  all_goals try simp only [hF, pb2, pb6, pi1, pi3, pi5, pl1]
  all_goals
    have hs : shapeN (ρ.i .i64 1) (ρ.i .i64 2) (ρ.i .i64 3) = true := by assumption
    rw [shapeN_iff] at hs
    have w1 := wr (x := ρ.i .i64 1 - 1) (by omega) (by omega)
    have w2 := wr (x := ρ.i .i64 2 - 1) (by omega) (by omega)
    have w3 := wr (x := ρ.i .i64 3 - 1) (by omega) (by omega)
    apply beq_of
    simp only [tickN_iff, Bool.false_eq_true, iff_false, iff_true, decide_eq_true_eq]
    omega
theorem vcvhas_3 : VD TTvhas (st0 cHas) wvhas_3 := by
  intro ρ kn hp
  have hF : ρ.z.F = sih.Φ := kn.F
  simp only [h_nil, h_cons, d_le, d_eq, d_not, d_var, d_lit, d_cel, d_leq, d_fn, d_and, d_iff, IE.den, LE.den, AL.den, lenV, true_and, and_true, pcvhas_5, pcvhas_4, pcvhas_3, pcvhas_2, pcvhas_1, pcvhas_0, hF, pb2, pb6, pi1, pi3, pi5, pl1] at hp
  obtain ⟨p1, p2, p3, p4, p5, p6, p7⟩ := hp
  refine all_cons (show (ρ.z.F.b 6 [.int .i64 (ρ.i .i64 1), .int .i64 (ρ.i .i64 2), .int .i64 (ρ.i .i64 3), .int .i64 (ρ.i .i64 4), .int .i64 (ρ.i .i64 5), .int .i64 (ρ.i .i64 6), .int .i64 (ρ.i .i64 7)]) = false from ?_) (all_nil)
  all_goals try simp only [hF, pb2, pb6, pi1, pi3, pi5, pl1]
  all_goals
    have hs : shapeN (ρ.i .i64 1) (ρ.i .i64 2) (ρ.i .i64 3) = true := by assumption
    rw [shapeN_iff] at hs
    have w1 := wr (x := ρ.i .i64 1 - 1) (by omega) (by omega)
    have w2 := wr (x := ρ.i .i64 2 - 1) (by omega) (by omega)
    have w3 := wr (x := ρ.i .i64 3 - 1) (by omega) (by omega)
    apply beq_of
    simp only [tickN_iff, Bool.false_eq_true, iff_false, iff_true, decide_eq_true_eq]
    omega
theorem vcvhas_4 : VD TTvhas (st0 cHas) wvhas_4 := by
  intro ρ kn hp
  have hF : ρ.z.F = sih.Φ := kn.F
  simp only [h_nil, h_cons, d_le, d_eq, d_not, d_var, d_lit, d_cel, d_leq, d_fn, d_and, d_iff, IE.den, LE.den, AL.den, lenV, true_and, and_true, pcvhas_4, pcvhas_3, pcvhas_2, pcvhas_1, pcvhas_0, hF, pb2, pb6, pi1, pi3, pi5, pl1] at hp
  obtain ⟨p1, p2, p3, p4, p5, p6⟩ := hp
  refine all_cons (show (ρ.z.F.b 6 [.int .i64 (ρ.i .i64 1), .int .i64 (ρ.i .i64 2), .int .i64 (ρ.i .i64 3), .int .i64 (ρ.i .i64 4), .int .i64 (ρ.i .i64 5), .int .i64 (ρ.i .i64 6), .int .i64 (ρ.i .i64 7)]) = false from ?_) (all_nil)
  all_goals try simp only [hF, pb2, pb6, pi1, pi3, pi5, pl1]
  all_goals
    have hs : shapeN (ρ.i .i64 1) (ρ.i .i64 2) (ρ.i .i64 3) = true := by assumption
    rw [shapeN_iff] at hs
    have w1 := wr (x := ρ.i .i64 1 - 1) (by omega) (by omega)
    have w2 := wr (x := ρ.i .i64 2 - 1) (by omega) (by omega)
    have w3 := wr (x := ρ.i .i64 3 - 1) (by omega) (by omega)
    apply beq_of
    simp only [tickN_iff, Bool.false_eq_true, iff_false, iff_true, decide_eq_true_eq]
    omega
theorem vcvhas_5 : VD TTvhas (st0 cHas) wvhas_5 := by
  intro ρ kn hp
  have hF : ρ.z.F = sih.Φ := kn.F
  simp only [h_nil, h_cons, d_le, d_eq, d_not, d_var, d_lit, d_cel, d_leq, d_fn, d_and, d_iff, IE.den, LE.den, AL.den, lenV, true_and, and_true, pcvhas_3, pcvhas_2, pcvhas_1, pcvhas_0, hF, pb2, pb6, pi1, pi3, pi5, pl1] at hp
  obtain ⟨p1, p2, p3, p4, p5⟩ := hp
  refine all_cons (show (ρ.z.F.b 6 [.int .i64 (ρ.i .i64 1), .int .i64 (ρ.i .i64 2), .int .i64 (ρ.i .i64 3), .int .i64 (ρ.i .i64 4), .int .i64 (ρ.i .i64 5), .int .i64 (ρ.i .i64 6), .int .i64 (ρ.i .i64 7)]) = false from ?_) (all_nil)
  all_goals try simp only [hF, pb2, pb6, pi1, pi3, pi5, pl1]
  all_goals
    have hs : shapeN (ρ.i .i64 1) (ρ.i .i64 2) (ρ.i .i64 3) = true := by assumption
    rw [shapeN_iff] at hs
    have w1 := wr (x := ρ.i .i64 1 - 1) (by omega) (by omega)
    have w2 := wr (x := ρ.i .i64 2 - 1) (by omega) (by omega)
    have w3 := wr (x := ρ.i .i64 3 - 1) (by omega) (by omega)
    apply beq_of
    simp only [tickN_iff, Bool.false_eq_true, iff_false, iff_true, decide_eq_true_eq]
    omega
theorem vcvhas_6 : VD TTvhas (st0 cHas) wvhas_6 := by
  intro ρ kn hp
  have hF : ρ.z.F = sih.Φ := kn.F
  simp only [h_nil, h_cons, d_le, d_eq, d_not, d_var, d_lit, d_cel, d_leq, d_fn, d_and, d_iff, IE.den, LE.den, AL.den, lenV, true_and, and_true, pcvhas_2, pcvhas_1, pcvhas_0, hF, pb2, pb6, pi1, pi3, pi5, pl1] at hp
  obtain ⟨p1, p2, p3, p4⟩ := hp
  refine all_cons (show (ρ.z.F.b 6 [.int .i64 (ρ.i .i64 1), .int .i64 (ρ.i .i64 2), .int .i64 (ρ.i .i64 3), .int .i64 (ρ.i .i64 4), .int .i64 (ρ.i .i64 5), .int .i64 (ρ.i .i64 6), .int .i64 (ρ.i .i64 7)]) = false from ?_) (all_nil)
  all_goals try simp only [hF, pb2, pb6, pi1, pi3, pi5, pl1]
  all_goals
    have hs : shapeN (ρ.i .i64 1) (ρ.i .i64 2) (ρ.i .i64 3) = true := by assumption
    rw [shapeN_iff] at hs
    have w1 := wr (x := ρ.i .i64 1 - 1) (by omega) (by omega)
    have w2 := wr (x := ρ.i .i64 2 - 1) (by omega) (by omega)
    have w3 := wr (x := ρ.i .i64 3 - 1) (by omega) (by omega)
    apply beq_of
    simp only [tickN_iff, Bool.false_eq_true, iff_false, iff_true, decide_eq_true_eq]
    omega
theorem vcvhas_7 : VD TTvhas (st0 cHas) wvhas_7 := by
  intro ρ kn hp
  have hF : ρ.z.F = sih.Φ := kn.F
  simp only [h_nil, h_cons, d_le, d_eq, d_not, d_var, d_lit, d_cel, d_leq, d_fn, d_and, d_iff, IE.den, LE.den, AL.den, lenV, true_and, and_true, pcvhas_1, pcvhas_0, hF, pb2, pb6, pi1, pi3, pi5, pl1] at hp
  obtain ⟨p1, p2, p3⟩ := hp
  refine all_cons (show (ρ.z.F.b 6 [.int .i64 (ρ.i .i64 1), .int .i64 (ρ.i .i64 2), .int .i64 (ρ.i .i64 3), .int .i64 (ρ.i .i64 4), .int .i64 (ρ.i .i64 5), .int .i64 (ρ.i .i64 6), .int .i64 (ρ.i .i64 7)]) = false from ?_) (all_nil)
  all_goals try simp only [hF, pb2, pb6, pi1, pi3, pi5, pl1]
  all_goals
    have hs : shapeN (ρ.i .i64 1) (ρ.i .i64 2) (ρ.i .i64 3) = true := by assumption
    rw [shapeN_iff] at hs
    have w1 := wr (x := ρ.i .i64 1 - 1) (by omega) (by omega)
    have w2 := wr (x := ρ.i .i64 2 - 1) (by omega) (by omega)
    have w3 := wr (x := ρ.i .i64 3 - 1) (by omega) (by omega)
    apply beq_of
    simp only [tickN_iff, Bool.false_eq_true, iff_false, iff_true, decide_eq_true_eq]
    omega
theorem vcvhas_8 : VD TTvhas (st0 cHas) wvhas_8 := by
  intro ρ kn hp
  have hF : ρ.z.F = sih.Φ := kn.F
  simp only [h_nil, h_cons, d_le, d_eq, d_not, d_var, d_lit, d_cel, d_leq, d_fn, d_and, d_iff, IE.den, LE.den, AL.den, lenV, true_and, and_true, pcvhas_0, hF, pb2, pb6, pi1, pi3, pi5, pl1] at hp
  obtain ⟨p1, p2⟩ := hp
  refine all_cons (show (ρ.z.F.b 6 [.int .i64 (ρ.i .i64 1), .int .i64 (ρ.i .i64 2), .int .i64 (ρ.i .i64 3), .int .i64 (ρ.i .i64 4), .int .i64 (ρ.i .i64 5), .int .i64 (ρ.i .i64 6), .int .i64 (ρ.i .i64 7)]) = false from ?_) (all_nil)
  all_goals try simp only [hF, pb2, pb6, pi1, pi3, pi5, pl1]
  all_goals
    have hs : shapeN (ρ.i .i64 1) (ρ.i .i64 2) (ρ.i .i64 3) = true := by assumption
    rw [shapeN_iff] at hs
    have w1 := wr (x := ρ.i .i64 1 - 1) (by omega) (by omega)
    have w2 := wr (x := ρ.i .i64 2 - 1) (by omega) (by omega)
    have w3 := wr (x := ρ.i .i64 3 - 1) (by omega) (by omega)
    apply beq_of
    simp only [tickN_iff, Bool.false_eq_true, iff_false, iff_true, decide_eq_true_eq]
    omega
theorem told_vhas : Sx.Told sih.Φ cHas := told_vw (cs := []) (all_nil) 6000 vwvhas (by kernel_rfl) (by kernel_rfl) (by kernel_rfl) (post_nil rfl) (by kernel_rfl) (by kernel_rfl) (all_cons vcvhas_0 (all_cons vcvhas_1 (all_cons vcvhas_2 (all_cons vcvhas_3 (all_cons vcvhas_4 (all_cons vcvhas_5 (all_cons vcvhas_6 (all_cons vcvhas_7 (all_cons vcvhas_8 (all_nil))))))))))
noncomputable section
abbrev TTvname : Tab := T sih.Φ cName.roms [cFmt, cJoin, cIx1, cIxA, cIxB]
def wvname_0 : VW := (VW.done [(BE.le (IE.len (LE.fn 1 (AL.int .i64 (IE.var .i64 7) AL.nil))) (IE.lit 20)), (BE.le (IE.len (LE.fn 1 (AL.int .i64 (IE.var .i64 6) AL.nil))) (IE.lit 20)), (BE.le (IE.len (LE.fn 1 (AL.int .i64 (IE.var .i64 5) AL.nil))) (IE.lit 20)), (BE.le (IE.len (LE.fn 1 (AL.int .i64 (IE.var .i64 4) AL.nil))) (IE.lit 20)), (BE.lit true), (BE.le (IE.lit (-9223372036854775808)) (IE.var .i64 4)), (BE.le (IE.var .i64 4) (IE.lit 9223372036854775807)), (BE.le (IE.lit (-9223372036854775808)) (IE.var .i64 5)), (BE.le (IE.var .i64 5) (IE.lit 9223372036854775807)), (BE.le (IE.lit (-9223372036854775808)) (IE.var .i64 6)), (BE.le (IE.var .i64 6) (IE.lit 9223372036854775807)), (BE.le (IE.lit (-9223372036854775808)) (IE.var .i64 7)), (BE.le (IE.var .i64 7) (IE.lit 9223372036854775807))] (some []))
def vwvname : List VW := [wvname_0]
end
theorem vcvname_0 : VD TTvname (st0 cName) wvname_0 := by
  intro ρ kn hp
  exact all_nil
theorem told_vname : Sx.Told sih.Φ cName := told_vw (cs := [cFmt, cJoin, cIx1, cIxA, cIxB]) (all_cons told_fmt (all_cons told_join (all_cons told_ix1 (all_cons told_ixA (all_cons told_ixB (all_nil)))))) 9000 vwvname (by kernel_rfl) (by kernel_rfl) (by kernel_rfl) post_name (by kernel_rfl) (by kernel_rfl) (all_cons vcvname_0 (all_nil))
theorem told_vtext1 : Sx.Told sih.Φ cText1 := told_auto (cs := [cRightS, cHas, cName, cChk1, cChk2]) (all_cons told_vrightS (all_cons told_vhas (all_cons told_vname (all_cons told_vchk1 (all_cons told_vchk2 (all_nil)))))) 4000 (by kernel_rfl) (by kernel_rfl) (by kernel_rfl) post_text1 (by kernel_rfl) (by kernel_rfl)
theorem told_vtext2 : Sx.Told sih.Φ cText2 := told_auto (cs := [cRightS, cHas, cName, cChk1, cChk2]) (all_cons told_vrightS (all_cons told_vhas (all_cons told_vname (all_cons told_vchk1 (all_cons told_vchk2 (all_nil)))))) 4000 (by kernel_rfl) (by kernel_rfl) (by kernel_rfl) (post_nil rfl) (by kernel_rfl) (by kernel_rfl)
theorem told_vtext3 : Sx.Told sih.Φ cText3 := told_auto (cs := [cRightS, cHas, cName, cChk1, cChk2]) (all_cons told_vrightS (all_cons told_vhas (all_cons told_vname (all_cons told_vchk1 (all_cons told_vchk2 (all_nil)))))) 4000 (by kernel_rfl) (by kernel_rfl) (by kernel_rfl) (post_nil rfl) (by kernel_rfl) (by kernel_rfl)
noncomputable section
abbrev TTvrright : Tab := T sih.Φ cRRight.roms []
def pcvrright_0 : List BE := [(BE.lit true)]
def pcvrright_1 : List BE := ((BE.le (IE.lit 1) (IE.var .i64 1)) :: pcvrright_0)
def pcvrright_2 : List BE := ((BE.le (IE.var .i64 1) (IE.lit 64)) :: pcvrright_1)
def pcvrright_3 : List BE := ((BE.le (IE.lit 1) (IE.var .i64 2)) :: pcvrright_2)
def pcvrright_4 : List BE := ((BE.le (IE.var .i64 2) (IE.lit 8)) :: pcvrright_3)
def pcvrright_5 : List BE := ((BE.le (IE.lit 1) (IE.var .i64 3)) :: pcvrright_4)
def pcvrright_6 : List BE := ((BE.le (IE.var .i64 3) (IE.lit 4)) :: pcvrright_5)
def pcvrright_7 : List BE := ((BE.le (IE.lit 0) (IE.var .i64 4)) :: pcvrright_6)
def pcvrright_8 : List BE := ((BE.not (BE.le (IE.var .i64 1) (IE.var .i64 4))) :: pcvrright_7)
def pcvrright_9 : List BE := ((BE.le (IE.lit 0) (IE.var .i64 6)) :: pcvrright_8)
def pcvrright_10 : List BE := ((BE.not (BE.le (IE.var .i64 3) (IE.var .i64 6))) :: pcvrright_9)
def pcvrright_11 : List BE := ((BE.le (IE.lit 0) (IE.var .i64 5)) :: pcvrright_10)
def pcvrright_12 : List BE := ((BE.not (BE.le (IE.var .i64 2) (IE.var .i64 5))) :: pcvrright_11)
def pcvrright_13 : List BE := ((BE.le (IE.lit 1) (IE.var .i64 7)) :: pcvrright_12)
def wvrright_0 : VW := (VW.done ((BE.le (IE.var .i64 1) (IE.var .i64 4)) :: pcvrright_7) (some [(G.i (IE.fn .i64 5 (AL.int .i64 (IE.var .i64 1) (AL.int .i64 (IE.var .i64 2) (AL.int .i64 (IE.var .i64 3) (AL.int .i64 (IE.var .i64 4) (AL.int .i64 (IE.var .i64 5) (AL.int .i64 (IE.var .i64 6) (AL.int .i64 (IE.var .i64 7) AL.nil)))))))) (IE.lit 4))]))
def wvrright_1 : VW := (VW.done ((BE.le (IE.var .i64 3) (IE.var .i64 6)) :: pcvrright_9) (some [(G.i (IE.fn .i64 5 (AL.int .i64 (IE.var .i64 1) (AL.int .i64 (IE.var .i64 2) (AL.int .i64 (IE.var .i64 3) (AL.int .i64 (IE.var .i64 4) (AL.int .i64 (IE.var .i64 5) (AL.int .i64 (IE.var .i64 6) (AL.int .i64 (IE.var .i64 7) AL.nil)))))))) (IE.lit 4))]))
def wvrright_2 : VW := (VW.done ((BE.le (IE.var .i64 2) (IE.var .i64 5)) :: pcvrright_11) (some [(G.i (IE.fn .i64 5 (AL.int .i64 (IE.var .i64 1) (AL.int .i64 (IE.var .i64 2) (AL.int .i64 (IE.var .i64 3) (AL.int .i64 (IE.var .i64 4) (AL.int .i64 (IE.var .i64 5) (AL.int .i64 (IE.var .i64 6) (AL.int .i64 (IE.var .i64 7) AL.nil)))))))) (IE.lit 4))]))
def wvrright_3 : VW := (VW.done ((BE.le (IE.var .i64 7) (IE.lit 1099511627776)) :: pcvrright_13) (some [(G.i (IE.fn .i64 5 (AL.int .i64 (IE.var .i64 1) (AL.int .i64 (IE.var .i64 2) (AL.int .i64 (IE.var .i64 3) (AL.int .i64 (IE.var .i64 4) (AL.int .i64 (IE.var .i64 5) (AL.int .i64 (IE.var .i64 6) (AL.int .i64 (IE.var .i64 7) AL.nil)))))))) (IE.lit 0))]))
def wvrright_4 : VW := (VW.done ((BE.not (BE.le (IE.var .i64 7) (IE.lit 1099511627776))) :: pcvrright_13) (some [(G.i (IE.fn .i64 5 (AL.int .i64 (IE.var .i64 1) (AL.int .i64 (IE.var .i64 2) (AL.int .i64 (IE.var .i64 3) (AL.int .i64 (IE.var .i64 4) (AL.int .i64 (IE.var .i64 5) (AL.int .i64 (IE.var .i64 6) (AL.int .i64 (IE.var .i64 7) AL.nil)))))))) (IE.lit 4))]))
def wvrright_5 : VW := (VW.done ((BE.not (BE.le (IE.lit 1) (IE.var .i64 7))) :: pcvrright_12) (some [(G.i (IE.fn .i64 5 (AL.int .i64 (IE.var .i64 1) (AL.int .i64 (IE.var .i64 2) (AL.int .i64 (IE.var .i64 3) (AL.int .i64 (IE.var .i64 4) (AL.int .i64 (IE.var .i64 5) (AL.int .i64 (IE.var .i64 6) (AL.int .i64 (IE.var .i64 7) AL.nil)))))))) (IE.lit 4))]))
def wvrright_6 : VW := (VW.done ((BE.not (BE.le (IE.lit 0) (IE.var .i64 5))) :: pcvrright_10) (some [(G.i (IE.fn .i64 5 (AL.int .i64 (IE.var .i64 1) (AL.int .i64 (IE.var .i64 2) (AL.int .i64 (IE.var .i64 3) (AL.int .i64 (IE.var .i64 4) (AL.int .i64 (IE.var .i64 5) (AL.int .i64 (IE.var .i64 6) (AL.int .i64 (IE.var .i64 7) AL.nil)))))))) (IE.lit 4))]))
def wvrright_7 : VW := (VW.done ((BE.not (BE.le (IE.lit 0) (IE.var .i64 6))) :: pcvrright_8) (some [(G.i (IE.fn .i64 5 (AL.int .i64 (IE.var .i64 1) (AL.int .i64 (IE.var .i64 2) (AL.int .i64 (IE.var .i64 3) (AL.int .i64 (IE.var .i64 4) (AL.int .i64 (IE.var .i64 5) (AL.int .i64 (IE.var .i64 6) (AL.int .i64 (IE.var .i64 7) AL.nil)))))))) (IE.lit 4))]))
def wvrright_8 : VW := (VW.done ((BE.not (BE.le (IE.lit 0) (IE.var .i64 4))) :: pcvrright_6) (some [(G.i (IE.fn .i64 5 (AL.int .i64 (IE.var .i64 1) (AL.int .i64 (IE.var .i64 2) (AL.int .i64 (IE.var .i64 3) (AL.int .i64 (IE.var .i64 4) (AL.int .i64 (IE.var .i64 5) (AL.int .i64 (IE.var .i64 6) (AL.int .i64 (IE.var .i64 7) AL.nil)))))))) (IE.lit 4))]))
def wvrright_9 : VW := (VW.done ((BE.not (BE.le (IE.var .i64 3) (IE.lit 4))) :: pcvrright_5) (some [(G.i (IE.fn .i64 5 (AL.int .i64 (IE.var .i64 1) (AL.int .i64 (IE.var .i64 2) (AL.int .i64 (IE.var .i64 3) (AL.int .i64 (IE.var .i64 4) (AL.int .i64 (IE.var .i64 5) (AL.int .i64 (IE.var .i64 6) (AL.int .i64 (IE.var .i64 7) AL.nil)))))))) (IE.lit 2))]))
def wvrright_10 : VW := (VW.done ((BE.not (BE.le (IE.lit 1) (IE.var .i64 3))) :: pcvrright_4) (some [(G.i (IE.fn .i64 5 (AL.int .i64 (IE.var .i64 1) (AL.int .i64 (IE.var .i64 2) (AL.int .i64 (IE.var .i64 3) (AL.int .i64 (IE.var .i64 4) (AL.int .i64 (IE.var .i64 5) (AL.int .i64 (IE.var .i64 6) (AL.int .i64 (IE.var .i64 7) AL.nil)))))))) (IE.lit 2))]))
def wvrright_11 : VW := (VW.done ((BE.not (BE.le (IE.var .i64 2) (IE.lit 8))) :: pcvrright_3) (some [(G.i (IE.fn .i64 5 (AL.int .i64 (IE.var .i64 1) (AL.int .i64 (IE.var .i64 2) (AL.int .i64 (IE.var .i64 3) (AL.int .i64 (IE.var .i64 4) (AL.int .i64 (IE.var .i64 5) (AL.int .i64 (IE.var .i64 6) (AL.int .i64 (IE.var .i64 7) AL.nil)))))))) (IE.lit 2))]))
def wvrright_12 : VW := (VW.done ((BE.not (BE.le (IE.lit 1) (IE.var .i64 2))) :: pcvrright_2) (some [(G.i (IE.fn .i64 5 (AL.int .i64 (IE.var .i64 1) (AL.int .i64 (IE.var .i64 2) (AL.int .i64 (IE.var .i64 3) (AL.int .i64 (IE.var .i64 4) (AL.int .i64 (IE.var .i64 5) (AL.int .i64 (IE.var .i64 6) (AL.int .i64 (IE.var .i64 7) AL.nil)))))))) (IE.lit 2))]))
def wvrright_13 : VW := (VW.done ((BE.not (BE.le (IE.var .i64 1) (IE.lit 64))) :: pcvrright_1) (some [(G.i (IE.fn .i64 5 (AL.int .i64 (IE.var .i64 1) (AL.int .i64 (IE.var .i64 2) (AL.int .i64 (IE.var .i64 3) (AL.int .i64 (IE.var .i64 4) (AL.int .i64 (IE.var .i64 5) (AL.int .i64 (IE.var .i64 6) (AL.int .i64 (IE.var .i64 7) AL.nil)))))))) (IE.lit 2))]))
def wvrright_14 : VW := (VW.done ((BE.not (BE.le (IE.lit 1) (IE.var .i64 1))) :: pcvrright_0) (some [(G.i (IE.fn .i64 5 (AL.int .i64 (IE.var .i64 1) (AL.int .i64 (IE.var .i64 2) (AL.int .i64 (IE.var .i64 3) (AL.int .i64 (IE.var .i64 4) (AL.int .i64 (IE.var .i64 5) (AL.int .i64 (IE.var .i64 6) (AL.int .i64 (IE.var .i64 7) AL.nil)))))))) (IE.lit 2))]))
def vwvrright : List VW := [wvrright_0, wvrright_1, wvrright_2, wvrright_3, wvrright_4, wvrright_5, wvrright_6, wvrright_7, wvrright_8, wvrright_9, wvrright_10, wvrright_11, wvrright_12, wvrright_13, wvrright_14]
end
theorem vcvrright_0 : VD TTvrright (st0 cRRight) wvrright_0 := by
  intro ρ kn hp
  have hF : ρ.z.F = sih.Φ := kn.F
  simp only [h_nil, h_cons, d_le, d_eq, d_not, d_var, d_lit, d_cel, d_leq, d_fn, d_and, d_iff, IE.den, LE.den, AL.den, lenV, true_and, and_true, pcvrright_7, pcvrright_6, pcvrright_5, pcvrright_4, pcvrright_3, pcvrright_2, pcvrright_1, pcvrright_0, hF, pb2, pb6, pi1, pi3, pi5, pl1] at hp
  obtain ⟨p1, p2, p3, p4, p5, p6, p7, p8⟩ := hp
  refine all_cons (show (clampK .i64 (ρ.z.F.i 5 [.int .i64 (ρ.i .i64 1), .int .i64 (ρ.i .i64 2), .int .i64 (ρ.i .i64 3), .int .i64 (ρ.i .i64 4), .int .i64 (ρ.i .i64 5), .int .i64 (ρ.i .i64 6), .int .i64 (ρ.i .i64 7)])) = (4 : Int) from ?_) (all_nil)
  all_goals try simp only [hF, pb2, pb6, pi1, pi3, pi5, pl1]
  all_goals
    simp only [clampR]
    unfold rightN
    try simp only [*, if_true, if_false, Bool.false_eq_true]
    try first
      | rfl
      | (repeat' split
         all_goals simp only [shapeN_iff, tickN_iff] at *
         all_goals omega)
theorem vcvrright_1 : VD TTvrright (st0 cRRight) wvrright_1 := by
  intro ρ kn hp
  have hF : ρ.z.F = sih.Φ := kn.F
  simp only [h_nil, h_cons, d_le, d_eq, d_not, d_var, d_lit, d_cel, d_leq, d_fn, d_and, d_iff, IE.den, LE.den, AL.den, lenV, true_and, and_true, pcvrright_9, pcvrright_8, pcvrright_7, pcvrright_6, pcvrright_5, pcvrright_4, pcvrright_3, pcvrright_2, pcvrright_1, pcvrright_0, hF, pb2, pb6, pi1, pi3, pi5, pl1] at hp
  obtain ⟨p1, p2, p3, p4, p5, p6, p7, p8, p9, p10⟩ := hp
  refine all_cons (show (clampK .i64 (ρ.z.F.i 5 [.int .i64 (ρ.i .i64 1), .int .i64 (ρ.i .i64 2), .int .i64 (ρ.i .i64 3), .int .i64 (ρ.i .i64 4), .int .i64 (ρ.i .i64 5), .int .i64 (ρ.i .i64 6), .int .i64 (ρ.i .i64 7)])) = (4 : Int) from ?_) (all_nil)
  all_goals try simp only [hF, pb2, pb6, pi1, pi3, pi5, pl1]
  all_goals
    simp only [clampR]
    unfold rightN
    try simp only [*, if_true, if_false, Bool.false_eq_true]
    try first
      | rfl
      | (repeat' split
         all_goals simp only [shapeN_iff, tickN_iff] at *
         all_goals omega)
theorem vcvrright_2 : VD TTvrright (st0 cRRight) wvrright_2 := by
  intro ρ kn hp
  have hF : ρ.z.F = sih.Φ := kn.F
  simp only [h_nil, h_cons, d_le, d_eq, d_not, d_var, d_lit, d_cel, d_leq, d_fn, d_and, d_iff, IE.den, LE.den, AL.den, lenV, true_and, and_true, pcvrright_11, pcvrright_10, pcvrright_9, pcvrright_8, pcvrright_7, pcvrright_6, pcvrright_5, pcvrright_4, pcvrright_3, pcvrright_2, pcvrright_1, pcvrright_0, hF, pb2, pb6, pi1, pi3, pi5, pl1] at hp
  obtain ⟨p1, p2, p3, p4, p5, p6, p7, p8, p9, p10, p11, p12⟩ := hp
  refine all_cons (show (clampK .i64 (ρ.z.F.i 5 [.int .i64 (ρ.i .i64 1), .int .i64 (ρ.i .i64 2), .int .i64 (ρ.i .i64 3), .int .i64 (ρ.i .i64 4), .int .i64 (ρ.i .i64 5), .int .i64 (ρ.i .i64 6), .int .i64 (ρ.i .i64 7)])) = (4 : Int) from ?_) (all_nil)
  all_goals try simp only [hF, pb2, pb6, pi1, pi3, pi5, pl1]
  all_goals
    simp only [clampR]
    unfold rightN
    try simp only [*, if_true, if_false, Bool.false_eq_true]
    try first
      | rfl
      | (repeat' split
         all_goals simp only [shapeN_iff, tickN_iff] at *
         all_goals omega)
theorem vcvrright_3 : VD TTvrright (st0 cRRight) wvrright_3 := by
  intro ρ kn hp
  have hF : ρ.z.F = sih.Φ := kn.F
  simp only [h_nil, h_cons, d_le, d_eq, d_not, d_var, d_lit, d_cel, d_leq, d_fn, d_and, d_iff, IE.den, LE.den, AL.den, lenV, true_and, and_true, pcvrright_13, pcvrright_12, pcvrright_11, pcvrright_10, pcvrright_9, pcvrright_8, pcvrright_7, pcvrright_6, pcvrright_5, pcvrright_4, pcvrright_3, pcvrright_2, pcvrright_1, pcvrright_0, hF, pb2, pb6, pi1, pi3, pi5, pl1] at hp
  obtain ⟨p1, p2, p3, p4, p5, p6, p7, p8, p9, p10, p11, p12, p13, p14⟩ := hp
  refine all_cons (show (clampK .i64 (ρ.z.F.i 5 [.int .i64 (ρ.i .i64 1), .int .i64 (ρ.i .i64 2), .int .i64 (ρ.i .i64 3), .int .i64 (ρ.i .i64 4), .int .i64 (ρ.i .i64 5), .int .i64 (ρ.i .i64 6), .int .i64 (ρ.i .i64 7)])) = (0 : Int) from ?_) (all_nil)
  all_goals try simp only [hF, pb2, pb6, pi1, pi3, pi5, pl1]
  all_goals
    simp only [clampR]
    unfold rightN
    try simp only [*, if_true, if_false, Bool.false_eq_true]
    try first
      | rfl
      | (repeat' split
         all_goals simp only [shapeN_iff, tickN_iff] at *
         all_goals omega)
theorem vcvrright_4 : VD TTvrright (st0 cRRight) wvrright_4 := by
  intro ρ kn hp
  have hF : ρ.z.F = sih.Φ := kn.F
  simp only [h_nil, h_cons, d_le, d_eq, d_not, d_var, d_lit, d_cel, d_leq, d_fn, d_and, d_iff, IE.den, LE.den, AL.den, lenV, true_and, and_true, pcvrright_13, pcvrright_12, pcvrright_11, pcvrright_10, pcvrright_9, pcvrright_8, pcvrright_7, pcvrright_6, pcvrright_5, pcvrright_4, pcvrright_3, pcvrright_2, pcvrright_1, pcvrright_0, hF, pb2, pb6, pi1, pi3, pi5, pl1] at hp
  obtain ⟨p1, p2, p3, p4, p5, p6, p7, p8, p9, p10, p11, p12, p13, p14⟩ := hp
  refine all_cons (show (clampK .i64 (ρ.z.F.i 5 [.int .i64 (ρ.i .i64 1), .int .i64 (ρ.i .i64 2), .int .i64 (ρ.i .i64 3), .int .i64 (ρ.i .i64 4), .int .i64 (ρ.i .i64 5), .int .i64 (ρ.i .i64 6), .int .i64 (ρ.i .i64 7)])) = (4 : Int) from ?_) (all_nil)
  all_goals try simp only [hF, pb2, pb6, pi1, pi3, pi5, pl1]
  all_goals
    simp only [clampR]
    unfold rightN
    try simp only [*, if_true, if_false, Bool.false_eq_true]
    try first
      | rfl
      | (repeat' split
         all_goals simp only [shapeN_iff, tickN_iff] at *
         all_goals omega)
theorem vcvrright_5 : VD TTvrright (st0 cRRight) wvrright_5 := by
  intro ρ kn hp
  have hF : ρ.z.F = sih.Φ := kn.F
  simp only [h_nil, h_cons, d_le, d_eq, d_not, d_var, d_lit, d_cel, d_leq, d_fn, d_and, d_iff, IE.den, LE.den, AL.den, lenV, true_and, and_true, pcvrright_12, pcvrright_11, pcvrright_10, pcvrright_9, pcvrright_8, pcvrright_7, pcvrright_6, pcvrright_5, pcvrright_4, pcvrright_3, pcvrright_2, pcvrright_1, pcvrright_0, hF, pb2, pb6, pi1, pi3, pi5, pl1] at hp
  obtain ⟨p1, p2, p3, p4, p5, p6, p7, p8, p9, p10, p11, p12, p13⟩ := hp
  refine all_cons (show (clampK .i64 (ρ.z.F.i 5 [.int .i64 (ρ.i .i64 1), .int .i64 (ρ.i .i64 2), .int .i64 (ρ.i .i64 3), .int .i64 (ρ.i .i64 4), .int .i64 (ρ.i .i64 5), .int .i64 (ρ.i .i64 6), .int .i64 (ρ.i .i64 7)])) = (4 : Int) from ?_) (all_nil)
  all_goals try simp only [hF, pb2, pb6, pi1, pi3, pi5, pl1]
  all_goals
    simp only [clampR]
    unfold rightN
    try simp only [*, if_true, if_false, Bool.false_eq_true]
    try first
      | rfl
      | (repeat' split
         all_goals simp only [shapeN_iff, tickN_iff] at *
         all_goals omega)
theorem vcvrright_6 : VD TTvrright (st0 cRRight) wvrright_6 := by
  intro ρ kn hp
  have hF : ρ.z.F = sih.Φ := kn.F
  simp only [h_nil, h_cons, d_le, d_eq, d_not, d_var, d_lit, d_cel, d_leq, d_fn, d_and, d_iff, IE.den, LE.den, AL.den, lenV, true_and, and_true, pcvrright_10, pcvrright_9, pcvrright_8, pcvrright_7, pcvrright_6, pcvrright_5, pcvrright_4, pcvrright_3, pcvrright_2, pcvrright_1, pcvrright_0, hF, pb2, pb6, pi1, pi3, pi5, pl1] at hp
  obtain ⟨p1, p2, p3, p4, p5, p6, p7, p8, p9, p10, p11⟩ := hp
  refine all_cons (show (clampK .i64 (ρ.z.F.i 5 [.int .i64 (ρ.i .i64 1), .int .i64 (ρ.i .i64 2), .int .i64 (ρ.i .i64 3), .int .i64 (ρ.i .i64 4), .int .i64 (ρ.i .i64 5), .int .i64 (ρ.i .i64 6), .int .i64 (ρ.i .i64 7)])) = (4 : Int) from ?_) (all_nil)
  all_goals try simp only [hF, pb2, pb6, pi1, pi3, pi5, pl1]
  all_goals
    simp only [clampR]
    unfold rightN
    try simp only [*, if_true, if_false, Bool.false_eq_true]
    try first
      | rfl
      | (repeat' split
         all_goals simp only [shapeN_iff, tickN_iff] at *
         all_goals omega)
theorem vcvrright_7 : VD TTvrright (st0 cRRight) wvrright_7 := by
  intro ρ kn hp
  have hF : ρ.z.F = sih.Φ := kn.F
  simp only [h_nil, h_cons, d_le, d_eq, d_not, d_var, d_lit, d_cel, d_leq, d_fn, d_and, d_iff, IE.den, LE.den, AL.den, lenV, true_and, and_true, pcvrright_8, pcvrright_7, pcvrright_6, pcvrright_5, pcvrright_4, pcvrright_3, pcvrright_2, pcvrright_1, pcvrright_0, hF, pb2, pb6, pi1, pi3, pi5, pl1] at hp
  obtain ⟨p1, p2, p3, p4, p5, p6, p7, p8, p9⟩ := hp
  refine all_cons (show (clampK .i64 (ρ.z.F.i 5 [.int .i64 (ρ.i .i64 1), .int .i64 (ρ.i .i64 2), .int .i64 (ρ.i .i64 3), .int .i64 (ρ.i .i64 4), .int .i64 (ρ.i .i64 5), .int .i64 (ρ.i .i64 6), .int .i64 (ρ.i .i64 7)])) = (4 : Int) from ?_) (all_nil)
  all_goals try simp only [hF, pb2, pb6, pi1, pi3, pi5, pl1]
  all_goals
    simp only [clampR]
    unfold rightN
    try simp only [*, if_true, if_false, Bool.false_eq_true]
    try first
      | rfl
      | (repeat' split
         all_goals simp only [shapeN_iff, tickN_iff] at *
         all_goals omega)
theorem vcvrright_8 : VD TTvrright (st0 cRRight) wvrright_8 := by
  intro ρ kn hp
  have hF : ρ.z.F = sih.Φ := kn.F
  simp only [h_nil, h_cons, d_le, d_eq, d_not, d_var, d_lit, d_cel, d_leq, d_fn, d_and, d_iff, IE.den, LE.den, AL.den, lenV, true_and, and_true, pcvrright_6, pcvrright_5, pcvrright_4, pcvrright_3, pcvrright_2, pcvrright_1, pcvrright_0, hF, pb2, pb6, pi1, pi3, pi5, pl1] at hp
  obtain ⟨p1, p2, p3, p4, p5, p6, p7⟩ := hp
  refine all_cons (show (clampK .i64 (ρ.z.F.i 5 [.int .i64 (ρ.i .i64 1), .int .i64 (ρ.i .i64 2), .int .i64 (ρ.i .i64 3), .int .i64 (ρ.i .i64 4), .int .i64 (ρ.i .i64 5), .int .i64 (ρ.i .i64 6), .int .i64 (ρ.i .i64 7)])) = (4 : Int) from ?_) (all_nil)
  all_goals try simp only [hF, pb2, pb6, pi1, pi3, pi5, pl1]
  all_goals
    simp only [clampR]
    unfold rightN
    try simp only [*, if_true, if_false, Bool.false_eq_true]
    try first
      | rfl
      | (repeat' split
         all_goals simp only [shapeN_iff, tickN_iff] at *
         all_goals omega)
theorem vcvrright_9 : VD TTvrright (st0 cRRight) wvrright_9 := by
  intro ρ kn hp
  have hF : ρ.z.F = sih.Φ := kn.F
  simp only [h_nil, h_cons, d_le, d_eq, d_not, d_var, d_lit, d_cel, d_leq, d_fn, d_and, d_iff, IE.den, LE.den, AL.den, lenV, true_and, and_true, pcvrright_5, pcvrright_4, pcvrright_3, pcvrright_2, pcvrright_1, pcvrright_0, hF, pb2, pb6, pi1, pi3, pi5, pl1] at hp
  obtain ⟨p1, p2, p3, p4, p5, p6⟩ := hp
  refine all_cons (show (clampK .i64 (ρ.z.F.i 5 [.int .i64 (ρ.i .i64 1), .int .i64 (ρ.i .i64 2), .int .i64 (ρ.i .i64 3), .int .i64 (ρ.i .i64 4), .int .i64 (ρ.i .i64 5), .int .i64 (ρ.i .i64 6), .int .i64 (ρ.i .i64 7)])) = (2 : Int) from ?_) (all_nil)
  all_goals try simp only [hF, pb2, pb6, pi1, pi3, pi5, pl1]
  all_goals
    simp only [clampR]
    unfold rightN
    try simp only [*, if_true, if_false, Bool.false_eq_true]
    try first
      | rfl
      | (repeat' split
         all_goals simp only [shapeN_iff, tickN_iff] at *
         all_goals omega)
theorem vcvrright_10 : VD TTvrright (st0 cRRight) wvrright_10 := by
  intro ρ kn hp
  have hF : ρ.z.F = sih.Φ := kn.F
  simp only [h_nil, h_cons, d_le, d_eq, d_not, d_var, d_lit, d_cel, d_leq, d_fn, d_and, d_iff, IE.den, LE.den, AL.den, lenV, true_and, and_true, pcvrright_4, pcvrright_3, pcvrright_2, pcvrright_1, pcvrright_0, hF, pb2, pb6, pi1, pi3, pi5, pl1] at hp
  obtain ⟨p1, p2, p3, p4, p5⟩ := hp
  refine all_cons (show (clampK .i64 (ρ.z.F.i 5 [.int .i64 (ρ.i .i64 1), .int .i64 (ρ.i .i64 2), .int .i64 (ρ.i .i64 3), .int .i64 (ρ.i .i64 4), .int .i64 (ρ.i .i64 5), .int .i64 (ρ.i .i64 6), .int .i64 (ρ.i .i64 7)])) = (2 : Int) from ?_) (all_nil)
  all_goals try simp only [hF, pb2, pb6, pi1, pi3, pi5, pl1]
  all_goals
    simp only [clampR]
    unfold rightN
    try simp only [*, if_true, if_false, Bool.false_eq_true]
    try first
      | rfl
      | (repeat' split
         all_goals simp only [shapeN_iff, tickN_iff] at *
         all_goals omega)
theorem vcvrright_11 : VD TTvrright (st0 cRRight) wvrright_11 := by
  intro ρ kn hp
  have hF : ρ.z.F = sih.Φ := kn.F
  simp only [h_nil, h_cons, d_le, d_eq, d_not, d_var, d_lit, d_cel, d_leq, d_fn, d_and, d_iff, IE.den, LE.den, AL.den, lenV, true_and, and_true, pcvrright_3, pcvrright_2, pcvrright_1, pcvrright_0, hF, pb2, pb6, pi1, pi3, pi5, pl1] at hp
  obtain ⟨p1, p2, p3, p4⟩ := hp
  refine all_cons (show (clampK .i64 (ρ.z.F.i 5 [.int .i64 (ρ.i .i64 1), .int .i64 (ρ.i .i64 2), .int .i64 (ρ.i .i64 3), .int .i64 (ρ.i .i64 4), .int .i64 (ρ.i .i64 5), .int .i64 (ρ.i .i64 6), .int .i64 (ρ.i .i64 7)])) = (2 : Int) from ?_) (all_nil)
  all_goals try simp only [hF, pb2, pb6, pi1, pi3, pi5, pl1]
  all_goals
    simp only [clampR]
    unfold rightN
    try simp only [*, if_true, if_false, Bool.false_eq_true]
    try first
      | rfl
      | (repeat' split
         all_goals simp only [shapeN_iff, tickN_iff] at *
         all_goals omega)
theorem vcvrright_12 : VD TTvrright (st0 cRRight) wvrright_12 := by
  intro ρ kn hp
  have hF : ρ.z.F = sih.Φ := kn.F
  simp only [h_nil, h_cons, d_le, d_eq, d_not, d_var, d_lit, d_cel, d_leq, d_fn, d_and, d_iff, IE.den, LE.den, AL.den, lenV, true_and, and_true, pcvrright_2, pcvrright_1, pcvrright_0, hF, pb2, pb6, pi1, pi3, pi5, pl1] at hp
  obtain ⟨p1, p2, p3⟩ := hp
  refine all_cons (show (clampK .i64 (ρ.z.F.i 5 [.int .i64 (ρ.i .i64 1), .int .i64 (ρ.i .i64 2), .int .i64 (ρ.i .i64 3), .int .i64 (ρ.i .i64 4), .int .i64 (ρ.i .i64 5), .int .i64 (ρ.i .i64 6), .int .i64 (ρ.i .i64 7)])) = (2 : Int) from ?_) (all_nil)
  all_goals try simp only [hF, pb2, pb6, pi1, pi3, pi5, pl1]
  all_goals
    simp only [clampR]
    unfold rightN
    try simp only [*, if_true, if_false, Bool.false_eq_true]
    try first
      | rfl
      | (repeat' split
         all_goals simp only [shapeN_iff, tickN_iff] at *
         all_goals omega)
theorem vcvrright_13 : VD TTvrright (st0 cRRight) wvrright_13 := by
  intro ρ kn hp
  have hF : ρ.z.F = sih.Φ := kn.F
  simp only [h_nil, h_cons, d_le, d_eq, d_not, d_var, d_lit, d_cel, d_leq, d_fn, d_and, d_iff, IE.den, LE.den, AL.den, lenV, true_and, and_true, pcvrright_1, pcvrright_0, hF, pb2, pb6, pi1, pi3, pi5, pl1] at hp
  obtain ⟨p1, p2⟩ := hp
  refine all_cons (show (clampK .i64 (ρ.z.F.i 5 [.int .i64 (ρ.i .i64 1), .int .i64 (ρ.i .i64 2), .int .i64 (ρ.i .i64 3), .int .i64 (ρ.i .i64 4), .int .i64 (ρ.i .i64 5), .int .i64 (ρ.i .i64 6), .int .i64 (ρ.i .i64 7)])) = (2 : Int) from ?_) (all_nil)
  all_goals try simp only [hF, pb2, pb6, pi1, pi3, pi5, pl1]
  all_goals
    simp only [clampR]
    unfold rightN
    try simp only [*, if_true, if_false, Bool.false_eq_true]
    try first
      | rfl
      | (repeat' split
         all_goals simp only [shapeN_iff, tickN_iff] at *
         all_goals omega)
theorem vcvrright_14 : VD TTvrright (st0 cRRight) wvrright_14 := by
  intro ρ kn hp
  have hF : ρ.z.F = sih.Φ := kn.F
  simp only [h_nil, h_cons, d_le, d_eq, d_not, d_var, d_lit, d_cel, d_leq, d_fn, d_and, d_iff, IE.den, LE.den, AL.den, lenV, true_and, and_true, pcvrright_0, hF, pb2, pb6, pi1, pi3, pi5, pl1] at hp
  have p1 := hp
  refine all_cons (show (clampK .i64 (ρ.z.F.i 5 [.int .i64 (ρ.i .i64 1), .int .i64 (ρ.i .i64 2), .int .i64 (ρ.i .i64 3), .int .i64 (ρ.i .i64 4), .int .i64 (ρ.i .i64 5), .int .i64 (ρ.i .i64 6), .int .i64 (ρ.i .i64 7)])) = (2 : Int) from ?_) (all_nil)
  all_goals try simp only [hF, pb2, pb6, pi1, pi3, pi5, pl1]
  all_goals
    simp only [clampR]
    unfold rightN
    try simp only [*, if_true, if_false, Bool.false_eq_true]
    try first
      | rfl
      | (repeat' split
         all_goals simp only [shapeN_iff, tickN_iff] at *
         all_goals omega)
theorem told_vrright : Sx.Told sih.Φ cRRight := told_vw (cs := []) (all_nil) 4000 vwvrright (by kernel_rfl) (by kernel_rfl) (by kernel_rfl) (post_nil rfl) (by kernel_rfl) (by kernel_rfl) (all_cons vcvrright_0 (all_cons vcvrright_1 (all_cons vcvrright_2 (all_cons vcvrright_3 (all_cons vcvrright_4 (all_cons vcvrright_5 (all_cons vcvrright_6 (all_cons vcvrright_7 (all_cons vcvrright_8 (all_cons vcvrright_9 (all_cons vcvrright_10 (all_cons vcvrright_11 (all_cons vcvrright_12 (all_cons vcvrright_13 (all_cons vcvrright_14 (all_nil))))))))))))))))
noncomputable section
abbrev TTvsright : Tab := T sih.Φ cSRight.roms [cRightS, cHas, cName, cChk1, cChk2]
def pcvsright_0 : List BE := [(BE.lit true)]
def pcvsright_1 : List BE := ((BE.fn 2 (AL.int .i64 (IE.var .i64 1) (AL.int .i64 (IE.var .i64 2) (AL.int .i64 (IE.var .i64 3) AL.nil)))) :: pcvsright_0)
def wvsright_0 : VW := (VW.done ((BE.fn 6 (AL.int .i64 (IE.var .i64 1) (AL.int .i64 (IE.var .i64 2) (AL.int .i64 (IE.var .i64 3) (AL.int .i64 (IE.var .i64 4) (AL.int .i64 (IE.var .i64 5) (AL.int .i64 (IE.var .i64 6) (AL.int .i64 (IE.var .i64 7) AL.nil)))))))) :: pcvsright_1) (some [(G.i (IE.fn .i64 5 (AL.int .i64 (IE.var .i64 1) (AL.int .i64 (IE.var .i64 2) (AL.int .i64 (IE.var .i64 3) (AL.int .i64 (IE.var .i64 4) (AL.int .i64 (IE.var .i64 5) (AL.int .i64 (IE.var .i64 6) (AL.int .i64 (IE.var .i64 7) AL.nil)))))))) (IE.lit 0))]))
def wvsright_1 : VW := (VW.done ((BE.not (BE.fn 6 (AL.int .i64 (IE.var .i64 1) (AL.int .i64 (IE.var .i64 2) (AL.int .i64 (IE.var .i64 3) (AL.int .i64 (IE.var .i64 4) (AL.int .i64 (IE.var .i64 5) (AL.int .i64 (IE.var .i64 6) (AL.int .i64 (IE.var .i64 7) AL.nil))))))))) :: pcvsright_1) (some [(G.i (IE.fn .i64 5 (AL.int .i64 (IE.var .i64 1) (AL.int .i64 (IE.var .i64 2) (AL.int .i64 (IE.var .i64 3) (AL.int .i64 (IE.var .i64 4) (AL.int .i64 (IE.var .i64 5) (AL.int .i64 (IE.var .i64 6) (AL.int .i64 (IE.var .i64 7) AL.nil)))))))) (IE.lit 4))]))
def wvsright_2 : VW := (VW.done ((BE.not (BE.fn 2 (AL.int .i64 (IE.var .i64 1) (AL.int .i64 (IE.var .i64 2) (AL.int .i64 (IE.var .i64 3) AL.nil))))) :: pcvsright_0) (some [(G.i (IE.fn .i64 5 (AL.int .i64 (IE.var .i64 1) (AL.int .i64 (IE.var .i64 2) (AL.int .i64 (IE.var .i64 3) (AL.int .i64 (IE.var .i64 4) (AL.int .i64 (IE.var .i64 5) (AL.int .i64 (IE.var .i64 6) (AL.int .i64 (IE.var .i64 7) AL.nil)))))))) (IE.lit 2))]))
def vwvsright : List VW := [wvsright_0, wvsright_1, wvsright_2]
end
theorem vcvsright_0 : VD TTvsright (st0 cSRight) wvsright_0 := by
  intro ρ kn hp
  have hF : ρ.z.F = sih.Φ := kn.F
  simp only [h_nil, h_cons, d_le, d_eq, d_not, d_var, d_lit, d_cel, d_leq, d_fn, d_and, d_iff, IE.den, LE.den, AL.den, lenV, true_and, and_true, pcvsright_1, pcvsright_0, hF, pb2, pb6, pi1, pi3, pi5, pl1] at hp
  obtain ⟨p1, p2⟩ := hp
  refine all_cons (show (clampK .i64 (ρ.z.F.i 5 [.int .i64 (ρ.i .i64 1), .int .i64 (ρ.i .i64 2), .int .i64 (ρ.i .i64 3), .int .i64 (ρ.i .i64 4), .int .i64 (ρ.i .i64 5), .int .i64 (ρ.i .i64 6), .int .i64 (ρ.i .i64 7)])) = (0 : Int) from ?_) (all_nil)
  all_goals try simp only [hF, pb2, pb6, pi1, pi3, pi5, pl1]
  all_goals
    simp only [clampR]
    unfold rightN
    try simp only [*, if_true, if_false, Bool.false_eq_true]
    try first
      | rfl
      | (repeat' split
         all_goals simp only [shapeN_iff, tickN_iff] at *
         all_goals omega)
theorem vcvsright_1 : VD TTvsright (st0 cSRight) wvsright_1 := by
  intro ρ kn hp
  have hF : ρ.z.F = sih.Φ := kn.F
  simp only [h_nil, h_cons, d_le, d_eq, d_not, d_var, d_lit, d_cel, d_leq, d_fn, d_and, d_iff, IE.den, LE.den, AL.den, lenV, true_and, and_true, pcvsright_1, pcvsright_0, hF, pb2, pb6, pi1, pi3, pi5, pl1] at hp
  obtain ⟨p1, p2⟩ := hp
  refine all_cons (show (clampK .i64 (ρ.z.F.i 5 [.int .i64 (ρ.i .i64 1), .int .i64 (ρ.i .i64 2), .int .i64 (ρ.i .i64 3), .int .i64 (ρ.i .i64 4), .int .i64 (ρ.i .i64 5), .int .i64 (ρ.i .i64 6), .int .i64 (ρ.i .i64 7)])) = (4 : Int) from ?_) (all_nil)
  all_goals try simp only [hF, pb2, pb6, pi1, pi3, pi5, pl1]
  all_goals
    simp only [clampR]
    unfold rightN
    try simp only [*, if_true, if_false, Bool.false_eq_true]
    try first
      | rfl
      | (repeat' split
         all_goals simp only [shapeN_iff, tickN_iff] at *
         all_goals omega)
theorem vcvsright_2 : VD TTvsright (st0 cSRight) wvsright_2 := by
  intro ρ kn hp
  have hF : ρ.z.F = sih.Φ := kn.F
  simp only [h_nil, h_cons, d_le, d_eq, d_not, d_var, d_lit, d_cel, d_leq, d_fn, d_and, d_iff, IE.den, LE.den, AL.den, lenV, true_and, and_true, pcvsright_0, hF, pb2, pb6, pi1, pi3, pi5, pl1] at hp
  have p1 := hp
  refine all_cons (show (clampK .i64 (ρ.z.F.i 5 [.int .i64 (ρ.i .i64 1), .int .i64 (ρ.i .i64 2), .int .i64 (ρ.i .i64 3), .int .i64 (ρ.i .i64 4), .int .i64 (ρ.i .i64 5), .int .i64 (ρ.i .i64 6), .int .i64 (ρ.i .i64 7)])) = (2 : Int) from ?_) (all_nil)
  all_goals try simp only [hF, pb2, pb6, pi1, pi3, pi5, pl1]
  all_goals
    simp only [clampR]
    unfold rightN
    try simp only [*, if_true, if_false, Bool.false_eq_true]
    try first
      | rfl
      | (repeat' split
         all_goals simp only [shapeN_iff, tickN_iff] at *
         all_goals omega)
theorem told_vsright : Sx.Told sih.Φ cSRight := told_vw (cs := [cRightS, cHas, cName, cChk1, cChk2]) (all_cons told_vrightS (all_cons told_vhas (all_cons told_vname (all_cons told_vchk1 (all_cons told_vchk2 (all_nil)))))) 4000 vwvsright (by kernel_rfl) (by kernel_rfl) (by kernel_rfl) (post_nil rfl) (by kernel_rfl) (by kernel_rfl) (all_cons vcvsright_0 (all_cons vcvsright_1 (all_cons vcvsright_2 (all_nil))))
noncomputable section
abbrev TTvrtext : Tab := T sih.Φ cRText.roms [cFmt, cJoin, cIx1, cIxA, cIxB]
def wvrtext_0 : VW := (VW.done [(BE.le (IE.len (LE.fn 1 (AL.int .i64 (IE.var .i64 7) AL.nil))) (IE.lit 20)), (BE.le (IE.len (LE.fn 1 (AL.int .i64 (IE.var .i64 6) AL.nil))) (IE.lit 20)), (BE.le (IE.len (LE.fn 1 (AL.int .i64 (IE.var .i64 5) AL.nil))) (IE.lit 20)), (BE.le (IE.len (LE.fn 1 (AL.int .i64 (IE.var .i64 4) AL.nil))) (IE.lit 20)), (BE.lit true), (BE.le (IE.lit (-9223372036854775808)) (IE.var .i64 4)), (BE.le (IE.var .i64 4) (IE.lit 9223372036854775807)), (BE.le (IE.lit (-9223372036854775808)) (IE.var .i64 5)), (BE.le (IE.var .i64 5) (IE.lit 9223372036854775807)), (BE.le (IE.lit (-9223372036854775808)) (IE.var .i64 6)), (BE.le (IE.var .i64 6) (IE.lit 9223372036854775807)), (BE.le (IE.lit (-9223372036854775808)) (IE.var .i64 7)), (BE.le (IE.var .i64 7) (IE.lit 9223372036854775807))] (some [(G.l (LE.cat (LE.fn 1 (AL.int .i64 (IE.var .i64 4) AL.nil)) (LE.cat (LE.one (AL.int .u8 (IE.lit 46) AL.nil)) (LE.cat (LE.fn 1 (AL.int .i64 (IE.var .i64 5) AL.nil)) (LE.cat (LE.one (AL.int .u8 (IE.lit 46) AL.nil)) (LE.cat (LE.fn 1 (AL.int .i64 (IE.var .i64 6) AL.nil)) (LE.cat (LE.one (AL.int .u8 (IE.lit 46) AL.nil)) (LE.fn 1 (AL.int .i64 (IE.var .i64 7) AL.nil)))))))) (LE.cat (LE.cat (LE.cat (LE.cat (LE.cat (LE.cat (LE.fn 1 (AL.int .i64 (IE.var .i64 4) AL.nil)) (LE.one (AL.int .u8 (IE.lit 46) AL.nil))) (LE.fn 1 (AL.int .i64 (IE.var .i64 5) AL.nil))) (LE.one (AL.int .u8 (IE.lit 46) AL.nil))) (LE.fn 1 (AL.int .i64 (IE.var .i64 6) AL.nil))) (LE.one (AL.int .u8 (IE.lit 46) AL.nil))) (LE.fn 1 (AL.int .i64 (IE.var .i64 7) AL.nil))))]))
def vwvrtext : List VW := [wvrtext_0]
end
theorem vcvrtext_0 : VD TTvrtext (st0 cRText) wvrtext_0 := by
  intro ρ kn hp
  have hF : ρ.z.F = sih.Φ := kn.F
  simp only [h_nil, h_cons, d_le, d_eq, d_not, d_var, d_lit, d_cel, d_leq, d_fn, d_and, d_iff, IE.den, LE.den, AL.den, lenV, true_and, and_true, hF, pb2, pb6, pi1, pi3, pi5, pl1] at hp
  obtain ⟨p1, p2, p3, p4, p5, p6, p7, p8, p9, p10, p11, p12⟩ := hp
  refine all_cons (show ((ρ.z.F.l 1 [.int .i64 (ρ.i .i64 4)]) ++ (([[Go.Value.int .u8 (46 : Int)]] : LV) ++ ((ρ.z.F.l 1 [.int .i64 (ρ.i .i64 5)]) ++ (([[Go.Value.int .u8 (46 : Int)]] : LV) ++ ((ρ.z.F.l 1 [.int .i64 (ρ.i .i64 6)]) ++ (([[Go.Value.int .u8 (46 : Int)]] : LV) ++ (ρ.z.F.l 1 [.int .i64 (ρ.i .i64 7)]))))))) = (((((((ρ.z.F.l 1 [.int .i64 (ρ.i .i64 4)]) ++ ([[Go.Value.int .u8 (46 : Int)]] : LV)) ++ (ρ.z.F.l 1 [.int .i64 (ρ.i .i64 5)])) ++ ([[Go.Value.int .u8 (46 : Int)]] : LV)) ++ (ρ.z.F.l 1 [.int .i64 (ρ.i .i64 6)])) ++ ([[Go.Value.int .u8 (46 : Int)]] : LV)) ++ (ρ.z.F.l 1 [.int .i64 (ρ.i .i64 7)])) from ?_) (all_nil)
  all_goals try simp only [hF, pb2, pb6, pi1, pi3, pi5, pl1]
  all_goals first | rfl | simp only [List.append_assoc]
theorem told_vrtext : Sx.Told sih.Φ cRText := told_vw (cs := [cFmt, cJoin, cIx1, cIxA, cIxB]) (all_cons told_fmt (all_cons told_join (all_cons told_ix1 (all_cons told_ixA (all_cons told_ixB (all_nil)))))) 9000 vwvrtext (by kernel_rfl) (by kernel_rfl) (by kernel_rfl) (post_nil rfl) (by kernel_rfl) (by kernel_rfl) (all_cons vcvrtext_0 (all_nil))
noncomputable section
abbrev TTvparse : Tab := T sih.Φ cParse.roms [cFmt, cPI, cIxS, cIxL, cRightS, cHas, cChk1, cChk2]
def pcvparse_0 : List BE := [(BE.le (IE.len (LE.fn 1 (AL.int .i64 (IE.var .i64 4) AL.nil))) (IE.lit 20)), (BE.le (IE.lit 1) (IE.len (LE.fn 1 (AL.int .i64 (IE.var .i64 6) AL.nil)))), (BE.le (IE.len (LE.fn 1 (AL.int .i64 (IE.var .i64 6) AL.nil))) (IE.lit 20)), (BE.le (IE.lit 1) (IE.len (LE.fn 1 (AL.int .i64 (IE.var .i64 5) AL.nil)))), (BE.le (IE.len (LE.fn 1 (AL.int .i64 (IE.var .i64 5) AL.nil))) (IE.lit 20)), (BE.le (IE.lit 1) (IE.len (LE.fn 1 (AL.int .i64 (IE.var .i64 4) AL.nil)))), (BE.le (IE.len (LE.fn 1 (AL.int .i64 (IE.var .i64 4) AL.nil))) (IE.lit 20)), (BE.le (IE.lit 1) (IE.var .i64 1)), (BE.le (IE.var .i64 1) (IE.lit 64)), (BE.le (IE.lit 1) (IE.var .i64 2)), (BE.le (IE.var .i64 2) (IE.lit 8)), (BE.le (IE.lit 1) (IE.var .i64 3)), (BE.le (IE.var .i64 3) (IE.lit 4)), (BE.lit true), (BE.fn 2 (AL.int .i64 (IE.var .i64 1) (AL.int .i64 (IE.var .i64 2) (AL.int .i64 (IE.var .i64 3) AL.nil)))), (BE.fn 6 (AL.int .i64 (IE.var .i64 1) (AL.int .i64 (IE.var .i64 2) (AL.int .i64 (IE.var .i64 3) (AL.int .i64 (IE.var .i64 4) (AL.int .i64 (IE.var .i64 5) (AL.int .i64 (IE.var .i64 6) (AL.int .i64 (IE.var .i64 7) AL.nil)))))))), (BE.le (IE.len (LE.cat (LE.fn 1 (AL.int .i64 (IE.var .i64 4) AL.nil)) (LE.cat (LE.one (AL.int .u8 (IE.lit 46) AL.nil)) (LE.cat (LE.fn 1 (AL.int .i64 (IE.var .i64 5) AL.nil)) (LE.cat (LE.one (AL.int .u8 (IE.lit 46) AL.nil)) (LE.cat (LE.fn 1 (AL.int .i64 (IE.var .i64 6) AL.nil)) (LE.cat (LE.one (AL.int .u8 (IE.lit 46) AL.nil)) (LE.fn 1 (AL.int .i64 (IE.var .i64 7) AL.nil))))))))) (IE.lit 100)), (BE.le (IE.lit 1) (IE.len (LE.fn 1 (AL.int .i64 (IE.var .i64 4) AL.nil)))), (BE.le (IE.lit 1) (IE.len (LE.fn 1 (AL.int .i64 (IE.var .i64 5) AL.nil)))), (BE.le (IE.lit 1) (IE.len (LE.fn 1 (AL.int .i64 (IE.var .i64 6) AL.nil)))), (BE.le (IE.lit 1) (IE.len (LE.fn 1 (AL.int .i64 (IE.var .i64 7) AL.nil)))), (BE.le (IE.len (LE.fn 1 (AL.int .i64 (IE.var .i64 4) AL.nil))) (IE.lit 20)), (BE.le (IE.len (LE.fn 1 (AL.int .i64 (IE.var .i64 5) AL.nil))) (IE.lit 20)), (BE.le (IE.len (LE.fn 1 (AL.int .i64 (IE.var .i64 6) AL.nil))) (IE.lit 20)), (BE.le (IE.len (LE.fn 1 (AL.int .i64 (IE.var .i64 7) AL.nil))) (IE.lit 20)), (BE.le (IE.lit 0) (IE.var .i64 4)), (BE.le (IE.lit 0) (IE.var .i64 5)), (BE.le (IE.lit 0) (IE.var .i64 6)), (BE.le (IE.lit 0) (IE.var .i64 7))]
def pcvparse_1 : List BE := ((BE.le (IE.len (LE.fn 1 (AL.int .i64 (IE.var .i64 5) AL.nil))) (IE.lit 20)) :: (BE.le (IE.var .i64 4) (IE.sub (IE.var .i64 1) (IE.lit 1))) :: pcvparse_0)
def pcvparse_2 : List BE := ((BE.le (IE.len (LE.fn 1 (AL.int .i64 (IE.var .i64 6) AL.nil))) (IE.lit 20)) :: (BE.le (IE.var .i64 5) (IE.sub (IE.var .i64 2) (IE.lit 1))) :: pcvparse_1)
def pcvparse_3 : List BE := ((BE.le (IE.len (LE.fn 1 (AL.int .i64 (IE.var .i64 7) AL.nil))) (IE.lit 20)) :: (BE.le (IE.var .i64 6) (IE.sub (IE.var .i64 3) (IE.lit 1))) :: pcvparse_2)
def pcvparse_4 : List BE := ((BE.le (IE.lit 1) (IE.var .i64 7)) :: pcvparse_3)
def wvparse_0 : VW := (VW.done ((BE.le (IE.var .i64 7) (IE.lit 1099511627776)) :: pcvparse_4) (some []))
def wvparse_1 : VW := (VW.done ((BE.not (BE.le (IE.var .i64 7) (IE.lit 1099511627776))) :: pcvparse_4) (some [(G.i (IE.var .i64 4) (IE.lit 0)), (G.i (IE.var .i64 5) (IE.lit 0)), (G.i (IE.var .i64 6) (IE.lit 0)), (G.i (IE.var .i64 7) (IE.lit 0)), (G.i (IE.lit 0) (IE.lit 150))]))
def wvparse_2 : VW := (VW.done ((BE.not (BE.le (IE.lit 1) (IE.var .i64 7))) :: pcvparse_3) (some [(G.i (IE.var .i64 4) (IE.lit 0)), (G.i (IE.var .i64 5) (IE.lit 0)), (G.i (IE.var .i64 6) (IE.lit 0)), (G.i (IE.lit 0) (IE.lit 150))]))
def wvparse_3 : VW := (VW.done ((BE.not (BE.le (IE.var .i64 6) (IE.sub (IE.var .i64 3) (IE.lit 1)))) :: pcvparse_2) (some [(G.i (IE.var .i64 4) (IE.lit 0)), (G.i (IE.var .i64 5) (IE.lit 0)), (G.i (IE.var .i64 6) (IE.lit 0)), (G.i (IE.var .i64 7) (IE.lit 0)), (G.i (IE.lit 0) (IE.lit 150))]))
def wvparse_4 : VW := (VW.done ((BE.not (BE.le (IE.var .i64 5) (IE.sub (IE.var .i64 2) (IE.lit 1)))) :: pcvparse_1) (some [(G.i (IE.var .i64 4) (IE.lit 0)), (G.i (IE.var .i64 5) (IE.lit 0)), (G.i (IE.var .i64 6) (IE.lit 0)), (G.i (IE.var .i64 7) (IE.lit 0)), (G.i (IE.lit 0) (IE.lit 150))]))
def wvparse_5 : VW := (VW.done ((BE.not (BE.le (IE.var .i64 4) (IE.sub (IE.var .i64 1) (IE.lit 1)))) :: pcvparse_0) (some [(G.i (IE.var .i64 4) (IE.lit 0)), (G.i (IE.var .i64 5) (IE.lit 0)), (G.i (IE.var .i64 6) (IE.lit 0)), (G.i (IE.var .i64 7) (IE.lit 0)), (G.i (IE.lit 0) (IE.lit 150))]))
def vwvparse : List VW := [wvparse_0, wvparse_1, wvparse_2, wvparse_3, wvparse_4, wvparse_5]
end
theorem vcvparse_0 : VD TTvparse (st0 cParse) wvparse_0 := by
  intro ρ kn hp
  exact all_nil
theorem vcvparse_1 : VD TTvparse (st0 cParse) wvparse_1 := by
  intro ρ kn hp
  have hF : ρ.z.F = sih.Φ := kn.F
  simp only [h_nil, h_cons, d_le, d_eq, d_not, d_var, d_lit, d_cel, d_leq, d_fn, d_and, d_iff, IE.den, LE.den, AL.den, lenV, true_and, and_true, pcvparse_4, pcvparse_3, pcvparse_2, pcvparse_1, pcvparse_0, hF, pb2, pb6, pi1, pi3, pi5, pl1] at hp
  obtain ⟨p1, p2, p3, p4, p5, p6, p7, p8, p9, p10, p11, p12, p13, p14, p15, p16, p17, p18, p19, p20, p21, p22, p23, p24, p25, p26, p27, p28, p29, p30, p31, p32, p33, p34, p35, p36⟩ := hp
  refine all_cons (show (ρ.i .i64 4) = (0 : Int) from ?_) (all_cons (show (ρ.i .i64 5) = (0 : Int) from ?_) (all_cons (show (ρ.i .i64 6) = (0 : Int) from ?_) (all_cons (show (ρ.i .i64 7) = (0 : Int) from ?_) (all_cons (show (0 : Int) = (150 : Int) from ?_) (all_nil)))))
  all_goals try simp only [hF, pb2, pb6, pi1, pi3, pi5, pl1]
  all_goals
    simp only [shapeN_iff, tickN_iff] at *
    have w1 := wr (x := ρ.i .i64 1 - 1) (by omega) (by omega)
    have w2 := wr (x := ρ.i .i64 2 - 1) (by omega) (by omega)
    have w3 := wr (x := ρ.i .i64 3 - 1) (by omega) (by omega)
    omega
theorem vcvparse_2 : VD TTvparse (st0 cParse) wvparse_2 := by
  intro ρ kn hp
  have hF : ρ.z.F = sih.Φ := kn.F
  simp only [h_nil, h_cons, d_le, d_eq, d_not, d_var, d_lit, d_cel, d_leq, d_fn, d_and, d_iff, IE.den, LE.den, AL.den, lenV, true_and, and_true, pcvparse_3, pcvparse_2, pcvparse_1, pcvparse_0, hF, pb2, pb6, pi1, pi3, pi5, pl1] at hp
  obtain ⟨p1, p2, p3, p4, p5, p6, p7, p8, p9, p10, p11, p12, p13, p14, p15, p16, p17, p18, p19, p20, p21, p22, p23, p24, p25, p26, p27, p28, p29, p30, p31, p32, p33, p34, p35⟩ := hp
  refine all_cons (show (ρ.i .i64 4) = (0 : Int) from ?_) (all_cons (show (ρ.i .i64 5) = (0 : Int) from ?_) (all_cons (show (ρ.i .i64 6) = (0 : Int) from ?_) (all_cons (show (0 : Int) = (150 : Int) from ?_) (all_nil))))
  all_goals try simp only [hF, pb2, pb6, pi1, pi3, pi5, pl1]
  all_goals
    simp only [shapeN_iff, tickN_iff] at *
    have w1 := wr (x := ρ.i .i64 1 - 1) (by omega) (by omega)
    have w2 := wr (x := ρ.i .i64 2 - 1) (by omega) (by omega)
    have w3 := wr (x := ρ.i .i64 3 - 1) (by omega) (by omega)
    omega
theorem vcvparse_3 : VD TTvparse (st0 cParse) wvparse_3 := by
  intro ρ kn hp
  have hF : ρ.z.F = sih.Φ := kn.F
  simp only [h_nil, h_cons, d_le, d_eq, d_not, d_var, d_lit, d_cel, d_leq, d_fn, d_and, d_iff, IE.den, LE.den, AL.den, lenV, true_and, and_true, pcvparse_2, pcvparse_1, pcvparse_0, hF, pb2, pb6, pi1, pi3, pi5, pl1] at hp
  obtain ⟨p1, p2, p3, p4, p5, p6, p7, p8, p9, p10, p11, p12, p13, p14, p15, p16, p17, p18, p19, p20, p21, p22, p23, p24, p25, p26, p27, p28, p29, p30, p31, p32, p33⟩ := hp
  refine all_cons (show (ρ.i .i64 4) = (0 : Int) from ?_) (all_cons (show (ρ.i .i64 5) = (0 : Int) from ?_) (all_cons (show (ρ.i .i64 6) = (0 : Int) from ?_) (all_cons (show (ρ.i .i64 7) = (0 : Int) from ?_) (all_cons (show (0 : Int) = (150 : Int) from ?_) (all_nil)))))
  all_goals try simp only [hF, pb2, pb6, pi1, pi3, pi5, pl1]
  all_goals
    simp only [shapeN_iff, tickN_iff] at *
    have w1 := wr (x := ρ.i .i64 1 - 1) (by omega) (by omega)
    have w2 := wr (x := ρ.i .i64 2 - 1) (by omega) (by omega)
    have w3 := wr (x := ρ.i .i64 3 - 1) (by omega) (by omega)
    omega
theorem vcvparse_4 : VD TTvparse (st0 cParse) wvparse_4 := by
  intro ρ kn hp
  have hF : ρ.z.F = sih.Φ := kn.F
  simp only [h_nil, h_cons, d_le, d_eq, d_not, d_var, d_lit, d_cel, d_leq, d_fn, d_and, d_iff, IE.den, LE.den, AL.den, lenV, true_and, and_true, pcvparse_1, pcvparse_0, hF, pb2, pb6, pi1, pi3, pi5, pl1] at hp
  obtain ⟨p1, p2, p3, p4, p5, p6, p7, p8, p9, p10, p11, p12, p13, p14, p15, p16, p17, p18, p19, p20, p21, p22, p23, p24, p25, p26, p27, p28, p29, p30, p31⟩ := hp
  refine all_cons (show (ρ.i .i64 4) = (0 : Int) from ?_) (all_cons (show (ρ.i .i64 5) = (0 : Int) from ?_) (all_cons (show (ρ.i .i64 6) = (0 : Int) from ?_) (all_cons (show (ρ.i .i64 7) = (0 : Int) from ?_) (all_cons (show (0 : Int) = (150 : Int) from ?_) (all_nil)))))
  all_goals try simp only [hF, pb2, pb6, pi1, pi3, pi5, pl1]
  all_goals
    simp only [shapeN_iff, tickN_iff] at *
    have w1 := wr (x := ρ.i .i64 1 - 1) (by omega) (by omega)
    have w2 := wr (x := ρ.i .i64 2 - 1) (by omega) (by omega)
    have w3 := wr (x := ρ.i .i64 3 - 1) (by omega) (by omega)
    omega
theorem vcvparse_5 : VD TTvparse (st0 cParse) wvparse_5 := by
  intro ρ kn hp
  have hF : ρ.z.F = sih.Φ := kn.F
  simp only [h_nil, h_cons, d_le, d_eq, d_not, d_var, d_lit, d_cel, d_leq, d_fn, d_and, d_iff, IE.den, LE.den, AL.den, lenV, true_and, and_true, pcvparse_0, hF, pb2, pb6, pi1, pi3, pi5, pl1] at hp
  obtain ⟨p1, p2, p3, p4, p5, p6, p7, p8, p9, p10, p11, p12, p13, p14, p15, p16, p17, p18, p19, p20, p21, p22, p23, p24, p25, p26, p27, p28, p29⟩ := hp
  refine all_cons (show (ρ.i .i64 4) = (0 : Int) from ?_) (all_cons (show (ρ.i .i64 5) = (0 : Int) from ?_) (all_cons (show (ρ.i .i64 6) = (0 : Int) from ?_) (all_cons (show (ρ.i .i64 7) = (0 : Int) from ?_) (all_cons (show (0 : Int) = (150 : Int) from ?_) (all_nil)))))
  all_goals try simp only [hF, pb2, pb6, pi1, pi3, pi5, pl1]
  all_goals
    simp only [shapeN_iff, tickN_iff] at *
    have w1 := wr (x := ρ.i .i64 1 - 1) (by omega) (by omega)
    have w2 := wr (x := ρ.i .i64 2 - 1) (by omega) (by omega)
    have w3 := wr (x := ρ.i .i64 3 - 1) (by omega) (by omega)
    omega
theorem told_vparse : Sx.Told sih.Φ cParse := told_vw (cs := [cFmt, cPI, cIxS, cIxL, cRightS, cHas, cChk1, cChk2]) (all_cons told_fmt (all_cons told_pi (all_cons told_ixS (all_cons told_ixL (all_cons told_vrightS (all_cons told_vhas (all_cons told_vchk1 (all_cons told_vchk2 (all_nil))))))))) 20000 vwvparse (by kernel_rfl) (by kernel_rfl) (by kernel_rfl) (post_nil rfl) (by kernel_rfl) (by kernel_rfl) (all_cons vcvparse_0 (all_cons vcvparse_1 (all_cons vcvparse_2 (all_cons vcvparse_3 (all_cons vcvparse_4 (all_cons vcvparse_5 (all_nil)))))))
noncomputable section
abbrev TTvtickets : Tab := T sih.Φ cTickets.roms [cWorks, cText1, cText2, cText3, cRRight, cSRight, cRText, cParse]
def pcvtickets_0 : List BE := [(BE.lit true)]
def pcvtickets_1 : List BE := ((BE.fn 2 (AL.int .i64 (IE.var .i64 1) (AL.int .i64 (IE.var .i64 2) (AL.int .i64 (IE.var .i64 3) AL.nil)))) :: pcvtickets_0)
def pcvtickets_2 : List BE := ((BE.not (BE.fn 2 (AL.int .i64 (IE.var .i64 1) (AL.int .i64 (IE.var .i64 2) (AL.int .i64 (IE.var .i64 3) AL.nil))))) :: pcvtickets_0)
def pcvtickets_3 : List BE := ((BE.not (BE.fn 6 (AL.int .i64 (IE.var .i64 1) (AL.int .i64 (IE.var .i64 2) (AL.int .i64 (IE.var .i64 3) (AL.int .i64 (IE.var .i64 4) (AL.int .i64 (IE.var .i64 5) (AL.int .i64 (IE.var .i64 6) (AL.int .i64 (IE.var .i64 7) AL.nil))))))))) :: pcvtickets_1)
def pcvtickets_4 : List BE := ((BE.le (IE.add (IE.len (LE.fn 1 (AL.int .i64 (IE.var .i64 4) AL.nil))) (IE.add (IE.lit 1) (IE.add (IE.len (LE.fn 1 (AL.int .i64 (IE.var .i64 5) AL.nil))) (IE.add (IE.lit 1) (IE.add (IE.len (LE.fn 1 (AL.int .i64 (IE.var .i64 6) AL.nil))) (IE.add (IE.lit 1) (IE.len (LE.fn 1 (AL.int .i64 (IE.var .i64 7) AL.nil))))))))) (IE.lit 100)) :: (BE.le (IE.lit 1) (IE.len (LE.fn 1 (AL.int .i64 (IE.var .i64 4) AL.nil)))) :: (BE.le (IE.lit 1) (IE.len (LE.fn 1 (AL.int .i64 (IE.var .i64 5) AL.nil)))) :: (BE.le (IE.lit 1) (IE.len (LE.fn 1 (AL.int .i64 (IE.var .i64 6) AL.nil)))) :: (BE.le (IE.lit 1) (IE.len (LE.fn 1 (AL.int .i64 (IE.var .i64 7) AL.nil)))) :: (BE.le (IE.len (LE.fn 1 (AL.int .i64 (IE.var .i64 4) AL.nil))) (IE.lit 20)) :: (BE.le (IE.len (LE.fn 1 (AL.int .i64 (IE.var .i64 5) AL.nil))) (IE.lit 20)) :: (BE.le (IE.len (LE.fn 1 (AL.int .i64 (IE.var .i64 6) AL.nil))) (IE.lit 20)) :: (BE.le (IE.len (LE.fn 1 (AL.int .i64 (IE.var .i64 7) AL.nil))) (IE.lit 20)) :: (BE.le (IE.lit 0) (IE.var .i64 4)) :: (BE.le (IE.lit 0) (IE.var .i64 5)) :: (BE.le (IE.lit 0) (IE.var .i64 6)) :: (BE.le (IE.lit 0) (IE.var .i64 7)) :: (BE.fn 6 (AL.int .i64 (IE.var .i64 1) (AL.int .i64 (IE.var .i64 2) (AL.int .i64 (IE.var .i64 3) (AL.int .i64 (IE.var .i64 4) (AL.int .i64 (IE.var .i64 5) (AL.int .i64 (IE.var .i64 6) (AL.int .i64 (IE.var .i64 7) AL.nil)))))))) :: pcvtickets_1)
def wvtickets_0 : VW := (VW.done ((BE.eq (IE.fn .i64 5 (AL.int .i64 (IE.var .i64 1) (AL.int .i64 (IE.var .i64 2) (AL.int .i64 (IE.var .i64 3) (AL.int .i64 (IE.var .i64 4) (AL.int .i64 (IE.var .i64 5) (AL.int .i64 (IE.var .i64 6) (AL.int .i64 (IE.var .i64 7) AL.nil)))))))) (IE.lit 0)) :: pcvtickets_4) (some []))
def wvtickets_1 : VW := (VW.done ((BE.not (BE.eq (IE.fn .i64 5 (AL.int .i64 (IE.var .i64 1) (AL.int .i64 (IE.var .i64 2) (AL.int .i64 (IE.var .i64 3) (AL.int .i64 (IE.var .i64 4) (AL.int .i64 (IE.var .i64 5) (AL.int .i64 (IE.var .i64 6) (AL.int .i64 (IE.var .i64 7) AL.nil)))))))) (IE.lit 0))) :: pcvtickets_4) (some [(G.b (BE.lit true) (BE.lit false))]))
def wvtickets_2 : VW := (VW.done ((BE.eq (IE.fn .i64 5 (AL.int .i64 (IE.var .i64 1) (AL.int .i64 (IE.var .i64 2) (AL.int .i64 (IE.var .i64 3) (AL.int .i64 (IE.var .i64 4) (AL.int .i64 (IE.var .i64 5) (AL.int .i64 (IE.var .i64 6) (AL.int .i64 (IE.var .i64 7) AL.nil)))))))) (IE.lit 4)) :: pcvtickets_3) (some []))
def wvtickets_3 : VW := (VW.done ((BE.not (BE.eq (IE.fn .i64 5 (AL.int .i64 (IE.var .i64 1) (AL.int .i64 (IE.var .i64 2) (AL.int .i64 (IE.var .i64 3) (AL.int .i64 (IE.var .i64 4) (AL.int .i64 (IE.var .i64 5) (AL.int .i64 (IE.var .i64 6) (AL.int .i64 (IE.var .i64 7) AL.nil)))))))) (IE.lit 4))) :: pcvtickets_3) (some [(G.b (BE.lit true) (BE.lit false))]))
def wvtickets_4 : VW := (VW.done ((BE.eq (IE.fn .i64 5 (AL.int .i64 (IE.var .i64 1) (AL.int .i64 (IE.var .i64 2) (AL.int .i64 (IE.var .i64 3) (AL.int .i64 (IE.var .i64 4) (AL.int .i64 (IE.var .i64 5) (AL.int .i64 (IE.var .i64 6) (AL.int .i64 (IE.var .i64 7) AL.nil)))))))) (IE.lit 2)) :: pcvtickets_2) (some []))
def wvtickets_5 : VW := (VW.done ((BE.not (BE.eq (IE.fn .i64 5 (AL.int .i64 (IE.var .i64 1) (AL.int .i64 (IE.var .i64 2) (AL.int .i64 (IE.var .i64 3) (AL.int .i64 (IE.var .i64 4) (AL.int .i64 (IE.var .i64 5) (AL.int .i64 (IE.var .i64 6) (AL.int .i64 (IE.var .i64 7) AL.nil)))))))) (IE.lit 2))) :: pcvtickets_2) (some [(G.b (BE.lit true) (BE.lit false))]))
def vwvtickets : List VW := [wvtickets_0, wvtickets_1, wvtickets_2, wvtickets_3, wvtickets_4, wvtickets_5]
end
theorem vcvtickets_0 : VD TTvtickets (st0 cTickets) wvtickets_0 := by
  intro ρ kn hp
  exact all_nil
theorem vcvtickets_1 : VD TTvtickets (st0 cTickets) wvtickets_1 := by
  intro ρ kn hp
  have hF : ρ.z.F = sih.Φ := kn.F
  simp only [h_nil, h_cons, d_le, d_eq, d_not, d_var, d_lit, d_cel, d_leq, d_fn, d_and, d_iff, IE.den, LE.den, AL.den, lenV, true_and, and_true, pcvtickets_4, pcvtickets_1, pcvtickets_0, hF, pb2, pb6, pi1, pi3, pi5, pl1] at hp
  obtain ⟨p1, p2, p3, p4, p5, p6, p7, p8, p9, p10, p11, p12, p13, p14, p15, p16⟩ := hp
  exfalso
  all_goals
    simp only [clampR] at *
    unfold rightN at *
    simp_all
theorem vcvtickets_2 : VD TTvtickets (st0 cTickets) wvtickets_2 := by
  intro ρ kn hp
  exact all_nil
theorem vcvtickets_3 : VD TTvtickets (st0 cTickets) wvtickets_3 := by
  intro ρ kn hp
  have hF : ρ.z.F = sih.Φ := kn.F
  simp only [h_nil, h_cons, d_le, d_eq, d_not, d_var, d_lit, d_cel, d_leq, d_fn, d_and, d_iff, IE.den, LE.den, AL.den, lenV, true_and, and_true, pcvtickets_3, pcvtickets_1, pcvtickets_0, hF, pb2, pb6, pi1, pi3, pi5, pl1] at hp
  obtain ⟨p1, p2, p3⟩ := hp
  exfalso
  all_goals
    simp only [clampR] at *
    unfold rightN at *
    simp_all
theorem vcvtickets_4 : VD TTvtickets (st0 cTickets) wvtickets_4 := by
  intro ρ kn hp
  exact all_nil
theorem vcvtickets_5 : VD TTvtickets (st0 cTickets) wvtickets_5 := by
  intro ρ kn hp
  have hF : ρ.z.F = sih.Φ := kn.F
  simp only [h_nil, h_cons, d_le, d_eq, d_not, d_var, d_lit, d_cel, d_leq, d_fn, d_and, d_iff, IE.den, LE.den, AL.den, lenV, true_and, and_true, pcvtickets_2, pcvtickets_0, hF, pb2, pb6, pi1, pi3, pi5, pl1] at hp
  obtain ⟨p1, p2⟩ := hp
  exfalso
  all_goals
    simp only [clampR] at *
    unfold rightN at *
    simp_all
theorem told_vtickets : Sx.Told sih.Φ cTickets := told_vw (cs := [cWorks, cText1, cText2, cText3, cRRight, cSRight, cRText, cParse]) (all_cons told_vworks (all_cons told_vtext1 (all_cons told_vtext2 (all_cons told_vtext3 (all_cons told_vrright (all_cons told_vsright (all_cons told_vrtext (all_cons told_vparse (all_nil))))))))) 9000 vwvtickets (by kernel_rfl) (by kernel_rfl) (by kernel_rfl) (post_nil rfl) (by kernel_rfl) (by kernel_rfl) (all_cons vcvtickets_0 (all_cons vcvtickets_1 (all_cons vcvtickets_2 (all_cons vcvtickets_3 (all_cons vcvtickets_4 (all_cons vcvtickets_5 (all_nil)))))))
end Go.Proofs.YtdfgidogiacmnaaDoor.sih
