/- Layer site: names of tickets, told. No condition. -/
import Derived.Test.YtdfgidogiacmnaaDoorUd
set_option linter.unusedVariables false
set_option linter.unusedSimpArgs false
set_option linter.deprecated false
namespace Go.Proofs.YtdfgidogiacmnaaDoor.sih
open Go Go.Proofs.YtdfgidogiacmnaaDoor.Sx
noncomputable section
abbrev TTrightS : Tab := T sih.Φ cRightS.roms []
def pcrightS_0 : List BE := [(BE.lit true)]
def pcrightS_1 : List BE := ((BE.le (IE.lit 1) (IE.var .i64 1)) :: pcrightS_0)
def pcrightS_2 : List BE := ((BE.not (BE.le (IE.lit 1) (IE.var .i64 1))) :: pcrightS_0)
def pcrightS_3 : List BE := ((BE.le (IE.lit 1) (IE.var .i64 2)) :: pcrightS_1)
def pcrightS_4 : List BE := ((BE.not (BE.le (IE.lit 1) (IE.var .i64 2))) :: pcrightS_1)
def pcrightS_5 : List BE := ((BE.le (IE.lit 1) (IE.var .i64 2)) :: pcrightS_2)
def pcrightS_6 : List BE := ((BE.not (BE.le (IE.lit 1) (IE.var .i64 2))) :: pcrightS_2)
def pcrightS_7 : List BE := ((BE.le (IE.lit 1) (IE.var .i64 3)) :: pcrightS_3)
def pcrightS_8 : List BE := ((BE.not (BE.le (IE.lit 1) (IE.var .i64 3))) :: pcrightS_3)
def pcrightS_9 : List BE := ((BE.le (IE.lit 1) (IE.var .i64 3)) :: pcrightS_4)
def pcrightS_10 : List BE := ((BE.not (BE.le (IE.lit 1) (IE.var .i64 3))) :: pcrightS_4)
def pcrightS_11 : List BE := ((BE.le (IE.var .i64 1) (IE.lit 64)) :: pcrightS_7)
def pcrightS_12 : List BE := ((BE.le (IE.var .i64 1) (IE.lit 64)) :: pcrightS_8)
def pcrightS_13 : List BE := ((BE.le (IE.var .i64 2) (IE.lit 8)) :: pcrightS_11)
def wrightS_0 : VW := (VW.done ((BE.le (IE.var .i64 3) (IE.lit 4)) :: pcrightS_13) (some [(G.b (BE.fn 2 (AL.int .i64 (IE.var .i64 1) (AL.int .i64 (IE.var .i64 2) (AL.int .i64 (IE.var .i64 3) AL.nil)))) (BE.lit true))]))
def wrightS_1 : VW := (VW.done ((BE.not (BE.le (IE.var .i64 3) (IE.lit 4))) :: pcrightS_13) (some [(G.b (BE.fn 2 (AL.int .i64 (IE.var .i64 1) (AL.int .i64 (IE.var .i64 2) (AL.int .i64 (IE.var .i64 3) AL.nil)))) (BE.lit false))]))
def wrightS_2 : VW := (VW.done ((BE.not (BE.le (IE.var .i64 2) (IE.lit 8))) :: pcrightS_11) (some [(G.b (BE.fn 2 (AL.int .i64 (IE.var .i64 1) (AL.int .i64 (IE.var .i64 2) (AL.int .i64 (IE.var .i64 3) AL.nil)))) (BE.lit false))]))
def wrightS_3 : VW := (VW.done ((BE.not (BE.le (IE.var .i64 1) (IE.lit 64))) :: pcrightS_7) (some [(G.b (BE.fn 2 (AL.int .i64 (IE.var .i64 1) (AL.int .i64 (IE.var .i64 2) (AL.int .i64 (IE.var .i64 3) AL.nil)))) (BE.lit false))]))
def wrightS_4 : VW := (VW.done ((BE.le (IE.var .i64 2) (IE.lit 8)) :: pcrightS_12) (some [(G.b (BE.fn 2 (AL.int .i64 (IE.var .i64 1) (AL.int .i64 (IE.var .i64 2) (AL.int .i64 (IE.var .i64 3) AL.nil)))) (BE.lit false))]))
def wrightS_5 : VW := (VW.done ((BE.not (BE.le (IE.var .i64 2) (IE.lit 8))) :: pcrightS_12) (some [(G.b (BE.fn 2 (AL.int .i64 (IE.var .i64 1) (AL.int .i64 (IE.var .i64 2) (AL.int .i64 (IE.var .i64 3) AL.nil)))) (BE.lit false))]))
def wrightS_6 : VW := (VW.done ((BE.not (BE.le (IE.var .i64 1) (IE.lit 64))) :: pcrightS_8) (some [(G.b (BE.fn 2 (AL.int .i64 (IE.var .i64 1) (AL.int .i64 (IE.var .i64 2) (AL.int .i64 (IE.var .i64 3) AL.nil)))) (BE.lit false))]))
def wrightS_7 : VW := (VW.done ((BE.le (IE.var .i64 1) (IE.lit 64)) :: pcrightS_9) (some [(G.b (BE.fn 2 (AL.int .i64 (IE.var .i64 1) (AL.int .i64 (IE.var .i64 2) (AL.int .i64 (IE.var .i64 3) AL.nil)))) (BE.lit false))]))
def wrightS_8 : VW := (VW.done ((BE.not (BE.le (IE.var .i64 1) (IE.lit 64))) :: pcrightS_9) (some [(G.b (BE.fn 2 (AL.int .i64 (IE.var .i64 1) (AL.int .i64 (IE.var .i64 2) (AL.int .i64 (IE.var .i64 3) AL.nil)))) (BE.lit false))]))
def wrightS_9 : VW := (VW.done ((BE.le (IE.var .i64 1) (IE.lit 64)) :: pcrightS_10) (some [(G.b (BE.fn 2 (AL.int .i64 (IE.var .i64 1) (AL.int .i64 (IE.var .i64 2) (AL.int .i64 (IE.var .i64 3) AL.nil)))) (BE.lit false))]))
def wrightS_10 : VW := (VW.done ((BE.not (BE.le (IE.var .i64 1) (IE.lit 64))) :: pcrightS_10) (some [(G.b (BE.fn 2 (AL.int .i64 (IE.var .i64 1) (AL.int .i64 (IE.var .i64 2) (AL.int .i64 (IE.var .i64 3) AL.nil)))) (BE.lit false))]))
def wrightS_11 : VW := (VW.done ((BE.le (IE.lit 1) (IE.var .i64 3)) :: pcrightS_5) (some [(G.b (BE.fn 2 (AL.int .i64 (IE.var .i64 1) (AL.int .i64 (IE.var .i64 2) (AL.int .i64 (IE.var .i64 3) AL.nil)))) (BE.lit false))]))
def wrightS_12 : VW := (VW.done ((BE.not (BE.le (IE.lit 1) (IE.var .i64 3))) :: pcrightS_5) (some [(G.b (BE.fn 2 (AL.int .i64 (IE.var .i64 1) (AL.int .i64 (IE.var .i64 2) (AL.int .i64 (IE.var .i64 3) AL.nil)))) (BE.lit false))]))
def wrightS_13 : VW := (VW.done ((BE.le (IE.lit 1) (IE.var .i64 3)) :: pcrightS_6) (some [(G.b (BE.fn 2 (AL.int .i64 (IE.var .i64 1) (AL.int .i64 (IE.var .i64 2) (AL.int .i64 (IE.var .i64 3) AL.nil)))) (BE.lit false))]))
def wrightS_14 : VW := (VW.done ((BE.not (BE.le (IE.lit 1) (IE.var .i64 3))) :: pcrightS_6) (some [(G.b (BE.fn 2 (AL.int .i64 (IE.var .i64 1) (AL.int .i64 (IE.var .i64 2) (AL.int .i64 (IE.var .i64 3) AL.nil)))) (BE.lit false))]))
def vwrightS : List VW := [wrightS_0, wrightS_1, wrightS_2, wrightS_3, wrightS_4, wrightS_5, wrightS_6, wrightS_7, wrightS_8, wrightS_9, wrightS_10, wrightS_11, wrightS_12, wrightS_13, wrightS_14]
end
theorem vcrightS_0 : VD TTrightS (st0 cRightS) wrightS_0 := by
  intro ρ kn hp
  have hF : ρ.z.F = sih.Φ := kn.F
  simp only [h_nil, h_cons, d_le, d_eq, d_not, d_var, d_lit, d_cel, d_leq, d_fn, d_and, d_iff, IE.den, LE.den, AL.den, lenV, true_and, and_true, pcrightS_13, pcrightS_11, pcrightS_7, pcrightS_3, pcrightS_1, pcrightS_0, hF, pb2, pb6, pi1, pi3, pl1] at hp
  obtain ⟨p1, p2, p3, p4, p5, p6⟩ := hp
  refine all_cons (show (ρ.z.F.b 2 [.int .i64 (ρ.i .i64 1), .int .i64 (ρ.i .i64 2), .int .i64 (ρ.i .i64 3)]) = true from ?_) (all_nil)
  all_goals try simp only [hF, pb2, pb6, pi1, pi3, pl1]
  all_goals
    apply beq_of
    simp only [shapeN_iff, Bool.false_eq_true, iff_false, iff_true, decide_eq_true_eq]
    omega
theorem vcrightS_1 : VD TTrightS (st0 cRightS) wrightS_1 := by
  intro ρ kn hp
  have hF : ρ.z.F = sih.Φ := kn.F
  simp only [h_nil, h_cons, d_le, d_eq, d_not, d_var, d_lit, d_cel, d_leq, d_fn, d_and, d_iff, IE.den, LE.den, AL.den, lenV, true_and, and_true, pcrightS_13, pcrightS_11, pcrightS_7, pcrightS_3, pcrightS_1, pcrightS_0, hF, pb2, pb6, pi1, pi3, pl1] at hp
  obtain ⟨p1, p2, p3, p4, p5, p6⟩ := hp
  refine all_cons (show (ρ.z.F.b 2 [.int .i64 (ρ.i .i64 1), .int .i64 (ρ.i .i64 2), .int .i64 (ρ.i .i64 3)]) = false from ?_) (all_nil)
  all_goals try simp only [hF, pb2, pb6, pi1, pi3, pl1]
  all_goals
    apply beq_of
    simp only [shapeN_iff, Bool.false_eq_true, iff_false, iff_true, decide_eq_true_eq]
    omega
theorem vcrightS_2 : VD TTrightS (st0 cRightS) wrightS_2 := by
  intro ρ kn hp
  have hF : ρ.z.F = sih.Φ := kn.F
  simp only [h_nil, h_cons, d_le, d_eq, d_not, d_var, d_lit, d_cel, d_leq, d_fn, d_and, d_iff, IE.den, LE.den, AL.den, lenV, true_and, and_true, pcrightS_11, pcrightS_7, pcrightS_3, pcrightS_1, pcrightS_0, hF, pb2, pb6, pi1, pi3, pl1] at hp
  obtain ⟨p1, p2, p3, p4, p5⟩ := hp
  refine all_cons (show (ρ.z.F.b 2 [.int .i64 (ρ.i .i64 1), .int .i64 (ρ.i .i64 2), .int .i64 (ρ.i .i64 3)]) = false from ?_) (all_nil)
  all_goals try simp only [hF, pb2, pb6, pi1, pi3, pl1]
  all_goals
    apply beq_of
    simp only [shapeN_iff, Bool.false_eq_true, iff_false, iff_true, decide_eq_true_eq]
    omega
theorem vcrightS_3 : VD TTrightS (st0 cRightS) wrightS_3 := by
  intro ρ kn hp
  have hF : ρ.z.F = sih.Φ := kn.F
  simp only [h_nil, h_cons, d_le, d_eq, d_not, d_var, d_lit, d_cel, d_leq, d_fn, d_and, d_iff, IE.den, LE.den, AL.den, lenV, true_and, and_true, pcrightS_7, pcrightS_3, pcrightS_1, pcrightS_0, hF, pb2, pb6, pi1, pi3, pl1] at hp
  obtain ⟨p1, p2, p3, p4⟩ := hp
  refine all_cons (show (ρ.z.F.b 2 [.int .i64 (ρ.i .i64 1), .int .i64 (ρ.i .i64 2), .int .i64 (ρ.i .i64 3)]) = false from ?_) (all_nil)
  all_goals try simp only [hF, pb2, pb6, pi1, pi3, pl1]
  all_goals
    apply beq_of
    simp only [shapeN_iff, Bool.false_eq_true, iff_false, iff_true, decide_eq_true_eq]
    omega
theorem vcrightS_4 : VD TTrightS (st0 cRightS) wrightS_4 := by
  intro ρ kn hp
  have hF : ρ.z.F = sih.Φ := kn.F
  simp only [h_nil, h_cons, d_le, d_eq, d_not, d_var, d_lit, d_cel, d_leq, d_fn, d_and, d_iff, IE.den, LE.den, AL.den, lenV, true_and, and_true, pcrightS_12, pcrightS_8, pcrightS_3, pcrightS_1, pcrightS_0, hF, pb2, pb6, pi1, pi3, pl1] at hp
  obtain ⟨p1, p2, p3, p4, p5⟩ := hp
  refine all_cons (show (ρ.z.F.b 2 [.int .i64 (ρ.i .i64 1), .int .i64 (ρ.i .i64 2), .int .i64 (ρ.i .i64 3)]) = false from ?_) (all_nil)
  all_goals try simp only [hF, pb2, pb6, pi1, pi3, pl1]
  all_goals
    apply beq_of
    simp only [shapeN_iff, Bool.false_eq_true, iff_false, iff_true, decide_eq_true_eq]
    omega
theorem vcrightS_5 : VD TTrightS (st0 cRightS) wrightS_5 := by
  intro ρ kn hp
  have hF : ρ.z.F = sih.Φ := kn.F
  simp only [h_nil, h_cons, d_le, d_eq, d_not, d_var, d_lit, d_cel, d_leq, d_fn, d_and, d_iff, IE.den, LE.den, AL.den, lenV, true_and, and_true, pcrightS_12, pcrightS_8, pcrightS_3, pcrightS_1, pcrightS_0, hF, pb2, pb6, pi1, pi3, pl1] at hp
  obtain ⟨p1, p2, p3, p4, p5⟩ := hp
  refine all_cons (show (ρ.z.F.b 2 [.int .i64 (ρ.i .i64 1), .int .i64 (ρ.i .i64 2), .int .i64 (ρ.i .i64 3)]) = false from ?_) (all_nil)
  all_goals try simp only [hF, pb2, pb6, pi1, pi3, pl1]
  all_goals
    apply beq_of
    simp only [shapeN_iff, Bool.false_eq_true, iff_false, iff_true, decide_eq_true_eq]
    omega
theorem vcrightS_6 : VD TTrightS (st0 cRightS) wrightS_6 := by
  intro ρ kn hp
  have hF : ρ.z.F = sih.Φ := kn.F
  simp only [h_nil, h_cons, d_le, d_eq, d_not, d_var, d_lit, d_cel, d_leq, d_fn, d_and, d_iff, IE.den, LE.den, AL.den, lenV, true_and, and_true, pcrightS_8, pcrightS_3, pcrightS_1, pcrightS_0, hF, pb2, pb6, pi1, pi3, pl1] at hp
  obtain ⟨p1, p2, p3, p4⟩ := hp
  refine all_cons (show (ρ.z.F.b 2 [.int .i64 (ρ.i .i64 1), .int .i64 (ρ.i .i64 2), .int .i64 (ρ.i .i64 3)]) = false from ?_) (all_nil)
  all_goals try simp only [hF, pb2, pb6, pi1, pi3, pl1]
  all_goals
    apply beq_of
    simp only [shapeN_iff, Bool.false_eq_true, iff_false, iff_true, decide_eq_true_eq]
    omega
theorem vcrightS_7 : VD TTrightS (st0 cRightS) wrightS_7 := by
  intro ρ kn hp
  have hF : ρ.z.F = sih.Φ := kn.F
  simp only [h_nil, h_cons, d_le, d_eq, d_not, d_var, d_lit, d_cel, d_leq, d_fn, d_and, d_iff, IE.den, LE.den, AL.den, lenV, true_and, and_true, pcrightS_9, pcrightS_4, pcrightS_1, pcrightS_0, hF, pb2, pb6, pi1, pi3, pl1] at hp
  obtain ⟨p1, p2, p3, p4⟩ := hp
  refine all_cons (show (ρ.z.F.b 2 [.int .i64 (ρ.i .i64 1), .int .i64 (ρ.i .i64 2), .int .i64 (ρ.i .i64 3)]) = false from ?_) (all_nil)
  all_goals try simp only [hF, pb2, pb6, pi1, pi3, pl1]
  all_goals
    apply beq_of
    simp only [shapeN_iff, Bool.false_eq_true, iff_false, iff_true, decide_eq_true_eq]
    omega
theorem vcrightS_8 : VD TTrightS (st0 cRightS) wrightS_8 := by
  intro ρ kn hp
  have hF : ρ.z.F = sih.Φ := kn.F
  simp only [h_nil, h_cons, d_le, d_eq, d_not, d_var, d_lit, d_cel, d_leq, d_fn, d_and, d_iff, IE.den, LE.den, AL.den, lenV, true_and, and_true, pcrightS_9, pcrightS_4, pcrightS_1, pcrightS_0, hF, pb2, pb6, pi1, pi3, pl1] at hp
  obtain ⟨p1, p2, p3, p4⟩ := hp
  refine all_cons (show (ρ.z.F.b 2 [.int .i64 (ρ.i .i64 1), .int .i64 (ρ.i .i64 2), .int .i64 (ρ.i .i64 3)]) = false from ?_) (all_nil)
  all_goals try simp only [hF, pb2, pb6, pi1, pi3, pl1]
  all_goals
    apply beq_of
    simp only [shapeN_iff, Bool.false_eq_true, iff_false, iff_true, decide_eq_true_eq]
    omega
theorem vcrightS_9 : VD TTrightS (st0 cRightS) wrightS_9 := by
  intro ρ kn hp
  have hF : ρ.z.F = sih.Φ := kn.F
  simp only [h_nil, h_cons, d_le, d_eq, d_not, d_var, d_lit, d_cel, d_leq, d_fn, d_and, d_iff, IE.den, LE.den, AL.den, lenV, true_and, and_true, pcrightS_10, pcrightS_4, pcrightS_1, pcrightS_0, hF, pb2, pb6, pi1, pi3, pl1] at hp
  obtain ⟨p1, p2, p3, p4⟩ := hp
  refine all_cons (show (ρ.z.F.b 2 [.int .i64 (ρ.i .i64 1), .int .i64 (ρ.i .i64 2), .int .i64 (ρ.i .i64 3)]) = false from ?_) (all_nil)
  all_goals try simp only [hF, pb2, pb6, pi1, pi3, pl1]
  all_goals
    apply beq_of
    simp only [shapeN_iff, Bool.false_eq_true, iff_false, iff_true, decide_eq_true_eq]
    omega
theorem vcrightS_10 : VD TTrightS (st0 cRightS) wrightS_10 := by
  intro ρ kn hp
  have hF : ρ.z.F = sih.Φ := kn.F
  simp only [h_nil, h_cons, d_le, d_eq, d_not, d_var, d_lit, d_cel, d_leq, d_fn, d_and, d_iff, IE.den, LE.den, AL.den, lenV, true_and, and_true, pcrightS_10, pcrightS_4, pcrightS_1, pcrightS_0, hF, pb2, pb6, pi1, pi3, pl1] at hp
  obtain ⟨p1, p2, p3, p4⟩ := hp
  refine all_cons (show (ρ.z.F.b 2 [.int .i64 (ρ.i .i64 1), .int .i64 (ρ.i .i64 2), .int .i64 (ρ.i .i64 3)]) = false from ?_) (all_nil)
  all_goals try simp only [hF, pb2, pb6, pi1, pi3, pl1]
  all_goals
    apply beq_of
    simp only [shapeN_iff, Bool.false_eq_true, iff_false, iff_true, decide_eq_true_eq]
    omega
theorem vcrightS_11 : VD TTrightS (st0 cRightS) wrightS_11 := by
  intro ρ kn hp
  have hF : ρ.z.F = sih.Φ := kn.F
  simp only [h_nil, h_cons, d_le, d_eq, d_not, d_var, d_lit, d_cel, d_leq, d_fn, d_and, d_iff, IE.den, LE.den, AL.den, lenV, true_and, and_true, pcrightS_5, pcrightS_2, pcrightS_0, hF, pb2, pb6, pi1, pi3, pl1] at hp
  obtain ⟨p1, p2, p3⟩ := hp
  refine all_cons (show (ρ.z.F.b 2 [.int .i64 (ρ.i .i64 1), .int .i64 (ρ.i .i64 2), .int .i64 (ρ.i .i64 3)]) = false from ?_) (all_nil)
  all_goals try simp only [hF, pb2, pb6, pi1, pi3, pl1]
  all_goals
    apply beq_of
    simp only [shapeN_iff, Bool.false_eq_true, iff_false, iff_true, decide_eq_true_eq]
    omega
theorem vcrightS_12 : VD TTrightS (st0 cRightS) wrightS_12 := by
  intro ρ kn hp
  have hF : ρ.z.F = sih.Φ := kn.F
  simp only [h_nil, h_cons, d_le, d_eq, d_not, d_var, d_lit, d_cel, d_leq, d_fn, d_and, d_iff, IE.den, LE.den, AL.den, lenV, true_and, and_true, pcrightS_5, pcrightS_2, pcrightS_0, hF, pb2, pb6, pi1, pi3, pl1] at hp
  obtain ⟨p1, p2, p3⟩ := hp
  refine all_cons (show (ρ.z.F.b 2 [.int .i64 (ρ.i .i64 1), .int .i64 (ρ.i .i64 2), .int .i64 (ρ.i .i64 3)]) = false from ?_) (all_nil)
  all_goals try simp only [hF, pb2, pb6, pi1, pi3, pl1]
  all_goals
    apply beq_of
    simp only [shapeN_iff, Bool.false_eq_true, iff_false, iff_true, decide_eq_true_eq]
    omega
theorem vcrightS_13 : VD TTrightS (st0 cRightS) wrightS_13 := by
  intro ρ kn hp
  have hF : ρ.z.F = sih.Φ := kn.F
  simp only [h_nil, h_cons, d_le, d_eq, d_not, d_var, d_lit, d_cel, d_leq, d_fn, d_and, d_iff, IE.den, LE.den, AL.den, lenV, true_and, and_true, pcrightS_6, pcrightS_2, pcrightS_0, hF, pb2, pb6, pi1, pi3, pl1] at hp
  obtain ⟨p1, p2, p3⟩ := hp
  refine all_cons (show (ρ.z.F.b 2 [.int .i64 (ρ.i .i64 1), .int .i64 (ρ.i .i64 2), .int .i64 (ρ.i .i64 3)]) = false from ?_) (all_nil)
  all_goals try simp only [hF, pb2, pb6, pi1, pi3, pl1]
  all_goals
    apply beq_of
    simp only [shapeN_iff, Bool.false_eq_true, iff_false, iff_true, decide_eq_true_eq]
    omega
theorem vcrightS_14 : VD TTrightS (st0 cRightS) wrightS_14 := by
  intro ρ kn hp
  have hF : ρ.z.F = sih.Φ := kn.F
  simp only [h_nil, h_cons, d_le, d_eq, d_not, d_var, d_lit, d_cel, d_leq, d_fn, d_and, d_iff, IE.den, LE.den, AL.den, lenV, true_and, and_true, pcrightS_6, pcrightS_2, pcrightS_0, hF, pb2, pb6, pi1, pi3, pl1] at hp
  obtain ⟨p1, p2, p3⟩ := hp
  refine all_cons (show (ρ.z.F.b 2 [.int .i64 (ρ.i .i64 1), .int .i64 (ρ.i .i64 2), .int .i64 (ρ.i .i64 3)]) = false from ?_) (all_nil)
  all_goals try simp only [hF, pb2, pb6, pi1, pi3, pl1]
  all_goals
    apply beq_of
    simp only [shapeN_iff, Bool.false_eq_true, iff_false, iff_true, decide_eq_true_eq]
    omega
theorem told_rightS : Sx.Told sih.Φ cRightS := told_vw (cs := []) (all_nil) 4000 vwrightS (by kernel_rfl) (by kernel_rfl) (by kernel_rfl) (post_nil rfl) (by kernel_rfl) (by kernel_rfl) (all_cons vcrightS_0 (all_cons vcrightS_1 (all_cons vcrightS_2 (all_cons vcrightS_3 (all_cons vcrightS_4 (all_cons vcrightS_5 (all_cons vcrightS_6 (all_cons vcrightS_7 (all_cons vcrightS_8 (all_cons vcrightS_9 (all_cons vcrightS_10 (all_cons vcrightS_11 (all_cons vcrightS_12 (all_cons vcrightS_13 (all_cons vcrightS_14 (all_nil))))))))))))))))
theorem told_works : Sx.Told sih.Φ cWorks := told_auto (cs := [cJoin, cIx1, cIxA, cIxB]) (all_cons told_join (all_cons told_ix1 (all_cons told_ixA (all_cons told_ixB (all_nil))))) 20000 (by kernel_rfl) (by kernel_rfl) (by kernel_rfl) (post_nil rfl) (by kernel_rfl) (by kernel_rfl)
theorem told_chk1 : Sx.Told sih.Φ cChk1 := told_auto (cs := [cRightS]) (all_cons told_rightS (all_nil)) 4000 (by kernel_rfl) (by kernel_rfl) (by kernel_rfl) post_chk1 (by kernel_rfl) (by kernel_rfl)
theorem told_chk2 : Sx.Told sih.Φ cChk2 := told_auto (cs := [cRightS]) (all_cons told_rightS (all_nil)) 4000 (by kernel_rfl) (by kernel_rfl) (by kernel_rfl) (post_nil rfl) (by kernel_rfl) (by kernel_rfl)
noncomputable section
abbrev TTcmp : Tab := T sih.Φ cCmp.roms []
def pccmp_0 : List BE := [(BE.lit true)]
def pccmp_1 : List BE := ((BE.le (IE.var .i64 2) (IE.var .i64 1)) :: pccmp_0)
def wcmp_0 : VW := (VW.done ((BE.le (IE.var .i64 1) (IE.var .i64 2)) :: pccmp_1) (some [(G.i (IE.fn .i64 1 (AL.int .i64 (IE.var .i64 1) (AL.int .i64 (IE.var .i64 2) AL.nil))) (IE.lit 0))]))
def wcmp_1 : VW := (VW.done ((BE.not (BE.le (IE.var .i64 1) (IE.var .i64 2))) :: pccmp_1) (some [(G.i (IE.fn .i64 1 (AL.int .i64 (IE.var .i64 1) (AL.int .i64 (IE.var .i64 2) AL.nil))) (IE.lit 1))]))
def wcmp_2 : VW := (VW.done ((BE.not (BE.le (IE.var .i64 2) (IE.var .i64 1))) :: pccmp_0) (some [(G.i (IE.fn .i64 1 (AL.int .i64 (IE.var .i64 1) (AL.int .i64 (IE.var .i64 2) AL.nil))) (IE.lit (-1)))]))
def vwcmp : List VW := [wcmp_0, wcmp_1, wcmp_2]
end
theorem vccmp_0 : VD TTcmp (st0 cCmp) wcmp_0 := by
  intro ρ kn hp
  have hF : ρ.z.F = sih.Φ := kn.F
  simp only [h_nil, h_cons, d_le, d_eq, d_not, d_var, d_lit, d_cel, d_leq, d_fn, d_and, d_iff, IE.den, LE.den, AL.den, lenV, true_and, and_true, pccmp_1, pccmp_0, hF, pb2, pb6, pi1, pi3, pl1] at hp
  obtain ⟨p1, p2⟩ := hp
  refine all_cons (show (clampK .i64 (ρ.z.F.i 1 [.int .i64 (ρ.i .i64 1), .int .i64 (ρ.i .i64 2)])) = (0 : Int) from ?_) (all_nil)
  all_goals try simp only [hF, pb2, pb6, pi1, pi3, pl1]
  all_goals
    simp only [clampC]
    unfold cmpN
    repeat' split
  all_goals omega
theorem vccmp_1 : VD TTcmp (st0 cCmp) wcmp_1 := by
  intro ρ kn hp
  have hF : ρ.z.F = sih.Φ := kn.F
  simp only [h_nil, h_cons, d_le, d_eq, d_not, d_var, d_lit, d_cel, d_leq, d_fn, d_and, d_iff, IE.den, LE.den, AL.den, lenV, true_and, and_true, pccmp_1, pccmp_0, hF, pb2, pb6, pi1, pi3, pl1] at hp
  obtain ⟨p1, p2⟩ := hp
  refine all_cons (show (clampK .i64 (ρ.z.F.i 1 [.int .i64 (ρ.i .i64 1), .int .i64 (ρ.i .i64 2)])) = (1 : Int) from ?_) (all_nil)
  all_goals try simp only [hF, pb2, pb6, pi1, pi3, pl1]
  all_goals
    simp only [clampC]
    unfold cmpN
    repeat' split
  all_goals omega
theorem vccmp_2 : VD TTcmp (st0 cCmp) wcmp_2 := by
  intro ρ kn hp
  have hF : ρ.z.F = sih.Φ := kn.F
  simp only [h_nil, h_cons, d_le, d_eq, d_not, d_var, d_lit, d_cel, d_leq, d_fn, d_and, d_iff, IE.den, LE.den, AL.den, lenV, true_and, and_true, pccmp_0, hF, pb2, pb6, pi1, pi3, pl1] at hp
  have p1 := hp
  refine all_cons (show (clampK .i64 (ρ.z.F.i 1 [.int .i64 (ρ.i .i64 1), .int .i64 (ρ.i .i64 2)])) = (-1 : Int) from ?_) (all_nil)
  all_goals try simp only [hF, pb2, pb6, pi1, pi3, pl1]
  all_goals
    simp only [clampC]
    unfold cmpN
    repeat' split
  all_goals omega
theorem told_cmp : Sx.Told sih.Φ cCmp := told_vw (cs := []) (all_nil) 2000 vwcmp (by kernel_rfl) (by kernel_rfl) (by kernel_rfl) (post_nil rfl) (by kernel_rfl) (by kernel_rfl) (all_cons vccmp_0 (all_cons vccmp_1 (all_cons vccmp_2 (all_nil))))
noncomputable section
abbrev TTcmp64 : Tab := T sih.Φ cCmp64.roms []
def pccmp64_0 : List BE := [(BE.lit true)]
def pccmp64_1 : List BE := ((BE.le (IE.var .i64 2) (IE.var .i64 1)) :: pccmp64_0)
def wcmp64_0 : VW := (VW.done ((BE.le (IE.var .i64 1) (IE.var .i64 2)) :: pccmp64_1) (some [(G.i (IE.fn .i64 1 (AL.int .i64 (IE.var .i64 1) (AL.int .i64 (IE.var .i64 2) AL.nil))) (IE.lit 0))]))
def wcmp64_1 : VW := (VW.done ((BE.not (BE.le (IE.var .i64 1) (IE.var .i64 2))) :: pccmp64_1) (some [(G.i (IE.fn .i64 1 (AL.int .i64 (IE.var .i64 1) (AL.int .i64 (IE.var .i64 2) AL.nil))) (IE.lit 1))]))
def wcmp64_2 : VW := (VW.done ((BE.not (BE.le (IE.var .i64 2) (IE.var .i64 1))) :: pccmp64_0) (some [(G.i (IE.fn .i64 1 (AL.int .i64 (IE.var .i64 1) (AL.int .i64 (IE.var .i64 2) AL.nil))) (IE.lit (-1)))]))
def vwcmp64 : List VW := [wcmp64_0, wcmp64_1, wcmp64_2]
end
theorem vccmp64_0 : VD TTcmp64 (st0 cCmp64) wcmp64_0 := by
  intro ρ kn hp
  have hF : ρ.z.F = sih.Φ := kn.F
  simp only [h_nil, h_cons, d_le, d_eq, d_not, d_var, d_lit, d_cel, d_leq, d_fn, d_and, d_iff, IE.den, LE.den, AL.den, lenV, true_and, and_true, pccmp64_1, pccmp64_0, hF, pb2, pb6, pi1, pi3, pl1] at hp
  obtain ⟨p1, p2⟩ := hp
  refine all_cons (show (clampK .i64 (ρ.z.F.i 1 [.int .i64 (ρ.i .i64 1), .int .i64 (ρ.i .i64 2)])) = (0 : Int) from ?_) (all_nil)
  all_goals try simp only [hF, pb2, pb6, pi1, pi3, pl1]
  all_goals
    simp only [clampC]
    unfold cmpN
    repeat' split
  all_goals omega
theorem vccmp64_1 : VD TTcmp64 (st0 cCmp64) wcmp64_1 := by
  intro ρ kn hp
  have hF : ρ.z.F = sih.Φ := kn.F
  simp only [h_nil, h_cons, d_le, d_eq, d_not, d_var, d_lit, d_cel, d_leq, d_fn, d_and, d_iff, IE.den, LE.den, AL.den, lenV, true_and, and_true, pccmp64_1, pccmp64_0, hF, pb2, pb6, pi1, pi3, pl1] at hp
  obtain ⟨p1, p2⟩ := hp
  refine all_cons (show (clampK .i64 (ρ.z.F.i 1 [.int .i64 (ρ.i .i64 1), .int .i64 (ρ.i .i64 2)])) = (1 : Int) from ?_) (all_nil)
  all_goals try simp only [hF, pb2, pb6, pi1, pi3, pl1]
  all_goals
    simp only [clampC]
    unfold cmpN
    repeat' split
  all_goals omega
theorem vccmp64_2 : VD TTcmp64 (st0 cCmp64) wcmp64_2 := by
  intro ρ kn hp
  have hF : ρ.z.F = sih.Φ := kn.F
  simp only [h_nil, h_cons, d_le, d_eq, d_not, d_var, d_lit, d_cel, d_leq, d_fn, d_and, d_iff, IE.den, LE.den, AL.den, lenV, true_and, and_true, pccmp64_0, hF, pb2, pb6, pi1, pi3, pl1] at hp
  have p1 := hp
  refine all_cons (show (clampK .i64 (ρ.z.F.i 1 [.int .i64 (ρ.i .i64 1), .int .i64 (ρ.i .i64 2)])) = (-1 : Int) from ?_) (all_nil)
  all_goals try simp only [hF, pb2, pb6, pi1, pi3, pl1]
  all_goals
    simp only [clampC]
    unfold cmpN
    repeat' split
  all_goals omega
theorem told_cmp64 : Sx.Told sih.Φ cCmp64 := told_vw (cs := []) (all_nil) 2000 vwcmp64 (by kernel_rfl) (by kernel_rfl) (by kernel_rfl) (post_nil rfl) (by kernel_rfl) (by kernel_rfl) (all_cons vccmp64_0 (all_cons vccmp64_1 (all_cons vccmp64_2 (all_nil))))
noncomputable section
abbrev TTorder : Tab := T sih.Φ cOrder.roms [cCmp, cCmp64]
def pcorder_0 : List BE := [(BE.lit true)]
def pcorder_1 : List BE := ((BE.eq (IE.fn .i64 1 (AL.int .i64 (IE.var .i64 2) (AL.int .i64 (IE.var .i64 6) AL.nil))) (IE.lit 0)) :: pcorder_0)
def pcorder_2 : List BE := ((BE.eq (IE.fn .i64 1 (AL.int .i64 (IE.var .i64 1) (AL.int .i64 (IE.var .i64 5) AL.nil))) (IE.lit 0)) :: pcorder_1)
def pcorder_3 : List BE := ((BE.eq (IE.fn .i64 1 (AL.int .i64 (IE.var .i64 3) (AL.int .i64 (IE.var .i64 7) AL.nil))) (IE.lit 0)) :: pcorder_2)
def worder_0 : VW := (VW.done ((BE.eq (IE.fn .i64 1 (AL.int .i64 (IE.var .i64 4) (AL.int .i64 (IE.var .i64 8) AL.nil))) (IE.lit 0)) :: pcorder_3) (some [(G.i (IE.fn .i64 3 (AL.int .i64 (IE.var .i64 1) (AL.int .i64 (IE.var .i64 2) (AL.int .i64 (IE.var .i64 3) (AL.int .i64 (IE.var .i64 4) (AL.int .i64 (IE.var .i64 5) (AL.int .i64 (IE.var .i64 6) (AL.int .i64 (IE.var .i64 7) (AL.int .i64 (IE.var .i64 8) AL.nil))))))))) (IE.lit 0))]))
def worder_1 : VW := (VW.done ((BE.not (BE.eq (IE.fn .i64 1 (AL.int .i64 (IE.var .i64 4) (AL.int .i64 (IE.var .i64 8) AL.nil))) (IE.lit 0))) :: pcorder_3) (some [(G.i (IE.fn .i64 3 (AL.int .i64 (IE.var .i64 1) (AL.int .i64 (IE.var .i64 2) (AL.int .i64 (IE.var .i64 3) (AL.int .i64 (IE.var .i64 4) (AL.int .i64 (IE.var .i64 5) (AL.int .i64 (IE.var .i64 6) (AL.int .i64 (IE.var .i64 7) (AL.int .i64 (IE.var .i64 8) AL.nil))))))))) (IE.fn .i64 1 (AL.int .i64 (IE.var .i64 4) (AL.int .i64 (IE.var .i64 8) AL.nil))))]))
def worder_2 : VW := (VW.done ((BE.not (BE.eq (IE.fn .i64 1 (AL.int .i64 (IE.var .i64 3) (AL.int .i64 (IE.var .i64 7) AL.nil))) (IE.lit 0))) :: pcorder_2) (some [(G.i (IE.fn .i64 3 (AL.int .i64 (IE.var .i64 1) (AL.int .i64 (IE.var .i64 2) (AL.int .i64 (IE.var .i64 3) (AL.int .i64 (IE.var .i64 4) (AL.int .i64 (IE.var .i64 5) (AL.int .i64 (IE.var .i64 6) (AL.int .i64 (IE.var .i64 7) (AL.int .i64 (IE.var .i64 8) AL.nil))))))))) (IE.fn .i64 1 (AL.int .i64 (IE.var .i64 3) (AL.int .i64 (IE.var .i64 7) AL.nil))))]))
def worder_3 : VW := (VW.done ((BE.not (BE.eq (IE.fn .i64 1 (AL.int .i64 (IE.var .i64 1) (AL.int .i64 (IE.var .i64 5) AL.nil))) (IE.lit 0))) :: pcorder_1) (some [(G.i (IE.fn .i64 3 (AL.int .i64 (IE.var .i64 1) (AL.int .i64 (IE.var .i64 2) (AL.int .i64 (IE.var .i64 3) (AL.int .i64 (IE.var .i64 4) (AL.int .i64 (IE.var .i64 5) (AL.int .i64 (IE.var .i64 6) (AL.int .i64 (IE.var .i64 7) (AL.int .i64 (IE.var .i64 8) AL.nil))))))))) (IE.fn .i64 1 (AL.int .i64 (IE.var .i64 1) (AL.int .i64 (IE.var .i64 5) AL.nil))))]))
def worder_4 : VW := (VW.done ((BE.not (BE.eq (IE.fn .i64 1 (AL.int .i64 (IE.var .i64 2) (AL.int .i64 (IE.var .i64 6) AL.nil))) (IE.lit 0))) :: pcorder_0) (some [(G.i (IE.fn .i64 3 (AL.int .i64 (IE.var .i64 1) (AL.int .i64 (IE.var .i64 2) (AL.int .i64 (IE.var .i64 3) (AL.int .i64 (IE.var .i64 4) (AL.int .i64 (IE.var .i64 5) (AL.int .i64 (IE.var .i64 6) (AL.int .i64 (IE.var .i64 7) (AL.int .i64 (IE.var .i64 8) AL.nil))))))))) (IE.fn .i64 1 (AL.int .i64 (IE.var .i64 2) (AL.int .i64 (IE.var .i64 6) AL.nil))))]))
def vworder : List VW := [worder_0, worder_1, worder_2, worder_3, worder_4]
end
theorem vcorder_0 : VD TTorder (st0 cOrder) worder_0 := by
  intro ρ kn hp
  have hF : ρ.z.F = sih.Φ := kn.F
  simp only [h_nil, h_cons, d_le, d_eq, d_not, d_var, d_lit, d_cel, d_leq, d_fn, d_and, d_iff, IE.den, LE.den, AL.den, lenV, true_and, and_true, pcorder_3, pcorder_2, pcorder_1, pcorder_0, hF, pb2, pb6, pi1, pi3, pl1] at hp
  obtain ⟨p1, p2, p3, p4⟩ := hp
  refine all_cons (show (clampK .i64 (ρ.z.F.i 3 [.int .i64 (ρ.i .i64 1), .int .i64 (ρ.i .i64 2), .int .i64 (ρ.i .i64 3), .int .i64 (ρ.i .i64 4), .int .i64 (ρ.i .i64 5), .int .i64 (ρ.i .i64 6), .int .i64 (ρ.i .i64 7), .int .i64 (ρ.i .i64 8)])) = (0 : Int) from ?_) (all_nil)
  all_goals try simp only [hF, pb2, pb6, pi1, pi3, pl1]
  all_goals
    simp only [clampC, clampO] at *
    have c1 := cmp_cases (ρ.i .i64 2) (ρ.i .i64 6)
    have c2 := cmp_cases (ρ.i .i64 1) (ρ.i .i64 5)
    have c3 := cmp_cases (ρ.i .i64 3) (ρ.i .i64 7)
    have c4 := cmp_cases (ρ.i .i64 4) (ρ.i .i64 8)
    unfold ordN
    repeat' split
  all_goals omega
theorem vcorder_1 : VD TTorder (st0 cOrder) worder_1 := by
  intro ρ kn hp
  have hF : ρ.z.F = sih.Φ := kn.F
  simp only [h_nil, h_cons, d_le, d_eq, d_not, d_var, d_lit, d_cel, d_leq, d_fn, d_and, d_iff, IE.den, LE.den, AL.den, lenV, true_and, and_true, pcorder_3, pcorder_2, pcorder_1, pcorder_0, hF, pb2, pb6, pi1, pi3, pl1] at hp
  obtain ⟨p1, p2, p3, p4⟩ := hp
  refine all_cons (show (clampK .i64 (ρ.z.F.i 3 [.int .i64 (ρ.i .i64 1), .int .i64 (ρ.i .i64 2), .int .i64 (ρ.i .i64 3), .int .i64 (ρ.i .i64 4), .int .i64 (ρ.i .i64 5), .int .i64 (ρ.i .i64 6), .int .i64 (ρ.i .i64 7), .int .i64 (ρ.i .i64 8)])) = (clampK .i64 (ρ.z.F.i 1 [.int .i64 (ρ.i .i64 4), .int .i64 (ρ.i .i64 8)])) from ?_) (all_nil)
  all_goals try simp only [hF, pb2, pb6, pi1, pi3, pl1]
  all_goals
    simp only [clampC, clampO] at *
    have c1 := cmp_cases (ρ.i .i64 2) (ρ.i .i64 6)
    have c2 := cmp_cases (ρ.i .i64 1) (ρ.i .i64 5)
    have c3 := cmp_cases (ρ.i .i64 3) (ρ.i .i64 7)
    have c4 := cmp_cases (ρ.i .i64 4) (ρ.i .i64 8)
    unfold ordN
    repeat' split
  all_goals omega
theorem vcorder_2 : VD TTorder (st0 cOrder) worder_2 := by
  intro ρ kn hp
  have hF : ρ.z.F = sih.Φ := kn.F
  simp only [h_nil, h_cons, d_le, d_eq, d_not, d_var, d_lit, d_cel, d_leq, d_fn, d_and, d_iff, IE.den, LE.den, AL.den, lenV, true_and, and_true, pcorder_2, pcorder_1, pcorder_0, hF, pb2, pb6, pi1, pi3, pl1] at hp
  obtain ⟨p1, p2, p3⟩ := hp
  refine all_cons (show (clampK .i64 (ρ.z.F.i 3 [.int .i64 (ρ.i .i64 1), .int .i64 (ρ.i .i64 2), .int .i64 (ρ.i .i64 3), .int .i64 (ρ.i .i64 4), .int .i64 (ρ.i .i64 5), .int .i64 (ρ.i .i64 6), .int .i64 (ρ.i .i64 7), .int .i64 (ρ.i .i64 8)])) = (clampK .i64 (ρ.z.F.i 1 [.int .i64 (ρ.i .i64 3), .int .i64 (ρ.i .i64 7)])) from ?_) (all_nil)
  all_goals try simp only [hF, pb2, pb6, pi1, pi3, pl1]
  all_goals
    simp only [clampC, clampO] at *
    have c1 := cmp_cases (ρ.i .i64 2) (ρ.i .i64 6)
    have c2 := cmp_cases (ρ.i .i64 1) (ρ.i .i64 5)
    have c3 := cmp_cases (ρ.i .i64 3) (ρ.i .i64 7)
    have c4 := cmp_cases (ρ.i .i64 4) (ρ.i .i64 8)
    unfold ordN
    repeat' split
  all_goals omega
theorem vcorder_3 : VD TTorder (st0 cOrder) worder_3 := by
  intro ρ kn hp
  have hF : ρ.z.F = sih.Φ := kn.F
  simp only [h_nil, h_cons, d_le, d_eq, d_not, d_var, d_lit, d_cel, d_leq, d_fn, d_and, d_iff, IE.den, LE.den, AL.den, lenV, true_and, and_true, pcorder_1, pcorder_0, hF, pb2, pb6, pi1, pi3, pl1] at hp
  obtain ⟨p1, p2⟩ := hp
  refine all_cons (show (clampK .i64 (ρ.z.F.i 3 [.int .i64 (ρ.i .i64 1), .int .i64 (ρ.i .i64 2), .int .i64 (ρ.i .i64 3), .int .i64 (ρ.i .i64 4), .int .i64 (ρ.i .i64 5), .int .i64 (ρ.i .i64 6), .int .i64 (ρ.i .i64 7), .int .i64 (ρ.i .i64 8)])) = (clampK .i64 (ρ.z.F.i 1 [.int .i64 (ρ.i .i64 1), .int .i64 (ρ.i .i64 5)])) from ?_) (all_nil)
  all_goals try simp only [hF, pb2, pb6, pi1, pi3, pl1]
  all_goals
    simp only [clampC, clampO] at *
    have c1 := cmp_cases (ρ.i .i64 2) (ρ.i .i64 6)
    have c2 := cmp_cases (ρ.i .i64 1) (ρ.i .i64 5)
    have c3 := cmp_cases (ρ.i .i64 3) (ρ.i .i64 7)
    have c4 := cmp_cases (ρ.i .i64 4) (ρ.i .i64 8)
    unfold ordN
    repeat' split
  all_goals omega
theorem vcorder_4 : VD TTorder (st0 cOrder) worder_4 := by
  intro ρ kn hp
  have hF : ρ.z.F = sih.Φ := kn.F
  simp only [h_nil, h_cons, d_le, d_eq, d_not, d_var, d_lit, d_cel, d_leq, d_fn, d_and, d_iff, IE.den, LE.den, AL.den, lenV, true_and, and_true, pcorder_0, hF, pb2, pb6, pi1, pi3, pl1] at hp
  have p1 := hp
  refine all_cons (show (clampK .i64 (ρ.z.F.i 3 [.int .i64 (ρ.i .i64 1), .int .i64 (ρ.i .i64 2), .int .i64 (ρ.i .i64 3), .int .i64 (ρ.i .i64 4), .int .i64 (ρ.i .i64 5), .int .i64 (ρ.i .i64 6), .int .i64 (ρ.i .i64 7), .int .i64 (ρ.i .i64 8)])) = (clampK .i64 (ρ.z.F.i 1 [.int .i64 (ρ.i .i64 2), .int .i64 (ρ.i .i64 6)])) from ?_) (all_nil)
  all_goals try simp only [hF, pb2, pb6, pi1, pi3, pl1]
  all_goals
    simp only [clampC, clampO] at *
    have c1 := cmp_cases (ρ.i .i64 2) (ρ.i .i64 6)
    have c2 := cmp_cases (ρ.i .i64 1) (ρ.i .i64 5)
    have c3 := cmp_cases (ρ.i .i64 3) (ρ.i .i64 7)
    have c4 := cmp_cases (ρ.i .i64 4) (ρ.i .i64 8)
    unfold ordN
    repeat' split
  all_goals omega
theorem told_order : Sx.Told sih.Φ cOrder := told_vw (cs := [cCmp, cCmp64]) (all_cons told_cmp (all_cons told_cmp64 (all_nil))) 4000 vworder (by kernel_rfl) (by kernel_rfl) (by kernel_rfl) post_order (by kernel_rfl) (by kernel_rfl) (all_cons vcorder_0 (all_cons vcorder_1 (all_cons vcorder_2 (all_cons vcorder_3 (all_cons vcorder_4 (all_nil))))))
noncomputable section
abbrev TThas : Tab := T sih.Φ cHas.roms []
def pchas_0 : List BE := [(BE.lit true), (BE.fn 2 (AL.int .i64 (IE.var .i64 1) (AL.int .i64 (IE.var .i64 2) (AL.int .i64 (IE.var .i64 3) AL.nil))))]
def pchas_1 : List BE := ((BE.le (IE.lit 0) (IE.var .i64 4)) :: pchas_0)
def pchas_2 : List BE := ((BE.le (IE.var .i64 4) (IE.wrap .i64 (IE.sub (IE.var .i64 1) (IE.lit 1)))) :: pchas_1)
def pchas_3 : List BE := ((BE.le (IE.lit 0) (IE.var .i64 5)) :: pchas_2)
def pchas_4 : List BE := ((BE.le (IE.var .i64 5) (IE.wrap .i64 (IE.sub (IE.var .i64 2) (IE.lit 1)))) :: pchas_3)
def pchas_5 : List BE := ((BE.le (IE.lit 0) (IE.var .i64 6)) :: pchas_4)
def pchas_6 : List BE := ((BE.le (IE.var .i64 6) (IE.wrap .i64 (IE.sub (IE.var .i64 3) (IE.lit 1)))) :: pchas_5)
def pchas_7 : List BE := ((BE.le (IE.lit 1) (IE.var .i64 7)) :: pchas_6)
def whas_0 : VW := (VW.done ((BE.le (IE.var .i64 7) (IE.lit 1099511627776)) :: pchas_7) (some [(G.b (BE.fn 6 (AL.int .i64 (IE.var .i64 1) (AL.int .i64 (IE.var .i64 2) (AL.int .i64 (IE.var .i64 3) (AL.int .i64 (IE.var .i64 4) (AL.int .i64 (IE.var .i64 5) (AL.int .i64 (IE.var .i64 6) (AL.int .i64 (IE.var .i64 7) AL.nil)))))))) (BE.lit true))]))
def whas_1 : VW := (VW.done ((BE.not (BE.le (IE.var .i64 7) (IE.lit 1099511627776))) :: pchas_7) (some [(G.b (BE.fn 6 (AL.int .i64 (IE.var .i64 1) (AL.int .i64 (IE.var .i64 2) (AL.int .i64 (IE.var .i64 3) (AL.int .i64 (IE.var .i64 4) (AL.int .i64 (IE.var .i64 5) (AL.int .i64 (IE.var .i64 6) (AL.int .i64 (IE.var .i64 7) AL.nil)))))))) (BE.lit false))]))
def whas_2 : VW := (VW.done ((BE.not (BE.le (IE.lit 1) (IE.var .i64 7))) :: pchas_6) (some [(G.b (BE.fn 6 (AL.int .i64 (IE.var .i64 1) (AL.int .i64 (IE.var .i64 2) (AL.int .i64 (IE.var .i64 3) (AL.int .i64 (IE.var .i64 4) (AL.int .i64 (IE.var .i64 5) (AL.int .i64 (IE.var .i64 6) (AL.int .i64 (IE.var .i64 7) AL.nil)))))))) (BE.lit false))]))
def whas_3 : VW := (VW.done ((BE.not (BE.le (IE.var .i64 6) (IE.wrap .i64 (IE.sub (IE.var .i64 3) (IE.lit 1))))) :: pchas_5) (some [(G.b (BE.fn 6 (AL.int .i64 (IE.var .i64 1) (AL.int .i64 (IE.var .i64 2) (AL.int .i64 (IE.var .i64 3) (AL.int .i64 (IE.var .i64 4) (AL.int .i64 (IE.var .i64 5) (AL.int .i64 (IE.var .i64 6) (AL.int .i64 (IE.var .i64 7) AL.nil)))))))) (BE.lit false))]))
def whas_4 : VW := (VW.done ((BE.not (BE.le (IE.lit 0) (IE.var .i64 6))) :: pchas_4) (some [(G.b (BE.fn 6 (AL.int .i64 (IE.var .i64 1) (AL.int .i64 (IE.var .i64 2) (AL.int .i64 (IE.var .i64 3) (AL.int .i64 (IE.var .i64 4) (AL.int .i64 (IE.var .i64 5) (AL.int .i64 (IE.var .i64 6) (AL.int .i64 (IE.var .i64 7) AL.nil)))))))) (BE.lit false))]))
def whas_5 : VW := (VW.done ((BE.not (BE.le (IE.var .i64 5) (IE.wrap .i64 (IE.sub (IE.var .i64 2) (IE.lit 1))))) :: pchas_3) (some [(G.b (BE.fn 6 (AL.int .i64 (IE.var .i64 1) (AL.int .i64 (IE.var .i64 2) (AL.int .i64 (IE.var .i64 3) (AL.int .i64 (IE.var .i64 4) (AL.int .i64 (IE.var .i64 5) (AL.int .i64 (IE.var .i64 6) (AL.int .i64 (IE.var .i64 7) AL.nil)))))))) (BE.lit false))]))
def whas_6 : VW := (VW.done ((BE.not (BE.le (IE.lit 0) (IE.var .i64 5))) :: pchas_2) (some [(G.b (BE.fn 6 (AL.int .i64 (IE.var .i64 1) (AL.int .i64 (IE.var .i64 2) (AL.int .i64 (IE.var .i64 3) (AL.int .i64 (IE.var .i64 4) (AL.int .i64 (IE.var .i64 5) (AL.int .i64 (IE.var .i64 6) (AL.int .i64 (IE.var .i64 7) AL.nil)))))))) (BE.lit false))]))
def whas_7 : VW := (VW.done ((BE.not (BE.le (IE.var .i64 4) (IE.wrap .i64 (IE.sub (IE.var .i64 1) (IE.lit 1))))) :: pchas_1) (some [(G.b (BE.fn 6 (AL.int .i64 (IE.var .i64 1) (AL.int .i64 (IE.var .i64 2) (AL.int .i64 (IE.var .i64 3) (AL.int .i64 (IE.var .i64 4) (AL.int .i64 (IE.var .i64 5) (AL.int .i64 (IE.var .i64 6) (AL.int .i64 (IE.var .i64 7) AL.nil)))))))) (BE.lit false))]))
def whas_8 : VW := (VW.done ((BE.not (BE.le (IE.lit 0) (IE.var .i64 4))) :: pchas_0) (some [(G.b (BE.fn 6 (AL.int .i64 (IE.var .i64 1) (AL.int .i64 (IE.var .i64 2) (AL.int .i64 (IE.var .i64 3) (AL.int .i64 (IE.var .i64 4) (AL.int .i64 (IE.var .i64 5) (AL.int .i64 (IE.var .i64 6) (AL.int .i64 (IE.var .i64 7) AL.nil)))))))) (BE.lit false))]))
def vwhas : List VW := [whas_0, whas_1, whas_2, whas_3, whas_4, whas_5, whas_6, whas_7, whas_8]
end
theorem vchas_0 : VD TThas (st0 cHas) whas_0 := by
  intro ρ kn hp
  have hF : ρ.z.F = sih.Φ := kn.F
  simp only [h_nil, h_cons, d_le, d_eq, d_not, d_var, d_lit, d_cel, d_leq, d_fn, d_and, d_iff, IE.den, LE.den, AL.den, lenV, true_and, and_true, pchas_7, pchas_6, pchas_5, pchas_4, pchas_3, pchas_2, pchas_1, pchas_0, hF, pb2, pb6, pi1, pi3, pl1] at hp
  obtain ⟨p1, p2, p3, p4, p5, p6, p7, p8, p9⟩ := hp
  refine all_cons (show (ρ.z.F.b 6 [.int .i64 (ρ.i .i64 1), .int .i64 (ρ.i .i64 2), .int .i64 (ρ.i .i64 3), .int .i64 (ρ.i .i64 4), .int .i64 (ρ.i .i64 5), .int .i64 (ρ.i .i64 6), .int .i64 (ρ.i .i64 7)]) = true from ?_) (all_nil)
  all_goals try simp only [hF, pb2, pb6, pi1, pi3, pl1]
  all_goals
    have hs : shapeN (ρ.i .i64 1) (ρ.i .i64 2) (ρ.i .i64 3) = true := by assumption
    rw [shapeN_iff] at hs
    have w1 := wr (x := ρ.i .i64 1 - 1) (by omega) (by omega)
    have w2 := wr (x := ρ.i .i64 2 - 1) (by omega) (by omega)
    have w3 := wr (x := ρ.i .i64 3 - 1) (by omega) (by omega)
    apply beq_of
    simp only [tickN_iff, Bool.false_eq_true, iff_false, iff_true, decide_eq_true_eq]
    omega
theorem vchas_1 : VD TThas (st0 cHas) whas_1 := by
  intro ρ kn hp
  have hF : ρ.z.F = sih.Φ := kn.F
  simp only [h_nil, h_cons, d_le, d_eq, d_not, d_var, d_lit, d_cel, d_leq, d_fn, d_and, d_iff, IE.den, LE.den, AL.den, lenV, true_and, and_true, pchas_7, pchas_6, pchas_5, pchas_4, pchas_3, pchas_2, pchas_1, pchas_0, hF, pb2, pb6, pi1, pi3, pl1] at hp
  obtain ⟨p1, p2, p3, p4, p5, p6, p7, p8, p9⟩ := hp
  refine all_cons (show (ρ.z.F.b 6 [.int .i64 (ρ.i .i64 1), .int .i64 (ρ.i .i64 2), .int .i64 (ρ.i .i64 3), .int .i64 (ρ.i .i64 4), .int .i64 (ρ.i .i64 5), .int .i64 (ρ.i .i64 6), .int .i64 (ρ.i .i64 7)]) = false from ?_) (all_nil)
  all_goals try simp only [hF, pb2, pb6, pi1, pi3, pl1]
  all_goals
    have hs : shapeN (ρ.i .i64 1) (ρ.i .i64 2) (ρ.i .i64 3) = true := by assumption
    rw [shapeN_iff] at hs
    have w1 := wr (x := ρ.i .i64 1 - 1) (by omega) (by omega)
    have w2 := wr (x := ρ.i .i64 2 - 1) (by omega) (by omega)
    have w3 := wr (x := ρ.i .i64 3 - 1) (by omega) (by omega)
    apply beq_of
    simp only [tickN_iff, Bool.false_eq_true, iff_false, iff_true, decide_eq_true_eq]
    omega
theorem vchas_2 : VD TThas (st0 cHas) whas_2 := by
  intro ρ kn hp
  have hF : ρ.z.F = sih.Φ := kn.F
  simp only [h_nil, h_cons, d_le, d_eq, d_not, d_var, d_lit, d_cel, d_leq, d_fn, d_and, d_iff, IE.den, LE.den, AL.den, lenV, true_and, and_true, pchas_6, pchas_5, pchas_4, pchas_3, pchas_2, pchas_1, pchas_0, hF, pb2, pb6, pi1, pi3, pl1] at hp
  obtain ⟨p1, p2, p3, p4, p5, p6, p7, p8⟩ := hp
  refine all_cons (show (ρ.z.F.b 6 [.int .i64 (ρ.i .i64 1), .int .i64 (ρ.i .i64 2), .int .i64 (ρ.i .i64 3), .int .i64 (ρ.i .i64 4), .int .i64 (ρ.i .i64 5), .int .i64 (ρ.i .i64 6), .int .i64 (ρ.i .i64 7)]) = false from ?_) (all_nil)
  all_goals try simp only [hF, pb2, pb6, pi1, pi3, pl1]
  all_goals
    have hs : shapeN (ρ.i .i64 1) (ρ.i .i64 2) (ρ.i .i64 3) = true := by assumption
    rw [shapeN_iff] at hs
    have w1 := wr (x := ρ.i .i64 1 - 1) (by omega) (by omega)
    have w2 := wr (x := ρ.i .i64 2 - 1) (by omega) (by omega)
    have w3 := wr (x := ρ.i .i64 3 - 1) (by omega) (by omega)
    apply beq_of
    simp only [tickN_iff, Bool.false_eq_true, iff_false, iff_true, decide_eq_true_eq]
    omega
theorem vchas_3 : VD TThas (st0 cHas) whas_3 := by
  intro ρ kn hp
  have hF : ρ.z.F = sih.Φ := kn.F
  simp only [h_nil, h_cons, d_le, d_eq, d_not, d_var, d_lit, d_cel, d_leq, d_fn, d_and, d_iff, IE.den, LE.den, AL.den, lenV, true_and, and_true, pchas_5, pchas_4, pchas_3, pchas_2, pchas_1, pchas_0, hF, pb2, pb6, pi1, pi3, pl1] at hp
  obtain ⟨p1, p2, p3, p4, p5, p6, p7⟩ := hp
  refine all_cons (show (ρ.z.F.b 6 [.int .i64 (ρ.i .i64 1), .int .i64 (ρ.i .i64 2), .int .i64 (ρ.i .i64 3), .int .i64 (ρ.i .i64 4), .int .i64 (ρ.i .i64 5), .int .i64 (ρ.i .i64 6), .int .i64 (ρ.i .i64 7)]) = false from ?_) (all_nil)
  all_goals try simp only [hF, pb2, pb6, pi1, pi3, pl1]
  all_goals
    have hs : shapeN (ρ.i .i64 1) (ρ.i .i64 2) (ρ.i .i64 3) = true := by assumption
    rw [shapeN_iff] at hs
    have w1 := wr (x := ρ.i .i64 1 - 1) (by omega) (by omega)
    have w2 := wr (x := ρ.i .i64 2 - 1) (by omega) (by omega)
    have w3 := wr (x := ρ.i .i64 3 - 1) (by omega) (by omega)
    apply beq_of
    simp only [tickN_iff, Bool.false_eq_true, iff_false, iff_true, decide_eq_true_eq]
    omega
theorem vchas_4 : VD TThas (st0 cHas) whas_4 := by
  intro ρ kn hp
  have hF : ρ.z.F = sih.Φ := kn.F
  simp only [h_nil, h_cons, d_le, d_eq, d_not, d_var, d_lit, d_cel, d_leq, d_fn, d_and, d_iff, IE.den, LE.den, AL.den, lenV, true_and, and_true, pchas_4, pchas_3, pchas_2, pchas_1, pchas_0, hF, pb2, pb6, pi1, pi3, pl1] at hp
  obtain ⟨p1, p2, p3, p4, p5, p6⟩ := hp
  refine all_cons (show (ρ.z.F.b 6 [.int .i64 (ρ.i .i64 1), .int .i64 (ρ.i .i64 2), .int .i64 (ρ.i .i64 3), .int .i64 (ρ.i .i64 4), .int .i64 (ρ.i .i64 5), .int .i64 (ρ.i .i64 6), .int .i64 (ρ.i .i64 7)]) = false from ?_) (all_nil)
  all_goals try simp only [hF, pb2, pb6, pi1, pi3, pl1]
  all_goals
    have hs : shapeN (ρ.i .i64 1) (ρ.i .i64 2) (ρ.i .i64 3) = true := by assumption
    rw [shapeN_iff] at hs
    have w1 := wr (x := ρ.i .i64 1 - 1) (by omega) (by omega)
    have w2 := wr (x := ρ.i .i64 2 - 1) (by omega) (by omega)
    have w3 := wr (x := ρ.i .i64 3 - 1) (by omega) (by omega)
    apply beq_of
    simp only [tickN_iff, Bool.false_eq_true, iff_false, iff_true, decide_eq_true_eq]
    omega
theorem vchas_5 : VD TThas (st0 cHas) whas_5 := by
  intro ρ kn hp
  have hF : ρ.z.F = sih.Φ := kn.F
  simp only [h_nil, h_cons, d_le, d_eq, d_not, d_var, d_lit, d_cel, d_leq, d_fn, d_and, d_iff, IE.den, LE.den, AL.den, lenV, true_and, and_true, pchas_3, pchas_2, pchas_1, pchas_0, hF, pb2, pb6, pi1, pi3, pl1] at hp
  obtain ⟨p1, p2, p3, p4, p5⟩ := hp
  refine all_cons (show (ρ.z.F.b 6 [.int .i64 (ρ.i .i64 1), .int .i64 (ρ.i .i64 2), .int .i64 (ρ.i .i64 3), .int .i64 (ρ.i .i64 4), .int .i64 (ρ.i .i64 5), .int .i64 (ρ.i .i64 6), .int .i64 (ρ.i .i64 7)]) = false from ?_) (all_nil)
  all_goals try simp only [hF, pb2, pb6, pi1, pi3, pl1]
  all_goals
    have hs : shapeN (ρ.i .i64 1) (ρ.i .i64 2) (ρ.i .i64 3) = true := by assumption
    rw [shapeN_iff] at hs
    have w1 := wr (x := ρ.i .i64 1 - 1) (by omega) (by omega)
    have w2 := wr (x := ρ.i .i64 2 - 1) (by omega) (by omega)
    have w3 := wr (x := ρ.i .i64 3 - 1) (by omega) (by omega)
    apply beq_of
    simp only [tickN_iff, Bool.false_eq_true, iff_false, iff_true, decide_eq_true_eq]
    omega
theorem vchas_6 : VD TThas (st0 cHas) whas_6 := by
  intro ρ kn hp
  have hF : ρ.z.F = sih.Φ := kn.F
  simp only [h_nil, h_cons, d_le, d_eq, d_not, d_var, d_lit, d_cel, d_leq, d_fn, d_and, d_iff, IE.den, LE.den, AL.den, lenV, true_and, and_true, pchas_2, pchas_1, pchas_0, hF, pb2, pb6, pi1, pi3, pl1] at hp
  obtain ⟨p1, p2, p3, p4⟩ := hp
  refine all_cons (show (ρ.z.F.b 6 [.int .i64 (ρ.i .i64 1), .int .i64 (ρ.i .i64 2), .int .i64 (ρ.i .i64 3), .int .i64 (ρ.i .i64 4), .int .i64 (ρ.i .i64 5), .int .i64 (ρ.i .i64 6), .int .i64 (ρ.i .i64 7)]) = false from ?_) (all_nil)
  all_goals try simp only [hF, pb2, pb6, pi1, pi3, pl1]
  all_goals
    have hs : shapeN (ρ.i .i64 1) (ρ.i .i64 2) (ρ.i .i64 3) = true := by assumption
    rw [shapeN_iff] at hs
    have w1 := wr (x := ρ.i .i64 1 - 1) (by omega) (by omega)
    have w2 := wr (x := ρ.i .i64 2 - 1) (by omega) (by omega)
    have w3 := wr (x := ρ.i .i64 3 - 1) (by omega) (by omega)
    apply beq_of
    simp only [tickN_iff, Bool.false_eq_true, iff_false, iff_true, decide_eq_true_eq]
    omega
theorem vchas_7 : VD TThas (st0 cHas) whas_7 := by
  intro ρ kn hp
  have hF : ρ.z.F = sih.Φ := kn.F
  simp only [h_nil, h_cons, d_le, d_eq, d_not, d_var, d_lit, d_cel, d_leq, d_fn, d_and, d_iff, IE.den, LE.den, AL.den, lenV, true_and, and_true, pchas_1, pchas_0, hF, pb2, pb6, pi1, pi3, pl1] at hp
  obtain ⟨p1, p2, p3⟩ := hp
  refine all_cons (show (ρ.z.F.b 6 [.int .i64 (ρ.i .i64 1), .int .i64 (ρ.i .i64 2), .int .i64 (ρ.i .i64 3), .int .i64 (ρ.i .i64 4), .int .i64 (ρ.i .i64 5), .int .i64 (ρ.i .i64 6), .int .i64 (ρ.i .i64 7)]) = false from ?_) (all_nil)
  all_goals try simp only [hF, pb2, pb6, pi1, pi3, pl1]
  all_goals
    have hs : shapeN (ρ.i .i64 1) (ρ.i .i64 2) (ρ.i .i64 3) = true := by assumption
    rw [shapeN_iff] at hs
    have w1 := wr (x := ρ.i .i64 1 - 1) (by omega) (by omega)
    have w2 := wr (x := ρ.i .i64 2 - 1) (by omega) (by omega)
    have w3 := wr (x := ρ.i .i64 3 - 1) (by omega) (by omega)
    apply beq_of
    simp only [tickN_iff, Bool.false_eq_true, iff_false, iff_true, decide_eq_true_eq]
    omega
theorem vchas_8 : VD TThas (st0 cHas) whas_8 := by
  intro ρ kn hp
  have hF : ρ.z.F = sih.Φ := kn.F
  simp only [h_nil, h_cons, d_le, d_eq, d_not, d_var, d_lit, d_cel, d_leq, d_fn, d_and, d_iff, IE.den, LE.den, AL.den, lenV, true_and, and_true, pchas_0, hF, pb2, pb6, pi1, pi3, pl1] at hp
  obtain ⟨p1, p2⟩ := hp
  refine all_cons (show (ρ.z.F.b 6 [.int .i64 (ρ.i .i64 1), .int .i64 (ρ.i .i64 2), .int .i64 (ρ.i .i64 3), .int .i64 (ρ.i .i64 4), .int .i64 (ρ.i .i64 5), .int .i64 (ρ.i .i64 6), .int .i64 (ρ.i .i64 7)]) = false from ?_) (all_nil)
  all_goals try simp only [hF, pb2, pb6, pi1, pi3, pl1]
  all_goals
    have hs : shapeN (ρ.i .i64 1) (ρ.i .i64 2) (ρ.i .i64 3) = true := by assumption
    rw [shapeN_iff] at hs
    have w1 := wr (x := ρ.i .i64 1 - 1) (by omega) (by omega)
    have w2 := wr (x := ρ.i .i64 2 - 1) (by omega) (by omega)
    have w3 := wr (x := ρ.i .i64 3 - 1) (by omega) (by omega)
    apply beq_of
    simp only [tickN_iff, Bool.false_eq_true, iff_false, iff_true, decide_eq_true_eq]
    omega
theorem told_has : Sx.Told sih.Φ cHas := told_vw (cs := []) (all_nil) 6000 vwhas (by kernel_rfl) (by kernel_rfl) (by kernel_rfl) (post_nil rfl) (by kernel_rfl) (by kernel_rfl) (all_cons vchas_0 (all_cons vchas_1 (all_cons vchas_2 (all_cons vchas_3 (all_cons vchas_4 (all_cons vchas_5 (all_cons vchas_6 (all_cons vchas_7 (all_cons vchas_8 (all_nil))))))))))
noncomputable section
abbrev TTname : Tab := T sih.Φ cName.roms [cFmt, cJoin, cIx1, cIxA, cIxB]
def wname_0 : VW := (VW.done [(BE.le (IE.len (LE.fn 1 (AL.int .i64 (IE.var .i64 7) AL.nil))) (IE.lit 20)), (BE.le (IE.len (LE.fn 1 (AL.int .i64 (IE.var .i64 6) AL.nil))) (IE.lit 20)), (BE.le (IE.len (LE.fn 1 (AL.int .i64 (IE.var .i64 5) AL.nil))) (IE.lit 20)), (BE.le (IE.len (LE.fn 1 (AL.int .i64 (IE.var .i64 4) AL.nil))) (IE.lit 20)), (BE.lit true), (BE.le (IE.lit (-9223372036854775808)) (IE.var .i64 4)), (BE.le (IE.var .i64 4) (IE.lit 9223372036854775807)), (BE.le (IE.lit (-9223372036854775808)) (IE.var .i64 5)), (BE.le (IE.var .i64 5) (IE.lit 9223372036854775807)), (BE.le (IE.lit (-9223372036854775808)) (IE.var .i64 6)), (BE.le (IE.var .i64 6) (IE.lit 9223372036854775807)), (BE.le (IE.lit (-9223372036854775808)) (IE.var .i64 7)), (BE.le (IE.var .i64 7) (IE.lit 9223372036854775807))] (some []))
def vwname : List VW := [wname_0]
end
theorem vcname_0 : VD TTname (st0 cName) wname_0 := by
  intro ρ kn hp
  exact all_nil
theorem told_name : Sx.Told sih.Φ cName := told_vw (cs := [cFmt, cJoin, cIx1, cIxA, cIxB]) (all_cons told_fmt (all_cons told_join (all_cons told_ix1 (all_cons told_ixA (all_cons told_ixB (all_nil)))))) 9000 vwname (by kernel_rfl) (by kernel_rfl) (by kernel_rfl) post_name (by kernel_rfl) (by kernel_rfl) (all_cons vcname_0 (all_nil))
theorem told_text1 : Sx.Told sih.Φ cText1 := told_auto (cs := [cRightS, cHas, cName, cChk1, cChk2]) (all_cons told_rightS (all_cons told_has (all_cons told_name (all_cons told_chk1 (all_cons told_chk2 (all_nil)))))) 4000 (by kernel_rfl) (by kernel_rfl) (by kernel_rfl) post_text1 (by kernel_rfl) (by kernel_rfl)
theorem told_text2 : Sx.Told sih.Φ cText2 := told_auto (cs := [cRightS, cHas, cName, cChk1, cChk2]) (all_cons told_rightS (all_cons told_has (all_cons told_name (all_cons told_chk1 (all_cons told_chk2 (all_nil)))))) 4000 (by kernel_rfl) (by kernel_rfl) (by kernel_rfl) (post_nil rfl) (by kernel_rfl) (by kernel_rfl)
theorem told_text3 : Sx.Told sih.Φ cText3 := told_auto (cs := [cRightS, cHas, cName, cChk1, cChk2]) (all_cons told_rightS (all_cons told_has (all_cons told_name (all_cons told_chk1 (all_cons told_chk2 (all_nil)))))) 4000 (by kernel_rfl) (by kernel_rfl) (by kernel_rfl) (post_nil rfl) (by kernel_rfl) (by kernel_rfl)
noncomputable section
abbrev TTholds : Tab := T sih.Φ cHolds.roms [cWorks, cText1, cText2, cText3, cOrder]
def pcholds_0 : List BE := [(BE.lit true)]
def pcholds_1 : List BE := ((BE.fn 2 (AL.int .i64 (IE.var .i64 1) (AL.int .i64 (IE.var .i64 2) (AL.int .i64 (IE.var .i64 3) AL.nil)))) :: pcholds_0)
def pcholds_2 : List BE := ((BE.not (BE.fn 6 (AL.int .i64 (IE.var .i64 1) (AL.int .i64 (IE.var .i64 2) (AL.int .i64 (IE.var .i64 3) (AL.int .i64 (IE.var .i64 4) (AL.int .i64 (IE.var .i64 5) (AL.int .i64 (IE.var .i64 6) (AL.int .i64 (IE.var .i64 7) AL.nil))))))))) :: pcholds_1)
def pcholds_3 : List BE := ((BE.le (IE.add (IE.len (LE.fn 1 (AL.int .i64 (IE.var .i64 4) AL.nil))) (IE.add (IE.lit 1) (IE.add (IE.len (LE.fn 1 (AL.int .i64 (IE.var .i64 5) AL.nil))) (IE.add (IE.lit 1) (IE.add (IE.len (LE.fn 1 (AL.int .i64 (IE.var .i64 6) AL.nil))) (IE.add (IE.lit 1) (IE.len (LE.fn 1 (AL.int .i64 (IE.var .i64 7) AL.nil))))))))) (IE.lit 100)) :: (BE.fn 6 (AL.int .i64 (IE.var .i64 1) (AL.int .i64 (IE.var .i64 2) (AL.int .i64 (IE.var .i64 3) (AL.int .i64 (IE.var .i64 4) (AL.int .i64 (IE.var .i64 5) (AL.int .i64 (IE.var .i64 6) (AL.int .i64 (IE.var .i64 7) AL.nil)))))))) :: pcholds_1)
def pcholds_4 : List BE := ((BE.le (IE.add (IE.len (LE.fn 1 (AL.int .i64 (IE.var .i64 8) AL.nil))) (IE.add (IE.lit 1) (IE.add (IE.len (LE.fn 1 (AL.int .i64 (IE.var .i64 9) AL.nil))) (IE.add (IE.lit 1) (IE.add (IE.len (LE.fn 1 (AL.int .i64 (IE.var .i64 10) AL.nil))) (IE.add (IE.lit 1) (IE.len (LE.fn 1 (AL.int .i64 (IE.var .i64 11) AL.nil))))))))) (IE.lit 100)) :: (BE.fn 6 (AL.int .i64 (IE.var .i64 1) (AL.int .i64 (IE.var .i64 2) (AL.int .i64 (IE.var .i64 3) (AL.int .i64 (IE.var .i64 8) (AL.int .i64 (IE.var .i64 9) (AL.int .i64 (IE.var .i64 10) (AL.int .i64 (IE.var .i64 11) AL.nil)))))))) :: pcholds_3)
def pcholds_5 : List BE := ((BE.leq (LE.cat (LE.fn 1 (AL.int .i64 (IE.var .i64 4) AL.nil)) (LE.cat (LE.one (AL.int .u8 (IE.lit 46) AL.nil)) (LE.cat (LE.fn 1 (AL.int .i64 (IE.var .i64 5) AL.nil)) (LE.cat (LE.one (AL.int .u8 (IE.lit 46) AL.nil)) (LE.cat (LE.fn 1 (AL.int .i64 (IE.var .i64 6) AL.nil)) (LE.cat (LE.one (AL.int .u8 (IE.lit 46) AL.nil)) (LE.fn 1 (AL.int .i64 (IE.var .i64 7) AL.nil)))))))) (LE.cat (LE.fn 1 (AL.int .i64 (IE.var .i64 8) AL.nil)) (LE.cat (LE.one (AL.int .u8 (IE.lit 46) AL.nil)) (LE.cat (LE.fn 1 (AL.int .i64 (IE.var .i64 9) AL.nil)) (LE.cat (LE.one (AL.int .u8 (IE.lit 46) AL.nil)) (LE.cat (LE.fn 1 (AL.int .i64 (IE.var .i64 10) AL.nil)) (LE.cat (LE.one (AL.int .u8 (IE.lit 46) AL.nil)) (LE.fn 1 (AL.int .i64 (IE.var .i64 11) AL.nil))))))))) :: pcholds_4)
def pcholds_6 : List BE := ((BE.not (BE.leq (LE.cat (LE.fn 1 (AL.int .i64 (IE.var .i64 4) AL.nil)) (LE.cat (LE.one (AL.int .u8 (IE.lit 46) AL.nil)) (LE.cat (LE.fn 1 (AL.int .i64 (IE.var .i64 5) AL.nil)) (LE.cat (LE.one (AL.int .u8 (IE.lit 46) AL.nil)) (LE.cat (LE.fn 1 (AL.int .i64 (IE.var .i64 6) AL.nil)) (LE.cat (LE.one (AL.int .u8 (IE.lit 46) AL.nil)) (LE.fn 1 (AL.int .i64 (IE.var .i64 7) AL.nil)))))))) (LE.cat (LE.fn 1 (AL.int .i64 (IE.var .i64 8) AL.nil)) (LE.cat (LE.one (AL.int .u8 (IE.lit 46) AL.nil)) (LE.cat (LE.fn 1 (AL.int .i64 (IE.var .i64 9) AL.nil)) (LE.cat (LE.one (AL.int .u8 (IE.lit 46) AL.nil)) (LE.cat (LE.fn 1 (AL.int .i64 (IE.var .i64 10) AL.nil)) (LE.cat (LE.one (AL.int .u8 (IE.lit 46) AL.nil)) (LE.fn 1 (AL.int .i64 (IE.var .i64 11) AL.nil)))))))))) :: pcholds_4)
def pcholds_7 : List BE := ((BE.eq (IE.var .i64 4) (IE.var .i64 8)) :: pcholds_5)
def pcholds_8 : List BE := ((BE.eq (IE.var .i64 4) (IE.var .i64 8)) :: pcholds_6)
def pcholds_9 : List BE := ((BE.le (IE.lit (-1)) (IE.fn .i64 3 (AL.int .i64 (IE.var .i64 4) (AL.int .i64 (IE.var .i64 5) (AL.int .i64 (IE.var .i64 6) (AL.int .i64 (IE.var .i64 7) (AL.int .i64 (IE.var .i64 12) (AL.int .i64 (IE.var .i64 13) (AL.int .i64 (IE.var .i64 14) (AL.int .i64 (IE.var .i64 15) AL.nil)))))))))) :: (BE.le (IE.fn .i64 3 (AL.int .i64 (IE.var .i64 4) (AL.int .i64 (IE.var .i64 5) (AL.int .i64 (IE.var .i64 6) (AL.int .i64 (IE.var .i64 7) (AL.int .i64 (IE.var .i64 12) (AL.int .i64 (IE.var .i64 13) (AL.int .i64 (IE.var .i64 14) (AL.int .i64 (IE.var .i64 15) AL.nil))))))))) (IE.lit 1)) :: (BE.le (IE.lit (-1)) (IE.fn .i64 3 (AL.int .i64 (IE.var .i64 8) (AL.int .i64 (IE.var .i64 9) (AL.int .i64 (IE.var .i64 10) (AL.int .i64 (IE.var .i64 11) (AL.int .i64 (IE.var .i64 12) (AL.int .i64 (IE.var .i64 13) (AL.int .i64 (IE.var .i64 14) (AL.int .i64 (IE.var .i64 15) AL.nil)))))))))) :: (BE.le (IE.fn .i64 3 (AL.int .i64 (IE.var .i64 8) (AL.int .i64 (IE.var .i64 9) (AL.int .i64 (IE.var .i64 10) (AL.int .i64 (IE.var .i64 11) (AL.int .i64 (IE.var .i64 12) (AL.int .i64 (IE.var .i64 13) (AL.int .i64 (IE.var .i64 14) (AL.int .i64 (IE.var .i64 15) AL.nil))))))))) (IE.lit 1)) :: (BE.le (IE.lit (-1)) (IE.fn .i64 3 (AL.int .i64 (IE.var .i64 4) (AL.int .i64 (IE.var .i64 5) (AL.int .i64 (IE.var .i64 6) (AL.int .i64 (IE.var .i64 7) (AL.int .i64 (IE.var .i64 8) (AL.int .i64 (IE.var .i64 9) (AL.int .i64 (IE.var .i64 10) (AL.int .i64 (IE.var .i64 11) AL.nil)))))))))) :: (BE.le (IE.fn .i64 3 (AL.int .i64 (IE.var .i64 4) (AL.int .i64 (IE.var .i64 5) (AL.int .i64 (IE.var .i64 6) (AL.int .i64 (IE.var .i64 7) (AL.int .i64 (IE.var .i64 8) (AL.int .i64 (IE.var .i64 9) (AL.int .i64 (IE.var .i64 10) (AL.int .i64 (IE.var .i64 11) AL.nil))))))))) (IE.lit 1)) :: (BE.not (BE.fn 2 (AL.int .i64 (IE.var .i64 1) (AL.int .i64 (IE.var .i64 2) (AL.int .i64 (IE.var .i64 3) AL.nil))))) :: pcholds_0)
def pcholds_10 : List BE := ((BE.eq (IE.var .i64 5) (IE.var .i64 9)) :: pcholds_7)
def pcholds_11 : List BE := ((BE.eq (IE.var .i64 5) (IE.var .i64 9)) :: pcholds_8)
def pcholds_12 : List BE := ((BE.eq (IE.fn .i64 3 (AL.int .i64 (IE.var .i64 4) (AL.int .i64 (IE.var .i64 5) (AL.int .i64 (IE.var .i64 6) (AL.int .i64 (IE.var .i64 7) (AL.int .i64 (IE.var .i64 8) (AL.int .i64 (IE.var .i64 9) (AL.int .i64 (IE.var .i64 10) (AL.int .i64 (IE.var .i64 11) AL.nil))))))))) (IE.lit 0)) :: pcholds_9)
def pcholds_13 : List BE := ((BE.not (BE.eq (IE.fn .i64 3 (AL.int .i64 (IE.var .i64 4) (AL.int .i64 (IE.var .i64 5) (AL.int .i64 (IE.var .i64 6) (AL.int .i64 (IE.var .i64 7) (AL.int .i64 (IE.var .i64 8) (AL.int .i64 (IE.var .i64 9) (AL.int .i64 (IE.var .i64 10) (AL.int .i64 (IE.var .i64 11) AL.nil))))))))) (IE.lit 0))) :: pcholds_9)
def pcholds_14 : List BE := ((BE.eq (IE.var .i64 6) (IE.var .i64 10)) :: pcholds_10)
def pcholds_15 : List BE := ((BE.eq (IE.var .i64 6) (IE.var .i64 10)) :: pcholds_11)
def pcholds_16 : List BE := ((BE.le (IE.lit (-1)) (IE.fn .i64 3 (AL.int .i64 (IE.var .i64 4) (AL.int .i64 (IE.var .i64 5) (AL.int .i64 (IE.var .i64 6) (AL.int .i64 (IE.var .i64 7) (AL.int .i64 (IE.var .i64 12) (AL.int .i64 (IE.var .i64 13) (AL.int .i64 (IE.var .i64 14) (AL.int .i64 (IE.var .i64 15) AL.nil)))))))))) :: (BE.le (IE.fn .i64 3 (AL.int .i64 (IE.var .i64 4) (AL.int .i64 (IE.var .i64 5) (AL.int .i64 (IE.var .i64 6) (AL.int .i64 (IE.var .i64 7) (AL.int .i64 (IE.var .i64 12) (AL.int .i64 (IE.var .i64 13) (AL.int .i64 (IE.var .i64 14) (AL.int .i64 (IE.var .i64 15) AL.nil))))))))) (IE.lit 1)) :: (BE.le (IE.lit (-1)) (IE.fn .i64 3 (AL.int .i64 (IE.var .i64 8) (AL.int .i64 (IE.var .i64 9) (AL.int .i64 (IE.var .i64 10) (AL.int .i64 (IE.var .i64 11) (AL.int .i64 (IE.var .i64 12) (AL.int .i64 (IE.var .i64 13) (AL.int .i64 (IE.var .i64 14) (AL.int .i64 (IE.var .i64 15) AL.nil)))))))))) :: (BE.le (IE.fn .i64 3 (AL.int .i64 (IE.var .i64 8) (AL.int .i64 (IE.var .i64 9) (AL.int .i64 (IE.var .i64 10) (AL.int .i64 (IE.var .i64 11) (AL.int .i64 (IE.var .i64 12) (AL.int .i64 (IE.var .i64 13) (AL.int .i64 (IE.var .i64 14) (AL.int .i64 (IE.var .i64 15) AL.nil))))))))) (IE.lit 1)) :: (BE.le (IE.lit (-1)) (IE.fn .i64 3 (AL.int .i64 (IE.var .i64 4) (AL.int .i64 (IE.var .i64 5) (AL.int .i64 (IE.var .i64 6) (AL.int .i64 (IE.var .i64 7) (AL.int .i64 (IE.var .i64 8) (AL.int .i64 (IE.var .i64 9) (AL.int .i64 (IE.var .i64 10) (AL.int .i64 (IE.var .i64 11) AL.nil)))))))))) :: (BE.le (IE.fn .i64 3 (AL.int .i64 (IE.var .i64 4) (AL.int .i64 (IE.var .i64 5) (AL.int .i64 (IE.var .i64 6) (AL.int .i64 (IE.var .i64 7) (AL.int .i64 (IE.var .i64 8) (AL.int .i64 (IE.var .i64 9) (AL.int .i64 (IE.var .i64 10) (AL.int .i64 (IE.var .i64 11) AL.nil))))))))) (IE.lit 1)) :: (BE.not (BE.fn 6 (AL.int .i64 (IE.var .i64 1) (AL.int .i64 (IE.var .i64 2) (AL.int .i64 (IE.var .i64 3) (AL.int .i64 (IE.var .i64 8) (AL.int .i64 (IE.var .i64 9) (AL.int .i64 (IE.var .i64 10) (AL.int .i64 (IE.var .i64 11) AL.nil))))))))) :: pcholds_2)
def pcholds_17 : List BE := ((BE.eq (IE.var .i64 4) (IE.var .i64 8)) :: pcholds_12)
def pcholds_18 : List BE := ((BE.eq (IE.var .i64 4) (IE.var .i64 8)) :: pcholds_13)
def pcholds_19 : List BE := ((BE.not (BE.eq (IE.var .i64 4) (IE.var .i64 8))) :: pcholds_13)
def pcholds_20 : List BE := ((BE.le (IE.lit (-1)) (IE.fn .i64 3 (AL.int .i64 (IE.var .i64 4) (AL.int .i64 (IE.var .i64 5) (AL.int .i64 (IE.var .i64 6) (AL.int .i64 (IE.var .i64 7) (AL.int .i64 (IE.var .i64 12) (AL.int .i64 (IE.var .i64 13) (AL.int .i64 (IE.var .i64 14) (AL.int .i64 (IE.var .i64 15) AL.nil)))))))))) :: (BE.le (IE.fn .i64 3 (AL.int .i64 (IE.var .i64 4) (AL.int .i64 (IE.var .i64 5) (AL.int .i64 (IE.var .i64 6) (AL.int .i64 (IE.var .i64 7) (AL.int .i64 (IE.var .i64 12) (AL.int .i64 (IE.var .i64 13) (AL.int .i64 (IE.var .i64 14) (AL.int .i64 (IE.var .i64 15) AL.nil))))))))) (IE.lit 1)) :: (BE.le (IE.lit (-1)) (IE.fn .i64 3 (AL.int .i64 (IE.var .i64 8) (AL.int .i64 (IE.var .i64 9) (AL.int .i64 (IE.var .i64 10) (AL.int .i64 (IE.var .i64 11) (AL.int .i64 (IE.var .i64 12) (AL.int .i64 (IE.var .i64 13) (AL.int .i64 (IE.var .i64 14) (AL.int .i64 (IE.var .i64 15) AL.nil)))))))))) :: (BE.le (IE.fn .i64 3 (AL.int .i64 (IE.var .i64 8) (AL.int .i64 (IE.var .i64 9) (AL.int .i64 (IE.var .i64 10) (AL.int .i64 (IE.var .i64 11) (AL.int .i64 (IE.var .i64 12) (AL.int .i64 (IE.var .i64 13) (AL.int .i64 (IE.var .i64 14) (AL.int .i64 (IE.var .i64 15) AL.nil))))))))) (IE.lit 1)) :: (BE.le (IE.lit (-1)) (IE.fn .i64 3 (AL.int .i64 (IE.var .i64 4) (AL.int .i64 (IE.var .i64 5) (AL.int .i64 (IE.var .i64 6) (AL.int .i64 (IE.var .i64 7) (AL.int .i64 (IE.var .i64 8) (AL.int .i64 (IE.var .i64 9) (AL.int .i64 (IE.var .i64 10) (AL.int .i64 (IE.var .i64 11) AL.nil)))))))))) :: (BE.le (IE.fn .i64 3 (AL.int .i64 (IE.var .i64 4) (AL.int .i64 (IE.var .i64 5) (AL.int .i64 (IE.var .i64 6) (AL.int .i64 (IE.var .i64 7) (AL.int .i64 (IE.var .i64 8) (AL.int .i64 (IE.var .i64 9) (AL.int .i64 (IE.var .i64 10) (AL.int .i64 (IE.var .i64 11) AL.nil))))))))) (IE.lit 1)) :: (BE.not (BE.fn 6 (AL.int .i64 (IE.var .i64 1) (AL.int .i64 (IE.var .i64 2) (AL.int .i64 (IE.var .i64 3) (AL.int .i64 (IE.var .i64 8) (AL.int .i64 (IE.var .i64 9) (AL.int .i64 (IE.var .i64 10) (AL.int .i64 (IE.var .i64 11) AL.nil))))))))) :: pcholds_3)
def pcholds_21 : List BE := ((BE.le (IE.lit (-1)) (IE.fn .i64 3 (AL.int .i64 (IE.var .i64 4) (AL.int .i64 (IE.var .i64 5) (AL.int .i64 (IE.var .i64 6) (AL.int .i64 (IE.var .i64 7) (AL.int .i64 (IE.var .i64 12) (AL.int .i64 (IE.var .i64 13) (AL.int .i64 (IE.var .i64 14) (AL.int .i64 (IE.var .i64 15) AL.nil)))))))))) :: (BE.le (IE.fn .i64 3 (AL.int .i64 (IE.var .i64 4) (AL.int .i64 (IE.var .i64 5) (AL.int .i64 (IE.var .i64 6) (AL.int .i64 (IE.var .i64 7) (AL.int .i64 (IE.var .i64 12) (AL.int .i64 (IE.var .i64 13) (AL.int .i64 (IE.var .i64 14) (AL.int .i64 (IE.var .i64 15) AL.nil))))))))) (IE.lit 1)) :: (BE.le (IE.lit (-1)) (IE.fn .i64 3 (AL.int .i64 (IE.var .i64 8) (AL.int .i64 (IE.var .i64 9) (AL.int .i64 (IE.var .i64 10) (AL.int .i64 (IE.var .i64 11) (AL.int .i64 (IE.var .i64 12) (AL.int .i64 (IE.var .i64 13) (AL.int .i64 (IE.var .i64 14) (AL.int .i64 (IE.var .i64 15) AL.nil)))))))))) :: (BE.le (IE.fn .i64 3 (AL.int .i64 (IE.var .i64 8) (AL.int .i64 (IE.var .i64 9) (AL.int .i64 (IE.var .i64 10) (AL.int .i64 (IE.var .i64 11) (AL.int .i64 (IE.var .i64 12) (AL.int .i64 (IE.var .i64 13) (AL.int .i64 (IE.var .i64 14) (AL.int .i64 (IE.var .i64 15) AL.nil))))))))) (IE.lit 1)) :: (BE.le (IE.lit (-1)) (IE.fn .i64 3 (AL.int .i64 (IE.var .i64 4) (AL.int .i64 (IE.var .i64 5) (AL.int .i64 (IE.var .i64 6) (AL.int .i64 (IE.var .i64 7) (AL.int .i64 (IE.var .i64 8) (AL.int .i64 (IE.var .i64 9) (AL.int .i64 (IE.var .i64 10) (AL.int .i64 (IE.var .i64 11) AL.nil)))))))))) :: (BE.le (IE.fn .i64 3 (AL.int .i64 (IE.var .i64 4) (AL.int .i64 (IE.var .i64 5) (AL.int .i64 (IE.var .i64 6) (AL.int .i64 (IE.var .i64 7) (AL.int .i64 (IE.var .i64 8) (AL.int .i64 (IE.var .i64 9) (AL.int .i64 (IE.var .i64 10) (AL.int .i64 (IE.var .i64 11) AL.nil))))))))) (IE.lit 1)) :: (BE.le (IE.add (IE.len (LE.fn 1 (AL.int .i64 (IE.var .i64 8) AL.nil))) (IE.add (IE.lit 1) (IE.add (IE.len (LE.fn 1 (AL.int .i64 (IE.var .i64 9) AL.nil))) (IE.add (IE.lit 1) (IE.add (IE.len (LE.fn 1 (AL.int .i64 (IE.var .i64 10) AL.nil))) (IE.add (IE.lit 1) (IE.len (LE.fn 1 (AL.int .i64 (IE.var .i64 11) AL.nil))))))))) (IE.lit 100)) :: (BE.fn 6 (AL.int .i64 (IE.var .i64 1) (AL.int .i64 (IE.var .i64 2) (AL.int .i64 (IE.var .i64 3) (AL.int .i64 (IE.var .i64 8) (AL.int .i64 (IE.var .i64 9) (AL.int .i64 (IE.var .i64 10) (AL.int .i64 (IE.var .i64 11) AL.nil)))))))) :: pcholds_2)
def pcholds_22 : List BE := ((BE.eq (IE.fn .i64 3 (AL.int .i64 (IE.var .i64 4) (AL.int .i64 (IE.var .i64 5) (AL.int .i64 (IE.var .i64 6) (AL.int .i64 (IE.var .i64 7) (AL.int .i64 (IE.var .i64 8) (AL.int .i64 (IE.var .i64 9) (AL.int .i64 (IE.var .i64 10) (AL.int .i64 (IE.var .i64 11) AL.nil))))))))) (IE.lit 0)) :: pcholds_16)
def pcholds_23 : List BE := ((BE.not (BE.eq (IE.fn .i64 3 (AL.int .i64 (IE.var .i64 4) (AL.int .i64 (IE.var .i64 5) (AL.int .i64 (IE.var .i64 6) (AL.int .i64 (IE.var .i64 7) (AL.int .i64 (IE.var .i64 8) (AL.int .i64 (IE.var .i64 9) (AL.int .i64 (IE.var .i64 10) (AL.int .i64 (IE.var .i64 11) AL.nil))))))))) (IE.lit 0))) :: pcholds_16)
def pcholds_24 : List BE := ((BE.eq (IE.var .i64 5) (IE.var .i64 9)) :: pcholds_17)
def pcholds_25 : List BE := ((BE.eq (IE.var .i64 5) (IE.var .i64 9)) :: pcholds_18)
def pcholds_26 : List BE := ((BE.not (BE.eq (IE.var .i64 5) (IE.var .i64 9))) :: pcholds_18)
def pcholds_27 : List BE := ((BE.le (IE.lit 0) (IE.fn .i64 3 (AL.int .i64 (IE.var .i64 4) (AL.int .i64 (IE.var .i64 5) (AL.int .i64 (IE.var .i64 6) (AL.int .i64 (IE.var .i64 7) (AL.int .i64 (IE.var .i64 8) (AL.int .i64 (IE.var .i64 9) (AL.int .i64 (IE.var .i64 10) (AL.int .i64 (IE.var .i64 11) AL.nil)))))))))) :: pcholds_19)
def pcholds_28 : List BE := ((BE.not (BE.le (IE.lit 0) (IE.fn .i64 3 (AL.int .i64 (IE.var .i64 4) (AL.int .i64 (IE.var .i64 5) (AL.int .i64 (IE.var .i64 6) (AL.int .i64 (IE.var .i64 7) (AL.int .i64 (IE.var .i64 8) (AL.int .i64 (IE.var .i64 9) (AL.int .i64 (IE.var .i64 10) (AL.int .i64 (IE.var .i64 11) AL.nil))))))))))) :: pcholds_19)
def pcholds_29 : List BE := ((BE.eq (IE.fn .i64 3 (AL.int .i64 (IE.var .i64 4) (AL.int .i64 (IE.var .i64 5) (AL.int .i64 (IE.var .i64 6) (AL.int .i64 (IE.var .i64 7) (AL.int .i64 (IE.var .i64 8) (AL.int .i64 (IE.var .i64 9) (AL.int .i64 (IE.var .i64 10) (AL.int .i64 (IE.var .i64 11) AL.nil))))))))) (IE.lit 0)) :: pcholds_20)
def pcholds_30 : List BE := ((BE.not (BE.eq (IE.fn .i64 3 (AL.int .i64 (IE.var .i64 4) (AL.int .i64 (IE.var .i64 5) (AL.int .i64 (IE.var .i64 6) (AL.int .i64 (IE.var .i64 7) (AL.int .i64 (IE.var .i64 8) (AL.int .i64 (IE.var .i64 9) (AL.int .i64 (IE.var .i64 10) (AL.int .i64 (IE.var .i64 11) AL.nil))))))))) (IE.lit 0))) :: pcholds_20)
def pcholds_31 : List BE := ((BE.eq (IE.fn .i64 3 (AL.int .i64 (IE.var .i64 4) (AL.int .i64 (IE.var .i64 5) (AL.int .i64 (IE.var .i64 6) (AL.int .i64 (IE.var .i64 7) (AL.int .i64 (IE.var .i64 8) (AL.int .i64 (IE.var .i64 9) (AL.int .i64 (IE.var .i64 10) (AL.int .i64 (IE.var .i64 11) AL.nil))))))))) (IE.lit 0)) :: pcholds_21)
def pcholds_32 : List BE := ((BE.not (BE.eq (IE.fn .i64 3 (AL.int .i64 (IE.var .i64 4) (AL.int .i64 (IE.var .i64 5) (AL.int .i64 (IE.var .i64 6) (AL.int .i64 (IE.var .i64 7) (AL.int .i64 (IE.var .i64 8) (AL.int .i64 (IE.var .i64 9) (AL.int .i64 (IE.var .i64 10) (AL.int .i64 (IE.var .i64 11) AL.nil))))))))) (IE.lit 0))) :: pcholds_21)
def pcholds_33 : List BE := ((BE.eq (IE.var .i64 4) (IE.var .i64 8)) :: pcholds_22)
def pcholds_34 : List BE := ((BE.eq (IE.var .i64 4) (IE.var .i64 8)) :: pcholds_23)
def pcholds_35 : List BE := ((BE.not (BE.eq (IE.var .i64 4) (IE.var .i64 8))) :: pcholds_23)
def pcholds_36 : List BE := ((BE.eq (IE.var .i64 6) (IE.var .i64 10)) :: pcholds_24)
def pcholds_37 : List BE := ((BE.eq (IE.var .i64 6) (IE.var .i64 10)) :: pcholds_25)
def pcholds_38 : List BE := ((BE.not (BE.eq (IE.var .i64 6) (IE.var .i64 10))) :: pcholds_25)
def pcholds_39 : List BE := ((BE.le (IE.lit 0) (IE.fn .i64 3 (AL.int .i64 (IE.var .i64 4) (AL.int .i64 (IE.var .i64 5) (AL.int .i64 (IE.var .i64 6) (AL.int .i64 (IE.var .i64 7) (AL.int .i64 (IE.var .i64 8) (AL.int .i64 (IE.var .i64 9) (AL.int .i64 (IE.var .i64 10) (AL.int .i64 (IE.var .i64 11) AL.nil)))))))))) :: pcholds_26)
def pcholds_40 : List BE := ((BE.not (BE.le (IE.lit 0) (IE.fn .i64 3 (AL.int .i64 (IE.var .i64 4) (AL.int .i64 (IE.var .i64 5) (AL.int .i64 (IE.var .i64 6) (AL.int .i64 (IE.var .i64 7) (AL.int .i64 (IE.var .i64 8) (AL.int .i64 (IE.var .i64 9) (AL.int .i64 (IE.var .i64 10) (AL.int .i64 (IE.var .i64 11) AL.nil))))))))))) :: pcholds_26)
def pcholds_41 : List BE := ((BE.not (BE.le (IE.fn .i64 3 (AL.int .i64 (IE.var .i64 8) (AL.int .i64 (IE.var .i64 9) (AL.int .i64 (IE.var .i64 10) (AL.int .i64 (IE.var .i64 11) (AL.int .i64 (IE.var .i64 12) (AL.int .i64 (IE.var .i64 13) (AL.int .i64 (IE.var .i64 14) (AL.int .i64 (IE.var .i64 15) AL.nil))))))))) (IE.lit 0))) :: pcholds_27)
def pcholds_42 : List BE := ((BE.not (BE.le (IE.lit 0) (IE.fn .i64 3 (AL.int .i64 (IE.var .i64 8) (AL.int .i64 (IE.var .i64 9) (AL.int .i64 (IE.var .i64 10) (AL.int .i64 (IE.var .i64 11) (AL.int .i64 (IE.var .i64 12) (AL.int .i64 (IE.var .i64 13) (AL.int .i64 (IE.var .i64 14) (AL.int .i64 (IE.var .i64 15) AL.nil))))))))))) :: pcholds_28)
def pcholds_43 : List BE := ((BE.eq (IE.var .i64 4) (IE.var .i64 8)) :: pcholds_29)
def pcholds_44 : List BE := ((BE.eq (IE.var .i64 4) (IE.var .i64 8)) :: pcholds_30)
def pcholds_45 : List BE := ((BE.not (BE.eq (IE.var .i64 4) (IE.var .i64 8))) :: pcholds_30)
def pcholds_46 : List BE := ((BE.eq (IE.var .i64 4) (IE.var .i64 8)) :: pcholds_31)
def pcholds_47 : List BE := ((BE.eq (IE.var .i64 4) (IE.var .i64 8)) :: pcholds_32)
def pcholds_48 : List BE := ((BE.not (BE.eq (IE.var .i64 4) (IE.var .i64 8))) :: pcholds_32)
def pcholds_49 : List BE := ((BE.eq (IE.var .i64 5) (IE.var .i64 9)) :: pcholds_33)
def pcholds_50 : List BE := ((BE.eq (IE.var .i64 5) (IE.var .i64 9)) :: pcholds_34)
def pcholds_51 : List BE := ((BE.not (BE.eq (IE.var .i64 5) (IE.var .i64 9))) :: pcholds_34)
def pcholds_52 : List BE := ((BE.le (IE.lit 0) (IE.fn .i64 3 (AL.int .i64 (IE.var .i64 4) (AL.int .i64 (IE.var .i64 5) (AL.int .i64 (IE.var .i64 6) (AL.int .i64 (IE.var .i64 7) (AL.int .i64 (IE.var .i64 8) (AL.int .i64 (IE.var .i64 9) (AL.int .i64 (IE.var .i64 10) (AL.int .i64 (IE.var .i64 11) AL.nil)))))))))) :: pcholds_35)
def pcholds_53 : List BE := ((BE.not (BE.le (IE.lit 0) (IE.fn .i64 3 (AL.int .i64 (IE.var .i64 4) (AL.int .i64 (IE.var .i64 5) (AL.int .i64 (IE.var .i64 6) (AL.int .i64 (IE.var .i64 7) (AL.int .i64 (IE.var .i64 8) (AL.int .i64 (IE.var .i64 9) (AL.int .i64 (IE.var .i64 10) (AL.int .i64 (IE.var .i64 11) AL.nil))))))))))) :: pcholds_35)
def pcholds_54 : List BE := ((BE.not (BE.eq (IE.var .i64 7) (IE.var .i64 11))) :: pcholds_37)
def pcholds_55 : List BE := ((BE.le (IE.lit 0) (IE.fn .i64 3 (AL.int .i64 (IE.var .i64 4) (AL.int .i64 (IE.var .i64 5) (AL.int .i64 (IE.var .i64 6) (AL.int .i64 (IE.var .i64 7) (AL.int .i64 (IE.var .i64 8) (AL.int .i64 (IE.var .i64 9) (AL.int .i64 (IE.var .i64 10) (AL.int .i64 (IE.var .i64 11) AL.nil)))))))))) :: pcholds_38)
def pcholds_56 : List BE := ((BE.not (BE.le (IE.lit 0) (IE.fn .i64 3 (AL.int .i64 (IE.var .i64 4) (AL.int .i64 (IE.var .i64 5) (AL.int .i64 (IE.var .i64 6) (AL.int .i64 (IE.var .i64 7) (AL.int .i64 (IE.var .i64 8) (AL.int .i64 (IE.var .i64 9) (AL.int .i64 (IE.var .i64 10) (AL.int .i64 (IE.var .i64 11) AL.nil))))))))))) :: pcholds_38)
def pcholds_57 : List BE := ((BE.not (BE.le (IE.fn .i64 3 (AL.int .i64 (IE.var .i64 8) (AL.int .i64 (IE.var .i64 9) (AL.int .i64 (IE.var .i64 10) (AL.int .i64 (IE.var .i64 11) (AL.int .i64 (IE.var .i64 12) (AL.int .i64 (IE.var .i64 13) (AL.int .i64 (IE.var .i64 14) (AL.int .i64 (IE.var .i64 15) AL.nil))))))))) (IE.lit 0))) :: pcholds_39)
def pcholds_58 : List BE := ((BE.not (BE.le (IE.lit 0) (IE.fn .i64 3 (AL.int .i64 (IE.var .i64 8) (AL.int .i64 (IE.var .i64 9) (AL.int .i64 (IE.var .i64 10) (AL.int .i64 (IE.var .i64 11) (AL.int .i64 (IE.var .i64 12) (AL.int .i64 (IE.var .i64 13) (AL.int .i64 (IE.var .i64 14) (AL.int .i64 (IE.var .i64 15) AL.nil))))))))))) :: pcholds_40)
def pcholds_59 : List BE := ((BE.le (IE.lit (-1)) (IE.fn .i64 3 (AL.int .i64 (IE.var .i64 4) (AL.int .i64 (IE.var .i64 5) (AL.int .i64 (IE.var .i64 6) (AL.int .i64 (IE.var .i64 7) (AL.int .i64 (IE.var .i64 12) (AL.int .i64 (IE.var .i64 13) (AL.int .i64 (IE.var .i64 14) (AL.int .i64 (IE.var .i64 15) AL.nil)))))))))) :: (BE.le (IE.fn .i64 3 (AL.int .i64 (IE.var .i64 4) (AL.int .i64 (IE.var .i64 5) (AL.int .i64 (IE.var .i64 6) (AL.int .i64 (IE.var .i64 7) (AL.int .i64 (IE.var .i64 12) (AL.int .i64 (IE.var .i64 13) (AL.int .i64 (IE.var .i64 14) (AL.int .i64 (IE.var .i64 15) AL.nil))))))))) (IE.lit 1)) :: (BE.le (IE.lit (-1)) (IE.fn .i64 3 (AL.int .i64 (IE.var .i64 8) (AL.int .i64 (IE.var .i64 9) (AL.int .i64 (IE.var .i64 10) (AL.int .i64 (IE.var .i64 11) (AL.int .i64 (IE.var .i64 12) (AL.int .i64 (IE.var .i64 13) (AL.int .i64 (IE.var .i64 14) (AL.int .i64 (IE.var .i64 15) AL.nil)))))))))) :: (BE.le (IE.fn .i64 3 (AL.int .i64 (IE.var .i64 8) (AL.int .i64 (IE.var .i64 9) (AL.int .i64 (IE.var .i64 10) (AL.int .i64 (IE.var .i64 11) (AL.int .i64 (IE.var .i64 12) (AL.int .i64 (IE.var .i64 13) (AL.int .i64 (IE.var .i64 14) (AL.int .i64 (IE.var .i64 15) AL.nil))))))))) (IE.lit 1)) :: (BE.le (IE.lit (-1)) (IE.fn .i64 3 (AL.int .i64 (IE.var .i64 4) (AL.int .i64 (IE.var .i64 5) (AL.int .i64 (IE.var .i64 6) (AL.int .i64 (IE.var .i64 7) (AL.int .i64 (IE.var .i64 8) (AL.int .i64 (IE.var .i64 9) (AL.int .i64 (IE.var .i64 10) (AL.int .i64 (IE.var .i64 11) AL.nil)))))))))) :: (BE.le (IE.fn .i64 3 (AL.int .i64 (IE.var .i64 4) (AL.int .i64 (IE.var .i64 5) (AL.int .i64 (IE.var .i64 6) (AL.int .i64 (IE.var .i64 7) (AL.int .i64 (IE.var .i64 8) (AL.int .i64 (IE.var .i64 9) (AL.int .i64 (IE.var .i64 10) (AL.int .i64 (IE.var .i64 11) AL.nil))))))))) (IE.lit 1)) :: (BE.not (BE.eq (IE.var .i64 4) (IE.var .i64 8))) :: pcholds_6)
def pcholds_60 : List BE := ((BE.eq (IE.var .i64 5) (IE.var .i64 9)) :: pcholds_43)
def pcholds_61 : List BE := ((BE.eq (IE.var .i64 5) (IE.var .i64 9)) :: pcholds_44)
def pcholds_62 : List BE := ((BE.not (BE.eq (IE.var .i64 5) (IE.var .i64 9))) :: pcholds_44)
def pcholds_63 : List BE := ((BE.le (IE.lit 0) (IE.fn .i64 3 (AL.int .i64 (IE.var .i64 4) (AL.int .i64 (IE.var .i64 5) (AL.int .i64 (IE.var .i64 6) (AL.int .i64 (IE.var .i64 7) (AL.int .i64 (IE.var .i64 8) (AL.int .i64 (IE.var .i64 9) (AL.int .i64 (IE.var .i64 10) (AL.int .i64 (IE.var .i64 11) AL.nil)))))))))) :: pcholds_45)
def pcholds_64 : List BE := ((BE.not (BE.le (IE.lit 0) (IE.fn .i64 3 (AL.int .i64 (IE.var .i64 4) (AL.int .i64 (IE.var .i64 5) (AL.int .i64 (IE.var .i64 6) (AL.int .i64 (IE.var .i64 7) (AL.int .i64 (IE.var .i64 8) (AL.int .i64 (IE.var .i64 9) (AL.int .i64 (IE.var .i64 10) (AL.int .i64 (IE.var .i64 11) AL.nil))))))))))) :: pcholds_45)
def pcholds_65 : List BE := ((BE.eq (IE.var .i64 5) (IE.var .i64 9)) :: pcholds_46)
def pcholds_66 : List BE := ((BE.eq (IE.var .i64 5) (IE.var .i64 9)) :: pcholds_47)
def pcholds_67 : List BE := ((BE.not (BE.eq (IE.var .i64 5) (IE.var .i64 9))) :: pcholds_47)
def pcholds_68 : List BE := ((BE.le (IE.lit 0) (IE.fn .i64 3 (AL.int .i64 (IE.var .i64 4) (AL.int .i64 (IE.var .i64 5) (AL.int .i64 (IE.var .i64 6) (AL.int .i64 (IE.var .i64 7) (AL.int .i64 (IE.var .i64 8) (AL.int .i64 (IE.var .i64 9) (AL.int .i64 (IE.var .i64 10) (AL.int .i64 (IE.var .i64 11) AL.nil)))))))))) :: pcholds_48)
def pcholds_69 : List BE := ((BE.not (BE.le (IE.lit 0) (IE.fn .i64 3 (AL.int .i64 (IE.var .i64 4) (AL.int .i64 (IE.var .i64 5) (AL.int .i64 (IE.var .i64 6) (AL.int .i64 (IE.var .i64 7) (AL.int .i64 (IE.var .i64 8) (AL.int .i64 (IE.var .i64 9) (AL.int .i64 (IE.var .i64 10) (AL.int .i64 (IE.var .i64 11) AL.nil))))))))))) :: pcholds_48)
def pcholds_70 : List BE := ((BE.eq (IE.var .i64 6) (IE.var .i64 10)) :: pcholds_49)
def pcholds_71 : List BE := ((BE.eq (IE.var .i64 6) (IE.var .i64 10)) :: pcholds_50)
def pcholds_72 : List BE := ((BE.not (BE.eq (IE.var .i64 6) (IE.var .i64 10))) :: pcholds_50)
def pcholds_73 : List BE := ((BE.le (IE.lit 0) (IE.fn .i64 3 (AL.int .i64 (IE.var .i64 4) (AL.int .i64 (IE.var .i64 5) (AL.int .i64 (IE.var .i64 6) (AL.int .i64 (IE.var .i64 7) (AL.int .i64 (IE.var .i64 8) (AL.int .i64 (IE.var .i64 9) (AL.int .i64 (IE.var .i64 10) (AL.int .i64 (IE.var .i64 11) AL.nil)))))))))) :: pcholds_51)
def pcholds_74 : List BE := ((BE.not (BE.le (IE.lit 0) (IE.fn .i64 3 (AL.int .i64 (IE.var .i64 4) (AL.int .i64 (IE.var .i64 5) (AL.int .i64 (IE.var .i64 6) (AL.int .i64 (IE.var .i64 7) (AL.int .i64 (IE.var .i64 8) (AL.int .i64 (IE.var .i64 9) (AL.int .i64 (IE.var .i64 10) (AL.int .i64 (IE.var .i64 11) AL.nil))))))))))) :: pcholds_51)
def pcholds_75 : List BE := ((BE.not (BE.le (IE.fn .i64 3 (AL.int .i64 (IE.var .i64 8) (AL.int .i64 (IE.var .i64 9) (AL.int .i64 (IE.var .i64 10) (AL.int .i64 (IE.var .i64 11) (AL.int .i64 (IE.var .i64 12) (AL.int .i64 (IE.var .i64 13) (AL.int .i64 (IE.var .i64 14) (AL.int .i64 (IE.var .i64 15) AL.nil))))))))) (IE.lit 0))) :: pcholds_52)
def pcholds_76 : List BE := ((BE.not (BE.le (IE.lit 0) (IE.fn .i64 3 (AL.int .i64 (IE.var .i64 8) (AL.int .i64 (IE.var .i64 9) (AL.int .i64 (IE.var .i64 10) (AL.int .i64 (IE.var .i64 11) (AL.int .i64 (IE.var .i64 12) (AL.int .i64 (IE.var .i64 13) (AL.int .i64 (IE.var .i64 14) (AL.int .i64 (IE.var .i64 15) AL.nil))))))))))) :: pcholds_53)
def pcholds_77 : List BE := ((BE.le (IE.lit 0) (IE.fn .i64 3 (AL.int .i64 (IE.var .i64 4) (AL.int .i64 (IE.var .i64 5) (AL.int .i64 (IE.var .i64 6) (AL.int .i64 (IE.var .i64 7) (AL.int .i64 (IE.var .i64 8) (AL.int .i64 (IE.var .i64 9) (AL.int .i64 (IE.var .i64 10) (AL.int .i64 (IE.var .i64 11) AL.nil)))))))))) :: pcholds_54)
def pcholds_78 : List BE := ((BE.not (BE.le (IE.lit 0) (IE.fn .i64 3 (AL.int .i64 (IE.var .i64 4) (AL.int .i64 (IE.var .i64 5) (AL.int .i64 (IE.var .i64 6) (AL.int .i64 (IE.var .i64 7) (AL.int .i64 (IE.var .i64 8) (AL.int .i64 (IE.var .i64 9) (AL.int .i64 (IE.var .i64 10) (AL.int .i64 (IE.var .i64 11) AL.nil))))))))))) :: pcholds_54)
def pcholds_79 : List BE := ((BE.not (BE.le (IE.fn .i64 3 (AL.int .i64 (IE.var .i64 8) (AL.int .i64 (IE.var .i64 9) (AL.int .i64 (IE.var .i64 10) (AL.int .i64 (IE.var .i64 11) (AL.int .i64 (IE.var .i64 12) (AL.int .i64 (IE.var .i64 13) (AL.int .i64 (IE.var .i64 14) (AL.int .i64 (IE.var .i64 15) AL.nil))))))))) (IE.lit 0))) :: pcholds_55)
def pcholds_80 : List BE := ((BE.not (BE.le (IE.lit 0) (IE.fn .i64 3 (AL.int .i64 (IE.var .i64 8) (AL.int .i64 (IE.var .i64 9) (AL.int .i64 (IE.var .i64 10) (AL.int .i64 (IE.var .i64 11) (AL.int .i64 (IE.var .i64 12) (AL.int .i64 (IE.var .i64 13) (AL.int .i64 (IE.var .i64 14) (AL.int .i64 (IE.var .i64 15) AL.nil))))))))))) :: pcholds_56)
def pcholds_81 : List BE := ((BE.le (IE.lit (-1)) (IE.fn .i64 3 (AL.int .i64 (IE.var .i64 4) (AL.int .i64 (IE.var .i64 5) (AL.int .i64 (IE.var .i64 6) (AL.int .i64 (IE.var .i64 7) (AL.int .i64 (IE.var .i64 12) (AL.int .i64 (IE.var .i64 13) (AL.int .i64 (IE.var .i64 14) (AL.int .i64 (IE.var .i64 15) AL.nil)))))))))) :: (BE.le (IE.fn .i64 3 (AL.int .i64 (IE.var .i64 4) (AL.int .i64 (IE.var .i64 5) (AL.int .i64 (IE.var .i64 6) (AL.int .i64 (IE.var .i64 7) (AL.int .i64 (IE.var .i64 12) (AL.int .i64 (IE.var .i64 13) (AL.int .i64 (IE.var .i64 14) (AL.int .i64 (IE.var .i64 15) AL.nil))))))))) (IE.lit 1)) :: (BE.le (IE.lit (-1)) (IE.fn .i64 3 (AL.int .i64 (IE.var .i64 8) (AL.int .i64 (IE.var .i64 9) (AL.int .i64 (IE.var .i64 10) (AL.int .i64 (IE.var .i64 11) (AL.int .i64 (IE.var .i64 12) (AL.int .i64 (IE.var .i64 13) (AL.int .i64 (IE.var .i64 14) (AL.int .i64 (IE.var .i64 15) AL.nil)))))))))) :: (BE.le (IE.fn .i64 3 (AL.int .i64 (IE.var .i64 8) (AL.int .i64 (IE.var .i64 9) (AL.int .i64 (IE.var .i64 10) (AL.int .i64 (IE.var .i64 11) (AL.int .i64 (IE.var .i64 12) (AL.int .i64 (IE.var .i64 13) (AL.int .i64 (IE.var .i64 14) (AL.int .i64 (IE.var .i64 15) AL.nil))))))))) (IE.lit 1)) :: (BE.le (IE.lit (-1)) (IE.fn .i64 3 (AL.int .i64 (IE.var .i64 4) (AL.int .i64 (IE.var .i64 5) (AL.int .i64 (IE.var .i64 6) (AL.int .i64 (IE.var .i64 7) (AL.int .i64 (IE.var .i64 8) (AL.int .i64 (IE.var .i64 9) (AL.int .i64 (IE.var .i64 10) (AL.int .i64 (IE.var .i64 11) AL.nil)))))))))) :: (BE.le (IE.fn .i64 3 (AL.int .i64 (IE.var .i64 4) (AL.int .i64 (IE.var .i64 5) (AL.int .i64 (IE.var .i64 6) (AL.int .i64 (IE.var .i64 7) (AL.int .i64 (IE.var .i64 8) (AL.int .i64 (IE.var .i64 9) (AL.int .i64 (IE.var .i64 10) (AL.int .i64 (IE.var .i64 11) AL.nil))))))))) (IE.lit 1)) :: (BE.not (BE.eq (IE.var .i64 5) (IE.var .i64 9))) :: pcholds_8)
def pcholds_82 : List BE := ((BE.not (BE.eq (IE.fn .i64 3 (AL.int .i64 (IE.var .i64 4) (AL.int .i64 (IE.var .i64 5) (AL.int .i64 (IE.var .i64 6) (AL.int .i64 (IE.var .i64 7) (AL.int .i64 (IE.var .i64 8) (AL.int .i64 (IE.var .i64 9) (AL.int .i64 (IE.var .i64 10) (AL.int .i64 (IE.var .i64 11) AL.nil))))))))) (IE.lit 0))) :: pcholds_59)
def pcholds_83 : List BE := ((BE.eq (IE.var .i64 6) (IE.var .i64 10)) :: pcholds_60)
def pcholds_84 : List BE := ((BE.eq (IE.var .i64 6) (IE.var .i64 10)) :: pcholds_61)
def pcholds_85 : List BE := ((BE.not (BE.eq (IE.var .i64 6) (IE.var .i64 10))) :: pcholds_61)
def pcholds_86 : List BE := ((BE.le (IE.lit 0) (IE.fn .i64 3 (AL.int .i64 (IE.var .i64 4) (AL.int .i64 (IE.var .i64 5) (AL.int .i64 (IE.var .i64 6) (AL.int .i64 (IE.var .i64 7) (AL.int .i64 (IE.var .i64 8) (AL.int .i64 (IE.var .i64 9) (AL.int .i64 (IE.var .i64 10) (AL.int .i64 (IE.var .i64 11) AL.nil)))))))))) :: pcholds_62)
def pcholds_87 : List BE := ((BE.not (BE.le (IE.lit 0) (IE.fn .i64 3 (AL.int .i64 (IE.var .i64 4) (AL.int .i64 (IE.var .i64 5) (AL.int .i64 (IE.var .i64 6) (AL.int .i64 (IE.var .i64 7) (AL.int .i64 (IE.var .i64 8) (AL.int .i64 (IE.var .i64 9) (AL.int .i64 (IE.var .i64 10) (AL.int .i64 (IE.var .i64 11) AL.nil))))))))))) :: pcholds_62)
def pcholds_88 : List BE := ((BE.not (BE.le (IE.fn .i64 3 (AL.int .i64 (IE.var .i64 8) (AL.int .i64 (IE.var .i64 9) (AL.int .i64 (IE.var .i64 10) (AL.int .i64 (IE.var .i64 11) (AL.int .i64 (IE.var .i64 12) (AL.int .i64 (IE.var .i64 13) (AL.int .i64 (IE.var .i64 14) (AL.int .i64 (IE.var .i64 15) AL.nil))))))))) (IE.lit 0))) :: pcholds_63)
def pcholds_89 : List BE := ((BE.not (BE.le (IE.lit 0) (IE.fn .i64 3 (AL.int .i64 (IE.var .i64 8) (AL.int .i64 (IE.var .i64 9) (AL.int .i64 (IE.var .i64 10) (AL.int .i64 (IE.var .i64 11) (AL.int .i64 (IE.var .i64 12) (AL.int .i64 (IE.var .i64 13) (AL.int .i64 (IE.var .i64 14) (AL.int .i64 (IE.var .i64 15) AL.nil))))))))))) :: pcholds_64)
def pcholds_90 : List BE := ((BE.eq (IE.var .i64 6) (IE.var .i64 10)) :: pcholds_65)
def pcholds_91 : List BE := ((BE.eq (IE.var .i64 6) (IE.var .i64 10)) :: pcholds_66)
def pcholds_92 : List BE := ((BE.not (BE.eq (IE.var .i64 6) (IE.var .i64 10))) :: pcholds_66)
def pcholds_93 : List BE := ((BE.le (IE.lit 0) (IE.fn .i64 3 (AL.int .i64 (IE.var .i64 4) (AL.int .i64 (IE.var .i64 5) (AL.int .i64 (IE.var .i64 6) (AL.int .i64 (IE.var .i64 7) (AL.int .i64 (IE.var .i64 8) (AL.int .i64 (IE.var .i64 9) (AL.int .i64 (IE.var .i64 10) (AL.int .i64 (IE.var .i64 11) AL.nil)))))))))) :: pcholds_67)
def pcholds_94 : List BE := ((BE.not (BE.le (IE.lit 0) (IE.fn .i64 3 (AL.int .i64 (IE.var .i64 4) (AL.int .i64 (IE.var .i64 5) (AL.int .i64 (IE.var .i64 6) (AL.int .i64 (IE.var .i64 7) (AL.int .i64 (IE.var .i64 8) (AL.int .i64 (IE.var .i64 9) (AL.int .i64 (IE.var .i64 10) (AL.int .i64 (IE.var .i64 11) AL.nil))))))))))) :: pcholds_67)
def pcholds_95 : List BE := ((BE.not (BE.le (IE.fn .i64 3 (AL.int .i64 (IE.var .i64 8) (AL.int .i64 (IE.var .i64 9) (AL.int .i64 (IE.var .i64 10) (AL.int .i64 (IE.var .i64 11) (AL.int .i64 (IE.var .i64 12) (AL.int .i64 (IE.var .i64 13) (AL.int .i64 (IE.var .i64 14) (AL.int .i64 (IE.var .i64 15) AL.nil))))))))) (IE.lit 0))) :: pcholds_68)
def pcholds_96 : List BE := ((BE.not (BE.le (IE.lit 0) (IE.fn .i64 3 (AL.int .i64 (IE.var .i64 8) (AL.int .i64 (IE.var .i64 9) (AL.int .i64 (IE.var .i64 10) (AL.int .i64 (IE.var .i64 11) (AL.int .i64 (IE.var .i64 12) (AL.int .i64 (IE.var .i64 13) (AL.int .i64 (IE.var .i64 14) (AL.int .i64 (IE.var .i64 15) AL.nil))))))))))) :: pcholds_69)
def pcholds_97 : List BE := ((BE.not (BE.eq (IE.var .i64 7) (IE.var .i64 11))) :: pcholds_71)
def pcholds_98 : List BE := ((BE.le (IE.lit 0) (IE.fn .i64 3 (AL.int .i64 (IE.var .i64 4) (AL.int .i64 (IE.var .i64 5) (AL.int .i64 (IE.var .i64 6) (AL.int .i64 (IE.var .i64 7) (AL.int .i64 (IE.var .i64 8) (AL.int .i64 (IE.var .i64 9) (AL.int .i64 (IE.var .i64 10) (AL.int .i64 (IE.var .i64 11) AL.nil)))))))))) :: pcholds_72)
def pcholds_99 : List BE := ((BE.not (BE.le (IE.lit 0) (IE.fn .i64 3 (AL.int .i64 (IE.var .i64 4) (AL.int .i64 (IE.var .i64 5) (AL.int .i64 (IE.var .i64 6) (AL.int .i64 (IE.var .i64 7) (AL.int .i64 (IE.var .i64 8) (AL.int .i64 (IE.var .i64 9) (AL.int .i64 (IE.var .i64 10) (AL.int .i64 (IE.var .i64 11) AL.nil))))))))))) :: pcholds_72)
def pcholds_100 : List BE := ((BE.not (BE.le (IE.fn .i64 3 (AL.int .i64 (IE.var .i64 8) (AL.int .i64 (IE.var .i64 9) (AL.int .i64 (IE.var .i64 10) (AL.int .i64 (IE.var .i64 11) (AL.int .i64 (IE.var .i64 12) (AL.int .i64 (IE.var .i64 13) (AL.int .i64 (IE.var .i64 14) (AL.int .i64 (IE.var .i64 15) AL.nil))))))))) (IE.lit 0))) :: pcholds_73)
def pcholds_101 : List BE := ((BE.not (BE.le (IE.lit 0) (IE.fn .i64 3 (AL.int .i64 (IE.var .i64 8) (AL.int .i64 (IE.var .i64 9) (AL.int .i64 (IE.var .i64 10) (AL.int .i64 (IE.var .i64 11) (AL.int .i64 (IE.var .i64 12) (AL.int .i64 (IE.var .i64 13) (AL.int .i64 (IE.var .i64 14) (AL.int .i64 (IE.var .i64 15) AL.nil))))))))))) :: pcholds_74)
def pcholds_102 : List BE := ((BE.not (BE.le (IE.fn .i64 3 (AL.int .i64 (IE.var .i64 8) (AL.int .i64 (IE.var .i64 9) (AL.int .i64 (IE.var .i64 10) (AL.int .i64 (IE.var .i64 11) (AL.int .i64 (IE.var .i64 12) (AL.int .i64 (IE.var .i64 13) (AL.int .i64 (IE.var .i64 14) (AL.int .i64 (IE.var .i64 15) AL.nil))))))))) (IE.lit 0))) :: pcholds_77)
def pcholds_103 : List BE := ((BE.not (BE.le (IE.lit 0) (IE.fn .i64 3 (AL.int .i64 (IE.var .i64 8) (AL.int .i64 (IE.var .i64 9) (AL.int .i64 (IE.var .i64 10) (AL.int .i64 (IE.var .i64 11) (AL.int .i64 (IE.var .i64 12) (AL.int .i64 (IE.var .i64 13) (AL.int .i64 (IE.var .i64 14) (AL.int .i64 (IE.var .i64 15) AL.nil))))))))))) :: pcholds_78)
def pcholds_104 : List BE := ((BE.le (IE.lit (-1)) (IE.fn .i64 3 (AL.int .i64 (IE.var .i64 4) (AL.int .i64 (IE.var .i64 5) (AL.int .i64 (IE.var .i64 6) (AL.int .i64 (IE.var .i64 7) (AL.int .i64 (IE.var .i64 12) (AL.int .i64 (IE.var .i64 13) (AL.int .i64 (IE.var .i64 14) (AL.int .i64 (IE.var .i64 15) AL.nil)))))))))) :: (BE.le (IE.fn .i64 3 (AL.int .i64 (IE.var .i64 4) (AL.int .i64 (IE.var .i64 5) (AL.int .i64 (IE.var .i64 6) (AL.int .i64 (IE.var .i64 7) (AL.int .i64 (IE.var .i64 12) (AL.int .i64 (IE.var .i64 13) (AL.int .i64 (IE.var .i64 14) (AL.int .i64 (IE.var .i64 15) AL.nil))))))))) (IE.lit 1)) :: (BE.le (IE.lit (-1)) (IE.fn .i64 3 (AL.int .i64 (IE.var .i64 8) (AL.int .i64 (IE.var .i64 9) (AL.int .i64 (IE.var .i64 10) (AL.int .i64 (IE.var .i64 11) (AL.int .i64 (IE.var .i64 12) (AL.int .i64 (IE.var .i64 13) (AL.int .i64 (IE.var .i64 14) (AL.int .i64 (IE.var .i64 15) AL.nil)))))))))) :: (BE.le (IE.fn .i64 3 (AL.int .i64 (IE.var .i64 8) (AL.int .i64 (IE.var .i64 9) (AL.int .i64 (IE.var .i64 10) (AL.int .i64 (IE.var .i64 11) (AL.int .i64 (IE.var .i64 12) (AL.int .i64 (IE.var .i64 13) (AL.int .i64 (IE.var .i64 14) (AL.int .i64 (IE.var .i64 15) AL.nil))))))))) (IE.lit 1)) :: (BE.le (IE.lit (-1)) (IE.fn .i64 3 (AL.int .i64 (IE.var .i64 4) (AL.int .i64 (IE.var .i64 5) (AL.int .i64 (IE.var .i64 6) (AL.int .i64 (IE.var .i64 7) (AL.int .i64 (IE.var .i64 8) (AL.int .i64 (IE.var .i64 9) (AL.int .i64 (IE.var .i64 10) (AL.int .i64 (IE.var .i64 11) AL.nil)))))))))) :: (BE.le (IE.fn .i64 3 (AL.int .i64 (IE.var .i64 4) (AL.int .i64 (IE.var .i64 5) (AL.int .i64 (IE.var .i64 6) (AL.int .i64 (IE.var .i64 7) (AL.int .i64 (IE.var .i64 8) (AL.int .i64 (IE.var .i64 9) (AL.int .i64 (IE.var .i64 10) (AL.int .i64 (IE.var .i64 11) AL.nil))))))))) (IE.lit 1)) :: (BE.not (BE.eq (IE.var .i64 6) (IE.var .i64 10))) :: pcholds_11)
def pcholds_105 : List BE := ((BE.not (BE.eq (IE.fn .i64 3 (AL.int .i64 (IE.var .i64 4) (AL.int .i64 (IE.var .i64 5) (AL.int .i64 (IE.var .i64 6) (AL.int .i64 (IE.var .i64 7) (AL.int .i64 (IE.var .i64 8) (AL.int .i64 (IE.var .i64 9) (AL.int .i64 (IE.var .i64 10) (AL.int .i64 (IE.var .i64 11) AL.nil))))))))) (IE.lit 0))) :: pcholds_81)
def pcholds_106 : List BE := ((BE.le (IE.lit 0) (IE.fn .i64 3 (AL.int .i64 (IE.var .i64 4) (AL.int .i64 (IE.var .i64 5) (AL.int .i64 (IE.var .i64 6) (AL.int .i64 (IE.var .i64 7) (AL.int .i64 (IE.var .i64 8) (AL.int .i64 (IE.var .i64 9) (AL.int .i64 (IE.var .i64 10) (AL.int .i64 (IE.var .i64 11) AL.nil)))))))))) :: pcholds_82)
def pcholds_107 : List BE := ((BE.not (BE.le (IE.lit 0) (IE.fn .i64 3 (AL.int .i64 (IE.var .i64 4) (AL.int .i64 (IE.var .i64 5) (AL.int .i64 (IE.var .i64 6) (AL.int .i64 (IE.var .i64 7) (AL.int .i64 (IE.var .i64 8) (AL.int .i64 (IE.var .i64 9) (AL.int .i64 (IE.var .i64 10) (AL.int .i64 (IE.var .i64 11) AL.nil))))))))))) :: pcholds_82)
def pcholds_108 : List BE := ((BE.not (BE.eq (IE.var .i64 7) (IE.var .i64 11))) :: pcholds_84)
def pcholds_109 : List BE := ((BE.le (IE.lit 0) (IE.fn .i64 3 (AL.int .i64 (IE.var .i64 4) (AL.int .i64 (IE.var .i64 5) (AL.int .i64 (IE.var .i64 6) (AL.int .i64 (IE.var .i64 7) (AL.int .i64 (IE.var .i64 8) (AL.int .i64 (IE.var .i64 9) (AL.int .i64 (IE.var .i64 10) (AL.int .i64 (IE.var .i64 11) AL.nil)))))))))) :: pcholds_85)
def pcholds_110 : List BE := ((BE.not (BE.le (IE.lit 0) (IE.fn .i64 3 (AL.int .i64 (IE.var .i64 4) (AL.int .i64 (IE.var .i64 5) (AL.int .i64 (IE.var .i64 6) (AL.int .i64 (IE.var .i64 7) (AL.int .i64 (IE.var .i64 8) (AL.int .i64 (IE.var .i64 9) (AL.int .i64 (IE.var .i64 10) (AL.int .i64 (IE.var .i64 11) AL.nil))))))))))) :: pcholds_85)
def pcholds_111 : List BE := ((BE.not (BE.le (IE.fn .i64 3 (AL.int .i64 (IE.var .i64 8) (AL.int .i64 (IE.var .i64 9) (AL.int .i64 (IE.var .i64 10) (AL.int .i64 (IE.var .i64 11) (AL.int .i64 (IE.var .i64 12) (AL.int .i64 (IE.var .i64 13) (AL.int .i64 (IE.var .i64 14) (AL.int .i64 (IE.var .i64 15) AL.nil))))))))) (IE.lit 0))) :: pcholds_86)
def pcholds_112 : List BE := ((BE.not (BE.le (IE.lit 0) (IE.fn .i64 3 (AL.int .i64 (IE.var .i64 8) (AL.int .i64 (IE.var .i64 9) (AL.int .i64 (IE.var .i64 10) (AL.int .i64 (IE.var .i64 11) (AL.int .i64 (IE.var .i64 12) (AL.int .i64 (IE.var .i64 13) (AL.int .i64 (IE.var .i64 14) (AL.int .i64 (IE.var .i64 15) AL.nil))))))))))) :: pcholds_87)
def pcholds_113 : List BE := ((BE.not (BE.eq (IE.var .i64 7) (IE.var .i64 11))) :: pcholds_91)
def pcholds_114 : List BE := ((BE.le (IE.lit 0) (IE.fn .i64 3 (AL.int .i64 (IE.var .i64 4) (AL.int .i64 (IE.var .i64 5) (AL.int .i64 (IE.var .i64 6) (AL.int .i64 (IE.var .i64 7) (AL.int .i64 (IE.var .i64 8) (AL.int .i64 (IE.var .i64 9) (AL.int .i64 (IE.var .i64 10) (AL.int .i64 (IE.var .i64 11) AL.nil)))))))))) :: pcholds_92)
def pcholds_115 : List BE := ((BE.not (BE.le (IE.lit 0) (IE.fn .i64 3 (AL.int .i64 (IE.var .i64 4) (AL.int .i64 (IE.var .i64 5) (AL.int .i64 (IE.var .i64 6) (AL.int .i64 (IE.var .i64 7) (AL.int .i64 (IE.var .i64 8) (AL.int .i64 (IE.var .i64 9) (AL.int .i64 (IE.var .i64 10) (AL.int .i64 (IE.var .i64 11) AL.nil))))))))))) :: pcholds_92)
def pcholds_116 : List BE := ((BE.not (BE.le (IE.fn .i64 3 (AL.int .i64 (IE.var .i64 8) (AL.int .i64 (IE.var .i64 9) (AL.int .i64 (IE.var .i64 10) (AL.int .i64 (IE.var .i64 11) (AL.int .i64 (IE.var .i64 12) (AL.int .i64 (IE.var .i64 13) (AL.int .i64 (IE.var .i64 14) (AL.int .i64 (IE.var .i64 15) AL.nil))))))))) (IE.lit 0))) :: pcholds_93)
def pcholds_117 : List BE := ((BE.not (BE.le (IE.lit 0) (IE.fn .i64 3 (AL.int .i64 (IE.var .i64 8) (AL.int .i64 (IE.var .i64 9) (AL.int .i64 (IE.var .i64 10) (AL.int .i64 (IE.var .i64 11) (AL.int .i64 (IE.var .i64 12) (AL.int .i64 (IE.var .i64 13) (AL.int .i64 (IE.var .i64 14) (AL.int .i64 (IE.var .i64 15) AL.nil))))))))))) :: pcholds_94)
def pcholds_118 : List BE := ((BE.le (IE.lit 0) (IE.fn .i64 3 (AL.int .i64 (IE.var .i64 4) (AL.int .i64 (IE.var .i64 5) (AL.int .i64 (IE.var .i64 6) (AL.int .i64 (IE.var .i64 7) (AL.int .i64 (IE.var .i64 8) (AL.int .i64 (IE.var .i64 9) (AL.int .i64 (IE.var .i64 10) (AL.int .i64 (IE.var .i64 11) AL.nil)))))))))) :: pcholds_97)
def pcholds_119 : List BE := ((BE.not (BE.le (IE.lit 0) (IE.fn .i64 3 (AL.int .i64 (IE.var .i64 4) (AL.int .i64 (IE.var .i64 5) (AL.int .i64 (IE.var .i64 6) (AL.int .i64 (IE.var .i64 7) (AL.int .i64 (IE.var .i64 8) (AL.int .i64 (IE.var .i64 9) (AL.int .i64 (IE.var .i64 10) (AL.int .i64 (IE.var .i64 11) AL.nil))))))))))) :: pcholds_97)
def pcholds_120 : List BE := ((BE.not (BE.le (IE.fn .i64 3 (AL.int .i64 (IE.var .i64 8) (AL.int .i64 (IE.var .i64 9) (AL.int .i64 (IE.var .i64 10) (AL.int .i64 (IE.var .i64 11) (AL.int .i64 (IE.var .i64 12) (AL.int .i64 (IE.var .i64 13) (AL.int .i64 (IE.var .i64 14) (AL.int .i64 (IE.var .i64 15) AL.nil))))))))) (IE.lit 0))) :: pcholds_98)
def pcholds_121 : List BE := ((BE.not (BE.le (IE.lit 0) (IE.fn .i64 3 (AL.int .i64 (IE.var .i64 8) (AL.int .i64 (IE.var .i64 9) (AL.int .i64 (IE.var .i64 10) (AL.int .i64 (IE.var .i64 11) (AL.int .i64 (IE.var .i64 12) (AL.int .i64 (IE.var .i64 13) (AL.int .i64 (IE.var .i64 14) (AL.int .i64 (IE.var .i64 15) AL.nil))))))))))) :: pcholds_99)
def pcholds_122 : List BE := ((BE.le (IE.lit (-1)) (IE.fn .i64 3 (AL.int .i64 (IE.var .i64 4) (AL.int .i64 (IE.var .i64 5) (AL.int .i64 (IE.var .i64 6) (AL.int .i64 (IE.var .i64 7) (AL.int .i64 (IE.var .i64 12) (AL.int .i64 (IE.var .i64 13) (AL.int .i64 (IE.var .i64 14) (AL.int .i64 (IE.var .i64 15) AL.nil)))))))))) :: (BE.le (IE.fn .i64 3 (AL.int .i64 (IE.var .i64 4) (AL.int .i64 (IE.var .i64 5) (AL.int .i64 (IE.var .i64 6) (AL.int .i64 (IE.var .i64 7) (AL.int .i64 (IE.var .i64 12) (AL.int .i64 (IE.var .i64 13) (AL.int .i64 (IE.var .i64 14) (AL.int .i64 (IE.var .i64 15) AL.nil))))))))) (IE.lit 1)) :: (BE.le (IE.lit (-1)) (IE.fn .i64 3 (AL.int .i64 (IE.var .i64 8) (AL.int .i64 (IE.var .i64 9) (AL.int .i64 (IE.var .i64 10) (AL.int .i64 (IE.var .i64 11) (AL.int .i64 (IE.var .i64 12) (AL.int .i64 (IE.var .i64 13) (AL.int .i64 (IE.var .i64 14) (AL.int .i64 (IE.var .i64 15) AL.nil)))))))))) :: (BE.le (IE.fn .i64 3 (AL.int .i64 (IE.var .i64 8) (AL.int .i64 (IE.var .i64 9) (AL.int .i64 (IE.var .i64 10) (AL.int .i64 (IE.var .i64 11) (AL.int .i64 (IE.var .i64 12) (AL.int .i64 (IE.var .i64 13) (AL.int .i64 (IE.var .i64 14) (AL.int .i64 (IE.var .i64 15) AL.nil))))))))) (IE.lit 1)) :: (BE.le (IE.lit (-1)) (IE.fn .i64 3 (AL.int .i64 (IE.var .i64 4) (AL.int .i64 (IE.var .i64 5) (AL.int .i64 (IE.var .i64 6) (AL.int .i64 (IE.var .i64 7) (AL.int .i64 (IE.var .i64 8) (AL.int .i64 (IE.var .i64 9) (AL.int .i64 (IE.var .i64 10) (AL.int .i64 (IE.var .i64 11) AL.nil)))))))))) :: (BE.le (IE.fn .i64 3 (AL.int .i64 (IE.var .i64 4) (AL.int .i64 (IE.var .i64 5) (AL.int .i64 (IE.var .i64 6) (AL.int .i64 (IE.var .i64 7) (AL.int .i64 (IE.var .i64 8) (AL.int .i64 (IE.var .i64 9) (AL.int .i64 (IE.var .i64 10) (AL.int .i64 (IE.var .i64 11) AL.nil))))))))) (IE.lit 1)) :: (BE.eq (IE.var .i64 7) (IE.var .i64 11)) :: pcholds_14)
def pcholds_123 : List BE := ((BE.le (IE.lit (-1)) (IE.fn .i64 3 (AL.int .i64 (IE.var .i64 4) (AL.int .i64 (IE.var .i64 5) (AL.int .i64 (IE.var .i64 6) (AL.int .i64 (IE.var .i64 7) (AL.int .i64 (IE.var .i64 12) (AL.int .i64 (IE.var .i64 13) (AL.int .i64 (IE.var .i64 14) (AL.int .i64 (IE.var .i64 15) AL.nil)))))))))) :: (BE.le (IE.fn .i64 3 (AL.int .i64 (IE.var .i64 4) (AL.int .i64 (IE.var .i64 5) (AL.int .i64 (IE.var .i64 6) (AL.int .i64 (IE.var .i64 7) (AL.int .i64 (IE.var .i64 12) (AL.int .i64 (IE.var .i64 13) (AL.int .i64 (IE.var .i64 14) (AL.int .i64 (IE.var .i64 15) AL.nil))))))))) (IE.lit 1)) :: (BE.le (IE.lit (-1)) (IE.fn .i64 3 (AL.int .i64 (IE.var .i64 8) (AL.int .i64 (IE.var .i64 9) (AL.int .i64 (IE.var .i64 10) (AL.int .i64 (IE.var .i64 11) (AL.int .i64 (IE.var .i64 12) (AL.int .i64 (IE.var .i64 13) (AL.int .i64 (IE.var .i64 14) (AL.int .i64 (IE.var .i64 15) AL.nil)))))))))) :: (BE.le (IE.fn .i64 3 (AL.int .i64 (IE.var .i64 8) (AL.int .i64 (IE.var .i64 9) (AL.int .i64 (IE.var .i64 10) (AL.int .i64 (IE.var .i64 11) (AL.int .i64 (IE.var .i64 12) (AL.int .i64 (IE.var .i64 13) (AL.int .i64 (IE.var .i64 14) (AL.int .i64 (IE.var .i64 15) AL.nil))))))))) (IE.lit 1)) :: (BE.le (IE.lit (-1)) (IE.fn .i64 3 (AL.int .i64 (IE.var .i64 4) (AL.int .i64 (IE.var .i64 5) (AL.int .i64 (IE.var .i64 6) (AL.int .i64 (IE.var .i64 7) (AL.int .i64 (IE.var .i64 8) (AL.int .i64 (IE.var .i64 9) (AL.int .i64 (IE.var .i64 10) (AL.int .i64 (IE.var .i64 11) AL.nil)))))))))) :: (BE.le (IE.fn .i64 3 (AL.int .i64 (IE.var .i64 4) (AL.int .i64 (IE.var .i64 5) (AL.int .i64 (IE.var .i64 6) (AL.int .i64 (IE.var .i64 7) (AL.int .i64 (IE.var .i64 8) (AL.int .i64 (IE.var .i64 9) (AL.int .i64 (IE.var .i64 10) (AL.int .i64 (IE.var .i64 11) AL.nil))))))))) (IE.lit 1)) :: (BE.not (BE.eq (IE.var .i64 7) (IE.var .i64 11))) :: pcholds_15)
def pcholds_124 : List BE := ((BE.not (BE.eq (IE.fn .i64 3 (AL.int .i64 (IE.var .i64 4) (AL.int .i64 (IE.var .i64 5) (AL.int .i64 (IE.var .i64 6) (AL.int .i64 (IE.var .i64 7) (AL.int .i64 (IE.var .i64 8) (AL.int .i64 (IE.var .i64 9) (AL.int .i64 (IE.var .i64 10) (AL.int .i64 (IE.var .i64 11) AL.nil))))))))) (IE.lit 0))) :: pcholds_104)
def pcholds_125 : List BE := ((BE.le (IE.lit 0) (IE.fn .i64 3 (AL.int .i64 (IE.var .i64 4) (AL.int .i64 (IE.var .i64 5) (AL.int .i64 (IE.var .i64 6) (AL.int .i64 (IE.var .i64 7) (AL.int .i64 (IE.var .i64 8) (AL.int .i64 (IE.var .i64 9) (AL.int .i64 (IE.var .i64 10) (AL.int .i64 (IE.var .i64 11) AL.nil)))))))))) :: pcholds_105)
def pcholds_126 : List BE := ((BE.not (BE.le (IE.lit 0) (IE.fn .i64 3 (AL.int .i64 (IE.var .i64 4) (AL.int .i64 (IE.var .i64 5) (AL.int .i64 (IE.var .i64 6) (AL.int .i64 (IE.var .i64 7) (AL.int .i64 (IE.var .i64 8) (AL.int .i64 (IE.var .i64 9) (AL.int .i64 (IE.var .i64 10) (AL.int .i64 (IE.var .i64 11) AL.nil))))))))))) :: pcholds_105)
def pcholds_127 : List BE := ((BE.not (BE.le (IE.fn .i64 3 (AL.int .i64 (IE.var .i64 8) (AL.int .i64 (IE.var .i64 9) (AL.int .i64 (IE.var .i64 10) (AL.int .i64 (IE.var .i64 11) (AL.int .i64 (IE.var .i64 12) (AL.int .i64 (IE.var .i64 13) (AL.int .i64 (IE.var .i64 14) (AL.int .i64 (IE.var .i64 15) AL.nil))))))))) (IE.lit 0))) :: pcholds_106)
def pcholds_128 : List BE := ((BE.not (BE.le (IE.lit 0) (IE.fn .i64 3 (AL.int .i64 (IE.var .i64 8) (AL.int .i64 (IE.var .i64 9) (AL.int .i64 (IE.var .i64 10) (AL.int .i64 (IE.var .i64 11) (AL.int .i64 (IE.var .i64 12) (AL.int .i64 (IE.var .i64 13) (AL.int .i64 (IE.var .i64 14) (AL.int .i64 (IE.var .i64 15) AL.nil))))))))))) :: pcholds_107)
def pcholds_129 : List BE := ((BE.le (IE.lit 0) (IE.fn .i64 3 (AL.int .i64 (IE.var .i64 4) (AL.int .i64 (IE.var .i64 5) (AL.int .i64 (IE.var .i64 6) (AL.int .i64 (IE.var .i64 7) (AL.int .i64 (IE.var .i64 8) (AL.int .i64 (IE.var .i64 9) (AL.int .i64 (IE.var .i64 10) (AL.int .i64 (IE.var .i64 11) AL.nil)))))))))) :: pcholds_108)
def pcholds_130 : List BE := ((BE.not (BE.le (IE.lit 0) (IE.fn .i64 3 (AL.int .i64 (IE.var .i64 4) (AL.int .i64 (IE.var .i64 5) (AL.int .i64 (IE.var .i64 6) (AL.int .i64 (IE.var .i64 7) (AL.int .i64 (IE.var .i64 8) (AL.int .i64 (IE.var .i64 9) (AL.int .i64 (IE.var .i64 10) (AL.int .i64 (IE.var .i64 11) AL.nil))))))))))) :: pcholds_108)
def pcholds_131 : List BE := ((BE.not (BE.le (IE.fn .i64 3 (AL.int .i64 (IE.var .i64 8) (AL.int .i64 (IE.var .i64 9) (AL.int .i64 (IE.var .i64 10) (AL.int .i64 (IE.var .i64 11) (AL.int .i64 (IE.var .i64 12) (AL.int .i64 (IE.var .i64 13) (AL.int .i64 (IE.var .i64 14) (AL.int .i64 (IE.var .i64 15) AL.nil))))))))) (IE.lit 0))) :: pcholds_109)
def pcholds_132 : List BE := ((BE.not (BE.le (IE.lit 0) (IE.fn .i64 3 (AL.int .i64 (IE.var .i64 8) (AL.int .i64 (IE.var .i64 9) (AL.int .i64 (IE.var .i64 10) (AL.int .i64 (IE.var .i64 11) (AL.int .i64 (IE.var .i64 12) (AL.int .i64 (IE.var .i64 13) (AL.int .i64 (IE.var .i64 14) (AL.int .i64 (IE.var .i64 15) AL.nil))))))))))) :: pcholds_110)
def pcholds_133 : List BE := ((BE.le (IE.lit 0) (IE.fn .i64 3 (AL.int .i64 (IE.var .i64 4) (AL.int .i64 (IE.var .i64 5) (AL.int .i64 (IE.var .i64 6) (AL.int .i64 (IE.var .i64 7) (AL.int .i64 (IE.var .i64 8) (AL.int .i64 (IE.var .i64 9) (AL.int .i64 (IE.var .i64 10) (AL.int .i64 (IE.var .i64 11) AL.nil)))))))))) :: pcholds_113)
def pcholds_134 : List BE := ((BE.not (BE.le (IE.lit 0) (IE.fn .i64 3 (AL.int .i64 (IE.var .i64 4) (AL.int .i64 (IE.var .i64 5) (AL.int .i64 (IE.var .i64 6) (AL.int .i64 (IE.var .i64 7) (AL.int .i64 (IE.var .i64 8) (AL.int .i64 (IE.var .i64 9) (AL.int .i64 (IE.var .i64 10) (AL.int .i64 (IE.var .i64 11) AL.nil))))))))))) :: pcholds_113)
def pcholds_135 : List BE := ((BE.not (BE.le (IE.fn .i64 3 (AL.int .i64 (IE.var .i64 8) (AL.int .i64 (IE.var .i64 9) (AL.int .i64 (IE.var .i64 10) (AL.int .i64 (IE.var .i64 11) (AL.int .i64 (IE.var .i64 12) (AL.int .i64 (IE.var .i64 13) (AL.int .i64 (IE.var .i64 14) (AL.int .i64 (IE.var .i64 15) AL.nil))))))))) (IE.lit 0))) :: pcholds_114)
def pcholds_136 : List BE := ((BE.not (BE.le (IE.lit 0) (IE.fn .i64 3 (AL.int .i64 (IE.var .i64 8) (AL.int .i64 (IE.var .i64 9) (AL.int .i64 (IE.var .i64 10) (AL.int .i64 (IE.var .i64 11) (AL.int .i64 (IE.var .i64 12) (AL.int .i64 (IE.var .i64 13) (AL.int .i64 (IE.var .i64 14) (AL.int .i64 (IE.var .i64 15) AL.nil))))))))))) :: pcholds_115)
def pcholds_137 : List BE := ((BE.not (BE.le (IE.fn .i64 3 (AL.int .i64 (IE.var .i64 8) (AL.int .i64 (IE.var .i64 9) (AL.int .i64 (IE.var .i64 10) (AL.int .i64 (IE.var .i64 11) (AL.int .i64 (IE.var .i64 12) (AL.int .i64 (IE.var .i64 13) (AL.int .i64 (IE.var .i64 14) (AL.int .i64 (IE.var .i64 15) AL.nil))))))))) (IE.lit 0))) :: pcholds_118)
def pcholds_138 : List BE := ((BE.not (BE.le (IE.lit 0) (IE.fn .i64 3 (AL.int .i64 (IE.var .i64 8) (AL.int .i64 (IE.var .i64 9) (AL.int .i64 (IE.var .i64 10) (AL.int .i64 (IE.var .i64 11) (AL.int .i64 (IE.var .i64 12) (AL.int .i64 (IE.var .i64 13) (AL.int .i64 (IE.var .i64 14) (AL.int .i64 (IE.var .i64 15) AL.nil))))))))))) :: pcholds_119)
def pcholds_139 : List BE := ((BE.not (BE.eq (IE.fn .i64 3 (AL.int .i64 (IE.var .i64 4) (AL.int .i64 (IE.var .i64 5) (AL.int .i64 (IE.var .i64 6) (AL.int .i64 (IE.var .i64 7) (AL.int .i64 (IE.var .i64 8) (AL.int .i64 (IE.var .i64 9) (AL.int .i64 (IE.var .i64 10) (AL.int .i64 (IE.var .i64 11) AL.nil))))))))) (IE.lit 0))) :: pcholds_123)
def pcholds_140 : List BE := ((BE.le (IE.lit 0) (IE.fn .i64 3 (AL.int .i64 (IE.var .i64 4) (AL.int .i64 (IE.var .i64 5) (AL.int .i64 (IE.var .i64 6) (AL.int .i64 (IE.var .i64 7) (AL.int .i64 (IE.var .i64 8) (AL.int .i64 (IE.var .i64 9) (AL.int .i64 (IE.var .i64 10) (AL.int .i64 (IE.var .i64 11) AL.nil)))))))))) :: pcholds_124)
def pcholds_141 : List BE := ((BE.not (BE.le (IE.lit 0) (IE.fn .i64 3 (AL.int .i64 (IE.var .i64 4) (AL.int .i64 (IE.var .i64 5) (AL.int .i64 (IE.var .i64 6) (AL.int .i64 (IE.var .i64 7) (AL.int .i64 (IE.var .i64 8) (AL.int .i64 (IE.var .i64 9) (AL.int .i64 (IE.var .i64 10) (AL.int .i64 (IE.var .i64 11) AL.nil))))))))))) :: pcholds_124)
def pcholds_142 : List BE := ((BE.not (BE.le (IE.fn .i64 3 (AL.int .i64 (IE.var .i64 8) (AL.int .i64 (IE.var .i64 9) (AL.int .i64 (IE.var .i64 10) (AL.int .i64 (IE.var .i64 11) (AL.int .i64 (IE.var .i64 12) (AL.int .i64 (IE.var .i64 13) (AL.int .i64 (IE.var .i64 14) (AL.int .i64 (IE.var .i64 15) AL.nil))))))))) (IE.lit 0))) :: pcholds_125)
def pcholds_143 : List BE := ((BE.not (BE.le (IE.lit 0) (IE.fn .i64 3 (AL.int .i64 (IE.var .i64 8) (AL.int .i64 (IE.var .i64 9) (AL.int .i64 (IE.var .i64 10) (AL.int .i64 (IE.var .i64 11) (AL.int .i64 (IE.var .i64 12) (AL.int .i64 (IE.var .i64 13) (AL.int .i64 (IE.var .i64 14) (AL.int .i64 (IE.var .i64 15) AL.nil))))))))))) :: pcholds_126)
def pcholds_144 : List BE := ((BE.not (BE.le (IE.fn .i64 3 (AL.int .i64 (IE.var .i64 8) (AL.int .i64 (IE.var .i64 9) (AL.int .i64 (IE.var .i64 10) (AL.int .i64 (IE.var .i64 11) (AL.int .i64 (IE.var .i64 12) (AL.int .i64 (IE.var .i64 13) (AL.int .i64 (IE.var .i64 14) (AL.int .i64 (IE.var .i64 15) AL.nil))))))))) (IE.lit 0))) :: pcholds_129)
def pcholds_145 : List BE := ((BE.not (BE.le (IE.lit 0) (IE.fn .i64 3 (AL.int .i64 (IE.var .i64 8) (AL.int .i64 (IE.var .i64 9) (AL.int .i64 (IE.var .i64 10) (AL.int .i64 (IE.var .i64 11) (AL.int .i64 (IE.var .i64 12) (AL.int .i64 (IE.var .i64 13) (AL.int .i64 (IE.var .i64 14) (AL.int .i64 (IE.var .i64 15) AL.nil))))))))))) :: pcholds_130)
def pcholds_146 : List BE := ((BE.not (BE.le (IE.fn .i64 3 (AL.int .i64 (IE.var .i64 8) (AL.int .i64 (IE.var .i64 9) (AL.int .i64 (IE.var .i64 10) (AL.int .i64 (IE.var .i64 11) (AL.int .i64 (IE.var .i64 12) (AL.int .i64 (IE.var .i64 13) (AL.int .i64 (IE.var .i64 14) (AL.int .i64 (IE.var .i64 15) AL.nil))))))))) (IE.lit 0))) :: pcholds_133)
def pcholds_147 : List BE := ((BE.not (BE.le (IE.lit 0) (IE.fn .i64 3 (AL.int .i64 (IE.var .i64 8) (AL.int .i64 (IE.var .i64 9) (AL.int .i64 (IE.var .i64 10) (AL.int .i64 (IE.var .i64 11) (AL.int .i64 (IE.var .i64 12) (AL.int .i64 (IE.var .i64 13) (AL.int .i64 (IE.var .i64 14) (AL.int .i64 (IE.var .i64 15) AL.nil))))))))))) :: pcholds_134)
def pcholds_148 : List BE := ((BE.le (IE.lit 0) (IE.fn .i64 3 (AL.int .i64 (IE.var .i64 4) (AL.int .i64 (IE.var .i64 5) (AL.int .i64 (IE.var .i64 6) (AL.int .i64 (IE.var .i64 7) (AL.int .i64 (IE.var .i64 8) (AL.int .i64 (IE.var .i64 9) (AL.int .i64 (IE.var .i64 10) (AL.int .i64 (IE.var .i64 11) AL.nil)))))))))) :: pcholds_139)
def pcholds_149 : List BE := ((BE.not (BE.le (IE.lit 0) (IE.fn .i64 3 (AL.int .i64 (IE.var .i64 4) (AL.int .i64 (IE.var .i64 5) (AL.int .i64 (IE.var .i64 6) (AL.int .i64 (IE.var .i64 7) (AL.int .i64 (IE.var .i64 8) (AL.int .i64 (IE.var .i64 9) (AL.int .i64 (IE.var .i64 10) (AL.int .i64 (IE.var .i64 11) AL.nil))))))))))) :: pcholds_139)
def pcholds_150 : List BE := ((BE.not (BE.le (IE.fn .i64 3 (AL.int .i64 (IE.var .i64 8) (AL.int .i64 (IE.var .i64 9) (AL.int .i64 (IE.var .i64 10) (AL.int .i64 (IE.var .i64 11) (AL.int .i64 (IE.var .i64 12) (AL.int .i64 (IE.var .i64 13) (AL.int .i64 (IE.var .i64 14) (AL.int .i64 (IE.var .i64 15) AL.nil))))))))) (IE.lit 0))) :: pcholds_140)
def pcholds_151 : List BE := ((BE.not (BE.le (IE.lit 0) (IE.fn .i64 3 (AL.int .i64 (IE.var .i64 8) (AL.int .i64 (IE.var .i64 9) (AL.int .i64 (IE.var .i64 10) (AL.int .i64 (IE.var .i64 11) (AL.int .i64 (IE.var .i64 12) (AL.int .i64 (IE.var .i64 13) (AL.int .i64 (IE.var .i64 14) (AL.int .i64 (IE.var .i64 15) AL.nil))))))))))) :: pcholds_141)
def pcholds_152 : List BE := ((BE.not (BE.le (IE.fn .i64 3 (AL.int .i64 (IE.var .i64 8) (AL.int .i64 (IE.var .i64 9) (AL.int .i64 (IE.var .i64 10) (AL.int .i64 (IE.var .i64 11) (AL.int .i64 (IE.var .i64 12) (AL.int .i64 (IE.var .i64 13) (AL.int .i64 (IE.var .i64 14) (AL.int .i64 (IE.var .i64 15) AL.nil))))))))) (IE.lit 0))) :: pcholds_148)
def pcholds_153 : List BE := ((BE.not (BE.le (IE.lit 0) (IE.fn .i64 3 (AL.int .i64 (IE.var .i64 8) (AL.int .i64 (IE.var .i64 9) (AL.int .i64 (IE.var .i64 10) (AL.int .i64 (IE.var .i64 11) (AL.int .i64 (IE.var .i64 12) (AL.int .i64 (IE.var .i64 13) (AL.int .i64 (IE.var .i64 14) (AL.int .i64 (IE.var .i64 15) AL.nil))))))))))) :: pcholds_149)
def wholds_0 : VW := (VW.done ((BE.eq (IE.fn .i64 3 (AL.int .i64 (IE.var .i64 4) (AL.int .i64 (IE.var .i64 5) (AL.int .i64 (IE.var .i64 6) (AL.int .i64 (IE.var .i64 7) (AL.int .i64 (IE.var .i64 8) (AL.int .i64 (IE.var .i64 9) (AL.int .i64 (IE.var .i64 10) (AL.int .i64 (IE.var .i64 11) AL.nil))))))))) (IE.lit 0)) :: pcholds_122) (some []))
def wholds_1 : VW := (VW.done ((BE.not (BE.eq (IE.fn .i64 3 (AL.int .i64 (IE.var .i64 4) (AL.int .i64 (IE.var .i64 5) (AL.int .i64 (IE.var .i64 6) (AL.int .i64 (IE.var .i64 7) (AL.int .i64 (IE.var .i64 8) (AL.int .i64 (IE.var .i64 9) (AL.int .i64 (IE.var .i64 10) (AL.int .i64 (IE.var .i64 11) AL.nil))))))))) (IE.lit 0))) :: pcholds_122) (some [(G.b (BE.lit true) (BE.lit false))]))
def wholds_2 : VW := (VW.done ((BE.not (BE.eq (IE.var .i64 7) (IE.var .i64 11))) :: pcholds_14) (some [(G.b (BE.lit true) (BE.lit false))]))
def wholds_3 : VW := (VW.done ((BE.not (BE.eq (IE.var .i64 6) (IE.var .i64 10))) :: pcholds_10) (some [(G.b (BE.lit true) (BE.lit false))]))
def wholds_4 : VW := (VW.done ((BE.not (BE.eq (IE.var .i64 5) (IE.var .i64 9))) :: pcholds_7) (some [(G.b (BE.lit true) (BE.lit false))]))
def wholds_5 : VW := (VW.done ((BE.not (BE.eq (IE.var .i64 4) (IE.var .i64 8))) :: pcholds_5) (some [(G.b (BE.lit true) (BE.lit false))]))
def wholds_6 : VW := (VW.done ((BE.eq (IE.var .i64 7) (IE.var .i64 11)) :: pcholds_15) (some [(G.b (BE.lit true) (BE.lit false))]))
def wholds_7 : VW := (VW.done ((BE.eq (IE.fn .i64 3 (AL.int .i64 (IE.var .i64 4) (AL.int .i64 (IE.var .i64 5) (AL.int .i64 (IE.var .i64 6) (AL.int .i64 (IE.var .i64 7) (AL.int .i64 (IE.var .i64 8) (AL.int .i64 (IE.var .i64 9) (AL.int .i64 (IE.var .i64 10) (AL.int .i64 (IE.var .i64 11) AL.nil))))))))) (IE.lit 0)) :: pcholds_123) (some [(G.b (BE.lit true) (BE.lit false))]))
def wholds_8 : VW := (VW.done ((BE.le (IE.fn .i64 3 (AL.int .i64 (IE.var .i64 8) (AL.int .i64 (IE.var .i64 9) (AL.int .i64 (IE.var .i64 10) (AL.int .i64 (IE.var .i64 11) (AL.int .i64 (IE.var .i64 12) (AL.int .i64 (IE.var .i64 13) (AL.int .i64 (IE.var .i64 14) (AL.int .i64 (IE.var .i64 15) AL.nil))))))))) (IE.lit 0)) :: pcholds_148) (some []))
def wholds_9 : VW := (VW.done ((BE.le (IE.fn .i64 3 (AL.int .i64 (IE.var .i64 4) (AL.int .i64 (IE.var .i64 5) (AL.int .i64 (IE.var .i64 6) (AL.int .i64 (IE.var .i64 7) (AL.int .i64 (IE.var .i64 12) (AL.int .i64 (IE.var .i64 13) (AL.int .i64 (IE.var .i64 14) (AL.int .i64 (IE.var .i64 15) AL.nil))))))))) (IE.lit 0)) :: pcholds_152) (some [(G.b (BE.lit true) (BE.lit false))]))
def wholds_10 : VW := (VW.done ((BE.not (BE.le (IE.fn .i64 3 (AL.int .i64 (IE.var .i64 4) (AL.int .i64 (IE.var .i64 5) (AL.int .i64 (IE.var .i64 6) (AL.int .i64 (IE.var .i64 7) (AL.int .i64 (IE.var .i64 12) (AL.int .i64 (IE.var .i64 13) (AL.int .i64 (IE.var .i64 14) (AL.int .i64 (IE.var .i64 15) AL.nil))))))))) (IE.lit 0))) :: pcholds_152) (some []))
def wholds_11 : VW := (VW.done ((BE.le (IE.lit 0) (IE.fn .i64 3 (AL.int .i64 (IE.var .i64 8) (AL.int .i64 (IE.var .i64 9) (AL.int .i64 (IE.var .i64 10) (AL.int .i64 (IE.var .i64 11) (AL.int .i64 (IE.var .i64 12) (AL.int .i64 (IE.var .i64 13) (AL.int .i64 (IE.var .i64 14) (AL.int .i64 (IE.var .i64 15) AL.nil)))))))))) :: pcholds_149) (some []))
def wholds_12 : VW := (VW.done ((BE.le (IE.lit 0) (IE.fn .i64 3 (AL.int .i64 (IE.var .i64 4) (AL.int .i64 (IE.var .i64 5) (AL.int .i64 (IE.var .i64 6) (AL.int .i64 (IE.var .i64 7) (AL.int .i64 (IE.var .i64 12) (AL.int .i64 (IE.var .i64 13) (AL.int .i64 (IE.var .i64 14) (AL.int .i64 (IE.var .i64 15) AL.nil)))))))))) :: pcholds_153) (some [(G.b (BE.lit true) (BE.lit false))]))
def wholds_13 : VW := (VW.done ((BE.not (BE.le (IE.lit 0) (IE.fn .i64 3 (AL.int .i64 (IE.var .i64 4) (AL.int .i64 (IE.var .i64 5) (AL.int .i64 (IE.var .i64 6) (AL.int .i64 (IE.var .i64 7) (AL.int .i64 (IE.var .i64 12) (AL.int .i64 (IE.var .i64 13) (AL.int .i64 (IE.var .i64 14) (AL.int .i64 (IE.var .i64 15) AL.nil))))))))))) :: pcholds_153) (some []))
def wholds_14 : VW := (VW.done ((BE.eq (IE.fn .i64 3 (AL.int .i64 (IE.var .i64 4) (AL.int .i64 (IE.var .i64 5) (AL.int .i64 (IE.var .i64 6) (AL.int .i64 (IE.var .i64 7) (AL.int .i64 (IE.var .i64 8) (AL.int .i64 (IE.var .i64 9) (AL.int .i64 (IE.var .i64 10) (AL.int .i64 (IE.var .i64 11) AL.nil))))))))) (IE.lit 0)) :: pcholds_104) (some [(G.b (BE.lit true) (BE.lit false))]))
def wholds_15 : VW := (VW.done ((BE.le (IE.fn .i64 3 (AL.int .i64 (IE.var .i64 8) (AL.int .i64 (IE.var .i64 9) (AL.int .i64 (IE.var .i64 10) (AL.int .i64 (IE.var .i64 11) (AL.int .i64 (IE.var .i64 12) (AL.int .i64 (IE.var .i64 13) (AL.int .i64 (IE.var .i64 14) (AL.int .i64 (IE.var .i64 15) AL.nil))))))))) (IE.lit 0)) :: pcholds_140) (some []))
def wholds_16 : VW := (VW.done ((BE.le (IE.fn .i64 3 (AL.int .i64 (IE.var .i64 4) (AL.int .i64 (IE.var .i64 5) (AL.int .i64 (IE.var .i64 6) (AL.int .i64 (IE.var .i64 7) (AL.int .i64 (IE.var .i64 12) (AL.int .i64 (IE.var .i64 13) (AL.int .i64 (IE.var .i64 14) (AL.int .i64 (IE.var .i64 15) AL.nil))))))))) (IE.lit 0)) :: pcholds_150) (some [(G.b (BE.lit true) (BE.lit false))]))
def wholds_17 : VW := (VW.done ((BE.not (BE.le (IE.fn .i64 3 (AL.int .i64 (IE.var .i64 4) (AL.int .i64 (IE.var .i64 5) (AL.int .i64 (IE.var .i64 6) (AL.int .i64 (IE.var .i64 7) (AL.int .i64 (IE.var .i64 12) (AL.int .i64 (IE.var .i64 13) (AL.int .i64 (IE.var .i64 14) (AL.int .i64 (IE.var .i64 15) AL.nil))))))))) (IE.lit 0))) :: pcholds_150) (some []))
def wholds_18 : VW := (VW.done ((BE.le (IE.lit 0) (IE.fn .i64 3 (AL.int .i64 (IE.var .i64 8) (AL.int .i64 (IE.var .i64 9) (AL.int .i64 (IE.var .i64 10) (AL.int .i64 (IE.var .i64 11) (AL.int .i64 (IE.var .i64 12) (AL.int .i64 (IE.var .i64 13) (AL.int .i64 (IE.var .i64 14) (AL.int .i64 (IE.var .i64 15) AL.nil)))))))))) :: pcholds_141) (some []))
def wholds_19 : VW := (VW.done ((BE.le (IE.lit 0) (IE.fn .i64 3 (AL.int .i64 (IE.var .i64 4) (AL.int .i64 (IE.var .i64 5) (AL.int .i64 (IE.var .i64 6) (AL.int .i64 (IE.var .i64 7) (AL.int .i64 (IE.var .i64 12) (AL.int .i64 (IE.var .i64 13) (AL.int .i64 (IE.var .i64 14) (AL.int .i64 (IE.var .i64 15) AL.nil)))))))))) :: pcholds_151) (some [(G.b (BE.lit true) (BE.lit false))]))
def wholds_20 : VW := (VW.done ((BE.not (BE.le (IE.lit 0) (IE.fn .i64 3 (AL.int .i64 (IE.var .i64 4) (AL.int .i64 (IE.var .i64 5) (AL.int .i64 (IE.var .i64 6) (AL.int .i64 (IE.var .i64 7) (AL.int .i64 (IE.var .i64 12) (AL.int .i64 (IE.var .i64 13) (AL.int .i64 (IE.var .i64 14) (AL.int .i64 (IE.var .i64 15) AL.nil))))))))))) :: pcholds_151) (some []))
def wholds_21 : VW := (VW.done ((BE.eq (IE.fn .i64 3 (AL.int .i64 (IE.var .i64 4) (AL.int .i64 (IE.var .i64 5) (AL.int .i64 (IE.var .i64 6) (AL.int .i64 (IE.var .i64 7) (AL.int .i64 (IE.var .i64 8) (AL.int .i64 (IE.var .i64 9) (AL.int .i64 (IE.var .i64 10) (AL.int .i64 (IE.var .i64 11) AL.nil))))))))) (IE.lit 0)) :: pcholds_81) (some [(G.b (BE.lit true) (BE.lit false))]))
def wholds_22 : VW := (VW.done ((BE.le (IE.fn .i64 3 (AL.int .i64 (IE.var .i64 8) (AL.int .i64 (IE.var .i64 9) (AL.int .i64 (IE.var .i64 10) (AL.int .i64 (IE.var .i64 11) (AL.int .i64 (IE.var .i64 12) (AL.int .i64 (IE.var .i64 13) (AL.int .i64 (IE.var .i64 14) (AL.int .i64 (IE.var .i64 15) AL.nil))))))))) (IE.lit 0)) :: pcholds_125) (some []))
def wholds_23 : VW := (VW.done ((BE.le (IE.fn .i64 3 (AL.int .i64 (IE.var .i64 4) (AL.int .i64 (IE.var .i64 5) (AL.int .i64 (IE.var .i64 6) (AL.int .i64 (IE.var .i64 7) (AL.int .i64 (IE.var .i64 12) (AL.int .i64 (IE.var .i64 13) (AL.int .i64 (IE.var .i64 14) (AL.int .i64 (IE.var .i64 15) AL.nil))))))))) (IE.lit 0)) :: pcholds_142) (some [(G.b (BE.lit true) (BE.lit false))]))
def wholds_24 : VW := (VW.done ((BE.not (BE.le (IE.fn .i64 3 (AL.int .i64 (IE.var .i64 4) (AL.int .i64 (IE.var .i64 5) (AL.int .i64 (IE.var .i64 6) (AL.int .i64 (IE.var .i64 7) (AL.int .i64 (IE.var .i64 12) (AL.int .i64 (IE.var .i64 13) (AL.int .i64 (IE.var .i64 14) (AL.int .i64 (IE.var .i64 15) AL.nil))))))))) (IE.lit 0))) :: pcholds_142) (some []))
def wholds_25 : VW := (VW.done ((BE.le (IE.lit 0) (IE.fn .i64 3 (AL.int .i64 (IE.var .i64 8) (AL.int .i64 (IE.var .i64 9) (AL.int .i64 (IE.var .i64 10) (AL.int .i64 (IE.var .i64 11) (AL.int .i64 (IE.var .i64 12) (AL.int .i64 (IE.var .i64 13) (AL.int .i64 (IE.var .i64 14) (AL.int .i64 (IE.var .i64 15) AL.nil)))))))))) :: pcholds_126) (some []))
def wholds_26 : VW := (VW.done ((BE.le (IE.lit 0) (IE.fn .i64 3 (AL.int .i64 (IE.var .i64 4) (AL.int .i64 (IE.var .i64 5) (AL.int .i64 (IE.var .i64 6) (AL.int .i64 (IE.var .i64 7) (AL.int .i64 (IE.var .i64 12) (AL.int .i64 (IE.var .i64 13) (AL.int .i64 (IE.var .i64 14) (AL.int .i64 (IE.var .i64 15) AL.nil)))))))))) :: pcholds_143) (some [(G.b (BE.lit true) (BE.lit false))]))
def wholds_27 : VW := (VW.done ((BE.not (BE.le (IE.lit 0) (IE.fn .i64 3 (AL.int .i64 (IE.var .i64 4) (AL.int .i64 (IE.var .i64 5) (AL.int .i64 (IE.var .i64 6) (AL.int .i64 (IE.var .i64 7) (AL.int .i64 (IE.var .i64 12) (AL.int .i64 (IE.var .i64 13) (AL.int .i64 (IE.var .i64 14) (AL.int .i64 (IE.var .i64 15) AL.nil))))))))))) :: pcholds_143) (some []))
def wholds_28 : VW := (VW.done ((BE.eq (IE.fn .i64 3 (AL.int .i64 (IE.var .i64 4) (AL.int .i64 (IE.var .i64 5) (AL.int .i64 (IE.var .i64 6) (AL.int .i64 (IE.var .i64 7) (AL.int .i64 (IE.var .i64 8) (AL.int .i64 (IE.var .i64 9) (AL.int .i64 (IE.var .i64 10) (AL.int .i64 (IE.var .i64 11) AL.nil))))))))) (IE.lit 0)) :: pcholds_59) (some [(G.b (BE.lit true) (BE.lit false))]))
def wholds_29 : VW := (VW.done ((BE.le (IE.fn .i64 3 (AL.int .i64 (IE.var .i64 8) (AL.int .i64 (IE.var .i64 9) (AL.int .i64 (IE.var .i64 10) (AL.int .i64 (IE.var .i64 11) (AL.int .i64 (IE.var .i64 12) (AL.int .i64 (IE.var .i64 13) (AL.int .i64 (IE.var .i64 14) (AL.int .i64 (IE.var .i64 15) AL.nil))))))))) (IE.lit 0)) :: pcholds_106) (some []))
def wholds_30 : VW := (VW.done ((BE.le (IE.fn .i64 3 (AL.int .i64 (IE.var .i64 4) (AL.int .i64 (IE.var .i64 5) (AL.int .i64 (IE.var .i64 6) (AL.int .i64 (IE.var .i64 7) (AL.int .i64 (IE.var .i64 12) (AL.int .i64 (IE.var .i64 13) (AL.int .i64 (IE.var .i64 14) (AL.int .i64 (IE.var .i64 15) AL.nil))))))))) (IE.lit 0)) :: pcholds_127) (some [(G.b (BE.lit true) (BE.lit false))]))
def wholds_31 : VW := (VW.done ((BE.not (BE.le (IE.fn .i64 3 (AL.int .i64 (IE.var .i64 4) (AL.int .i64 (IE.var .i64 5) (AL.int .i64 (IE.var .i64 6) (AL.int .i64 (IE.var .i64 7) (AL.int .i64 (IE.var .i64 12) (AL.int .i64 (IE.var .i64 13) (AL.int .i64 (IE.var .i64 14) (AL.int .i64 (IE.var .i64 15) AL.nil))))))))) (IE.lit 0))) :: pcholds_127) (some []))
def wholds_32 : VW := (VW.done ((BE.le (IE.lit 0) (IE.fn .i64 3 (AL.int .i64 (IE.var .i64 8) (AL.int .i64 (IE.var .i64 9) (AL.int .i64 (IE.var .i64 10) (AL.int .i64 (IE.var .i64 11) (AL.int .i64 (IE.var .i64 12) (AL.int .i64 (IE.var .i64 13) (AL.int .i64 (IE.var .i64 14) (AL.int .i64 (IE.var .i64 15) AL.nil)))))))))) :: pcholds_107) (some []))
def wholds_33 : VW := (VW.done ((BE.le (IE.lit 0) (IE.fn .i64 3 (AL.int .i64 (IE.var .i64 4) (AL.int .i64 (IE.var .i64 5) (AL.int .i64 (IE.var .i64 6) (AL.int .i64 (IE.var .i64 7) (AL.int .i64 (IE.var .i64 12) (AL.int .i64 (IE.var .i64 13) (AL.int .i64 (IE.var .i64 14) (AL.int .i64 (IE.var .i64 15) AL.nil)))))))))) :: pcholds_128) (some [(G.b (BE.lit true) (BE.lit false))]))
def wholds_34 : VW := (VW.done ((BE.not (BE.le (IE.lit 0) (IE.fn .i64 3 (AL.int .i64 (IE.var .i64 4) (AL.int .i64 (IE.var .i64 5) (AL.int .i64 (IE.var .i64 6) (AL.int .i64 (IE.var .i64 7) (AL.int .i64 (IE.var .i64 12) (AL.int .i64 (IE.var .i64 13) (AL.int .i64 (IE.var .i64 14) (AL.int .i64 (IE.var .i64 15) AL.nil))))))))))) :: pcholds_128) (some []))
def wholds_35 : VW := (VW.done ((BE.eq (IE.var .i64 7) (IE.var .i64 11)) :: pcholds_83) (some []))
def wholds_36 : VW := (VW.done ((BE.not (BE.eq (IE.var .i64 7) (IE.var .i64 11))) :: pcholds_83) (some [(G.b (BE.lit true) (BE.lit false))]))
def wholds_37 : VW := (VW.done ((BE.not (BE.eq (IE.var .i64 6) (IE.var .i64 10))) :: pcholds_60) (some [(G.b (BE.lit true) (BE.lit false))]))
def wholds_38 : VW := (VW.done ((BE.not (BE.eq (IE.var .i64 5) (IE.var .i64 9))) :: pcholds_43) (some [(G.b (BE.lit true) (BE.lit false))]))
def wholds_39 : VW := (VW.done ((BE.not (BE.eq (IE.var .i64 4) (IE.var .i64 8))) :: pcholds_29) (some [(G.b (BE.lit true) (BE.lit false))]))
def wholds_40 : VW := (VW.done ((BE.eq (IE.var .i64 7) (IE.var .i64 11)) :: pcholds_84) (some [(G.b (BE.lit true) (BE.lit false))]))
def wholds_41 : VW := (VW.done ((BE.le (IE.fn .i64 3 (AL.int .i64 (IE.var .i64 8) (AL.int .i64 (IE.var .i64 9) (AL.int .i64 (IE.var .i64 10) (AL.int .i64 (IE.var .i64 11) (AL.int .i64 (IE.var .i64 12) (AL.int .i64 (IE.var .i64 13) (AL.int .i64 (IE.var .i64 14) (AL.int .i64 (IE.var .i64 15) AL.nil))))))))) (IE.lit 0)) :: pcholds_129) (some []))
def wholds_42 : VW := (VW.done ((BE.le (IE.fn .i64 3 (AL.int .i64 (IE.var .i64 4) (AL.int .i64 (IE.var .i64 5) (AL.int .i64 (IE.var .i64 6) (AL.int .i64 (IE.var .i64 7) (AL.int .i64 (IE.var .i64 12) (AL.int .i64 (IE.var .i64 13) (AL.int .i64 (IE.var .i64 14) (AL.int .i64 (IE.var .i64 15) AL.nil))))))))) (IE.lit 0)) :: pcholds_144) (some [(G.b (BE.lit true) (BE.lit false))]))
def wholds_43 : VW := (VW.done ((BE.not (BE.le (IE.fn .i64 3 (AL.int .i64 (IE.var .i64 4) (AL.int .i64 (IE.var .i64 5) (AL.int .i64 (IE.var .i64 6) (AL.int .i64 (IE.var .i64 7) (AL.int .i64 (IE.var .i64 12) (AL.int .i64 (IE.var .i64 13) (AL.int .i64 (IE.var .i64 14) (AL.int .i64 (IE.var .i64 15) AL.nil))))))))) (IE.lit 0))) :: pcholds_144) (some []))
def wholds_44 : VW := (VW.done ((BE.le (IE.lit 0) (IE.fn .i64 3 (AL.int .i64 (IE.var .i64 8) (AL.int .i64 (IE.var .i64 9) (AL.int .i64 (IE.var .i64 10) (AL.int .i64 (IE.var .i64 11) (AL.int .i64 (IE.var .i64 12) (AL.int .i64 (IE.var .i64 13) (AL.int .i64 (IE.var .i64 14) (AL.int .i64 (IE.var .i64 15) AL.nil)))))))))) :: pcholds_130) (some []))
def wholds_45 : VW := (VW.done ((BE.le (IE.lit 0) (IE.fn .i64 3 (AL.int .i64 (IE.var .i64 4) (AL.int .i64 (IE.var .i64 5) (AL.int .i64 (IE.var .i64 6) (AL.int .i64 (IE.var .i64 7) (AL.int .i64 (IE.var .i64 12) (AL.int .i64 (IE.var .i64 13) (AL.int .i64 (IE.var .i64 14) (AL.int .i64 (IE.var .i64 15) AL.nil)))))))))) :: pcholds_145) (some [(G.b (BE.lit true) (BE.lit false))]))
def wholds_46 : VW := (VW.done ((BE.not (BE.le (IE.lit 0) (IE.fn .i64 3 (AL.int .i64 (IE.var .i64 4) (AL.int .i64 (IE.var .i64 5) (AL.int .i64 (IE.var .i64 6) (AL.int .i64 (IE.var .i64 7) (AL.int .i64 (IE.var .i64 12) (AL.int .i64 (IE.var .i64 13) (AL.int .i64 (IE.var .i64 14) (AL.int .i64 (IE.var .i64 15) AL.nil))))))))))) :: pcholds_145) (some []))
def wholds_47 : VW := (VW.done ((BE.le (IE.fn .i64 3 (AL.int .i64 (IE.var .i64 8) (AL.int .i64 (IE.var .i64 9) (AL.int .i64 (IE.var .i64 10) (AL.int .i64 (IE.var .i64 11) (AL.int .i64 (IE.var .i64 12) (AL.int .i64 (IE.var .i64 13) (AL.int .i64 (IE.var .i64 14) (AL.int .i64 (IE.var .i64 15) AL.nil))))))))) (IE.lit 0)) :: pcholds_109) (some []))
def wholds_48 : VW := (VW.done ((BE.le (IE.fn .i64 3 (AL.int .i64 (IE.var .i64 4) (AL.int .i64 (IE.var .i64 5) (AL.int .i64 (IE.var .i64 6) (AL.int .i64 (IE.var .i64 7) (AL.int .i64 (IE.var .i64 12) (AL.int .i64 (IE.var .i64 13) (AL.int .i64 (IE.var .i64 14) (AL.int .i64 (IE.var .i64 15) AL.nil))))))))) (IE.lit 0)) :: pcholds_131) (some [(G.b (BE.lit true) (BE.lit false))]))
def wholds_49 : VW := (VW.done ((BE.not (BE.le (IE.fn .i64 3 (AL.int .i64 (IE.var .i64 4) (AL.int .i64 (IE.var .i64 5) (AL.int .i64 (IE.var .i64 6) (AL.int .i64 (IE.var .i64 7) (AL.int .i64 (IE.var .i64 12) (AL.int .i64 (IE.var .i64 13) (AL.int .i64 (IE.var .i64 14) (AL.int .i64 (IE.var .i64 15) AL.nil))))))))) (IE.lit 0))) :: pcholds_131) (some []))
def wholds_50 : VW := (VW.done ((BE.le (IE.lit 0) (IE.fn .i64 3 (AL.int .i64 (IE.var .i64 8) (AL.int .i64 (IE.var .i64 9) (AL.int .i64 (IE.var .i64 10) (AL.int .i64 (IE.var .i64 11) (AL.int .i64 (IE.var .i64 12) (AL.int .i64 (IE.var .i64 13) (AL.int .i64 (IE.var .i64 14) (AL.int .i64 (IE.var .i64 15) AL.nil)))))))))) :: pcholds_110) (some []))
def wholds_51 : VW := (VW.done ((BE.le (IE.lit 0) (IE.fn .i64 3 (AL.int .i64 (IE.var .i64 4) (AL.int .i64 (IE.var .i64 5) (AL.int .i64 (IE.var .i64 6) (AL.int .i64 (IE.var .i64 7) (AL.int .i64 (IE.var .i64 12) (AL.int .i64 (IE.var .i64 13) (AL.int .i64 (IE.var .i64 14) (AL.int .i64 (IE.var .i64 15) AL.nil)))))))))) :: pcholds_132) (some [(G.b (BE.lit true) (BE.lit false))]))
def wholds_52 : VW := (VW.done ((BE.not (BE.le (IE.lit 0) (IE.fn .i64 3 (AL.int .i64 (IE.var .i64 4) (AL.int .i64 (IE.var .i64 5) (AL.int .i64 (IE.var .i64 6) (AL.int .i64 (IE.var .i64 7) (AL.int .i64 (IE.var .i64 12) (AL.int .i64 (IE.var .i64 13) (AL.int .i64 (IE.var .i64 14) (AL.int .i64 (IE.var .i64 15) AL.nil))))))))))) :: pcholds_132) (some []))
def wholds_53 : VW := (VW.done ((BE.le (IE.fn .i64 3 (AL.int .i64 (IE.var .i64 8) (AL.int .i64 (IE.var .i64 9) (AL.int .i64 (IE.var .i64 10) (AL.int .i64 (IE.var .i64 11) (AL.int .i64 (IE.var .i64 12) (AL.int .i64 (IE.var .i64 13) (AL.int .i64 (IE.var .i64 14) (AL.int .i64 (IE.var .i64 15) AL.nil))))))))) (IE.lit 0)) :: pcholds_86) (some []))
def wholds_54 : VW := (VW.done ((BE.le (IE.fn .i64 3 (AL.int .i64 (IE.var .i64 4) (AL.int .i64 (IE.var .i64 5) (AL.int .i64 (IE.var .i64 6) (AL.int .i64 (IE.var .i64 7) (AL.int .i64 (IE.var .i64 12) (AL.int .i64 (IE.var .i64 13) (AL.int .i64 (IE.var .i64 14) (AL.int .i64 (IE.var .i64 15) AL.nil))))))))) (IE.lit 0)) :: pcholds_111) (some [(G.b (BE.lit true) (BE.lit false))]))
def wholds_55 : VW := (VW.done ((BE.not (BE.le (IE.fn .i64 3 (AL.int .i64 (IE.var .i64 4) (AL.int .i64 (IE.var .i64 5) (AL.int .i64 (IE.var .i64 6) (AL.int .i64 (IE.var .i64 7) (AL.int .i64 (IE.var .i64 12) (AL.int .i64 (IE.var .i64 13) (AL.int .i64 (IE.var .i64 14) (AL.int .i64 (IE.var .i64 15) AL.nil))))))))) (IE.lit 0))) :: pcholds_111) (some []))
def wholds_56 : VW := (VW.done ((BE.le (IE.lit 0) (IE.fn .i64 3 (AL.int .i64 (IE.var .i64 8) (AL.int .i64 (IE.var .i64 9) (AL.int .i64 (IE.var .i64 10) (AL.int .i64 (IE.var .i64 11) (AL.int .i64 (IE.var .i64 12) (AL.int .i64 (IE.var .i64 13) (AL.int .i64 (IE.var .i64 14) (AL.int .i64 (IE.var .i64 15) AL.nil)))))))))) :: pcholds_87) (some []))
def wholds_57 : VW := (VW.done ((BE.le (IE.lit 0) (IE.fn .i64 3 (AL.int .i64 (IE.var .i64 4) (AL.int .i64 (IE.var .i64 5) (AL.int .i64 (IE.var .i64 6) (AL.int .i64 (IE.var .i64 7) (AL.int .i64 (IE.var .i64 12) (AL.int .i64 (IE.var .i64 13) (AL.int .i64 (IE.var .i64 14) (AL.int .i64 (IE.var .i64 15) AL.nil)))))))))) :: pcholds_112) (some [(G.b (BE.lit true) (BE.lit false))]))
def wholds_58 : VW := (VW.done ((BE.not (BE.le (IE.lit 0) (IE.fn .i64 3 (AL.int .i64 (IE.var .i64 4) (AL.int .i64 (IE.var .i64 5) (AL.int .i64 (IE.var .i64 6) (AL.int .i64 (IE.var .i64 7) (AL.int .i64 (IE.var .i64 12) (AL.int .i64 (IE.var .i64 13) (AL.int .i64 (IE.var .i64 14) (AL.int .i64 (IE.var .i64 15) AL.nil))))))))))) :: pcholds_112) (some []))
def wholds_59 : VW := (VW.done ((BE.le (IE.fn .i64 3 (AL.int .i64 (IE.var .i64 8) (AL.int .i64 (IE.var .i64 9) (AL.int .i64 (IE.var .i64 10) (AL.int .i64 (IE.var .i64 11) (AL.int .i64 (IE.var .i64 12) (AL.int .i64 (IE.var .i64 13) (AL.int .i64 (IE.var .i64 14) (AL.int .i64 (IE.var .i64 15) AL.nil))))))))) (IE.lit 0)) :: pcholds_63) (some []))
def wholds_60 : VW := (VW.done ((BE.le (IE.fn .i64 3 (AL.int .i64 (IE.var .i64 4) (AL.int .i64 (IE.var .i64 5) (AL.int .i64 (IE.var .i64 6) (AL.int .i64 (IE.var .i64 7) (AL.int .i64 (IE.var .i64 12) (AL.int .i64 (IE.var .i64 13) (AL.int .i64 (IE.var .i64 14) (AL.int .i64 (IE.var .i64 15) AL.nil))))))))) (IE.lit 0)) :: pcholds_88) (some [(G.b (BE.lit true) (BE.lit false))]))
def wholds_61 : VW := (VW.done ((BE.not (BE.le (IE.fn .i64 3 (AL.int .i64 (IE.var .i64 4) (AL.int .i64 (IE.var .i64 5) (AL.int .i64 (IE.var .i64 6) (AL.int .i64 (IE.var .i64 7) (AL.int .i64 (IE.var .i64 12) (AL.int .i64 (IE.var .i64 13) (AL.int .i64 (IE.var .i64 14) (AL.int .i64 (IE.var .i64 15) AL.nil))))))))) (IE.lit 0))) :: pcholds_88) (some []))
def wholds_62 : VW := (VW.done ((BE.le (IE.lit 0) (IE.fn .i64 3 (AL.int .i64 (IE.var .i64 8) (AL.int .i64 (IE.var .i64 9) (AL.int .i64 (IE.var .i64 10) (AL.int .i64 (IE.var .i64 11) (AL.int .i64 (IE.var .i64 12) (AL.int .i64 (IE.var .i64 13) (AL.int .i64 (IE.var .i64 14) (AL.int .i64 (IE.var .i64 15) AL.nil)))))))))) :: pcholds_64) (some []))
def wholds_63 : VW := (VW.done ((BE.le (IE.lit 0) (IE.fn .i64 3 (AL.int .i64 (IE.var .i64 4) (AL.int .i64 (IE.var .i64 5) (AL.int .i64 (IE.var .i64 6) (AL.int .i64 (IE.var .i64 7) (AL.int .i64 (IE.var .i64 12) (AL.int .i64 (IE.var .i64 13) (AL.int .i64 (IE.var .i64 14) (AL.int .i64 (IE.var .i64 15) AL.nil)))))))))) :: pcholds_89) (some [(G.b (BE.lit true) (BE.lit false))]))
def wholds_64 : VW := (VW.done ((BE.not (BE.le (IE.lit 0) (IE.fn .i64 3 (AL.int .i64 (IE.var .i64 4) (AL.int .i64 (IE.var .i64 5) (AL.int .i64 (IE.var .i64 6) (AL.int .i64 (IE.var .i64 7) (AL.int .i64 (IE.var .i64 12) (AL.int .i64 (IE.var .i64 13) (AL.int .i64 (IE.var .i64 14) (AL.int .i64 (IE.var .i64 15) AL.nil))))))))))) :: pcholds_89) (some []))
def wholds_65 : VW := (VW.done ((BE.eq (IE.var .i64 7) (IE.var .i64 11)) :: pcholds_90) (some []))
def wholds_66 : VW := (VW.done ((BE.not (BE.eq (IE.var .i64 7) (IE.var .i64 11))) :: pcholds_90) (some [(G.b (BE.lit true) (BE.lit false))]))
def wholds_67 : VW := (VW.done ((BE.not (BE.eq (IE.var .i64 6) (IE.var .i64 10))) :: pcholds_65) (some [(G.b (BE.lit true) (BE.lit false))]))
def wholds_68 : VW := (VW.done ((BE.not (BE.eq (IE.var .i64 5) (IE.var .i64 9))) :: pcholds_46) (some [(G.b (BE.lit true) (BE.lit false))]))
def wholds_69 : VW := (VW.done ((BE.not (BE.eq (IE.var .i64 4) (IE.var .i64 8))) :: pcholds_31) (some [(G.b (BE.lit true) (BE.lit false))]))
def wholds_70 : VW := (VW.done ((BE.eq (IE.var .i64 7) (IE.var .i64 11)) :: pcholds_91) (some [(G.b (BE.lit true) (BE.lit false))]))
def wholds_71 : VW := (VW.done ((BE.le (IE.fn .i64 3 (AL.int .i64 (IE.var .i64 8) (AL.int .i64 (IE.var .i64 9) (AL.int .i64 (IE.var .i64 10) (AL.int .i64 (IE.var .i64 11) (AL.int .i64 (IE.var .i64 12) (AL.int .i64 (IE.var .i64 13) (AL.int .i64 (IE.var .i64 14) (AL.int .i64 (IE.var .i64 15) AL.nil))))))))) (IE.lit 0)) :: pcholds_133) (some []))
def wholds_72 : VW := (VW.done ((BE.le (IE.fn .i64 3 (AL.int .i64 (IE.var .i64 4) (AL.int .i64 (IE.var .i64 5) (AL.int .i64 (IE.var .i64 6) (AL.int .i64 (IE.var .i64 7) (AL.int .i64 (IE.var .i64 12) (AL.int .i64 (IE.var .i64 13) (AL.int .i64 (IE.var .i64 14) (AL.int .i64 (IE.var .i64 15) AL.nil))))))))) (IE.lit 0)) :: pcholds_146) (some [(G.b (BE.lit true) (BE.lit false))]))
def wholds_73 : VW := (VW.done ((BE.not (BE.le (IE.fn .i64 3 (AL.int .i64 (IE.var .i64 4) (AL.int .i64 (IE.var .i64 5) (AL.int .i64 (IE.var .i64 6) (AL.int .i64 (IE.var .i64 7) (AL.int .i64 (IE.var .i64 12) (AL.int .i64 (IE.var .i64 13) (AL.int .i64 (IE.var .i64 14) (AL.int .i64 (IE.var .i64 15) AL.nil))))))))) (IE.lit 0))) :: pcholds_146) (some []))
def wholds_74 : VW := (VW.done ((BE.le (IE.lit 0) (IE.fn .i64 3 (AL.int .i64 (IE.var .i64 8) (AL.int .i64 (IE.var .i64 9) (AL.int .i64 (IE.var .i64 10) (AL.int .i64 (IE.var .i64 11) (AL.int .i64 (IE.var .i64 12) (AL.int .i64 (IE.var .i64 13) (AL.int .i64 (IE.var .i64 14) (AL.int .i64 (IE.var .i64 15) AL.nil)))))))))) :: pcholds_134) (some []))
def wholds_75 : VW := (VW.done ((BE.le (IE.lit 0) (IE.fn .i64 3 (AL.int .i64 (IE.var .i64 4) (AL.int .i64 (IE.var .i64 5) (AL.int .i64 (IE.var .i64 6) (AL.int .i64 (IE.var .i64 7) (AL.int .i64 (IE.var .i64 12) (AL.int .i64 (IE.var .i64 13) (AL.int .i64 (IE.var .i64 14) (AL.int .i64 (IE.var .i64 15) AL.nil)))))))))) :: pcholds_147) (some [(G.b (BE.lit true) (BE.lit false))]))
def wholds_76 : VW := (VW.done ((BE.not (BE.le (IE.lit 0) (IE.fn .i64 3 (AL.int .i64 (IE.var .i64 4) (AL.int .i64 (IE.var .i64 5) (AL.int .i64 (IE.var .i64 6) (AL.int .i64 (IE.var .i64 7) (AL.int .i64 (IE.var .i64 12) (AL.int .i64 (IE.var .i64 13) (AL.int .i64 (IE.var .i64 14) (AL.int .i64 (IE.var .i64 15) AL.nil))))))))))) :: pcholds_147) (some []))
def wholds_77 : VW := (VW.done ((BE.le (IE.fn .i64 3 (AL.int .i64 (IE.var .i64 8) (AL.int .i64 (IE.var .i64 9) (AL.int .i64 (IE.var .i64 10) (AL.int .i64 (IE.var .i64 11) (AL.int .i64 (IE.var .i64 12) (AL.int .i64 (IE.var .i64 13) (AL.int .i64 (IE.var .i64 14) (AL.int .i64 (IE.var .i64 15) AL.nil))))))))) (IE.lit 0)) :: pcholds_114) (some []))
def wholds_78 : VW := (VW.done ((BE.le (IE.fn .i64 3 (AL.int .i64 (IE.var .i64 4) (AL.int .i64 (IE.var .i64 5) (AL.int .i64 (IE.var .i64 6) (AL.int .i64 (IE.var .i64 7) (AL.int .i64 (IE.var .i64 12) (AL.int .i64 (IE.var .i64 13) (AL.int .i64 (IE.var .i64 14) (AL.int .i64 (IE.var .i64 15) AL.nil))))))))) (IE.lit 0)) :: pcholds_135) (some [(G.b (BE.lit true) (BE.lit false))]))
def wholds_79 : VW := (VW.done ((BE.not (BE.le (IE.fn .i64 3 (AL.int .i64 (IE.var .i64 4) (AL.int .i64 (IE.var .i64 5) (AL.int .i64 (IE.var .i64 6) (AL.int .i64 (IE.var .i64 7) (AL.int .i64 (IE.var .i64 12) (AL.int .i64 (IE.var .i64 13) (AL.int .i64 (IE.var .i64 14) (AL.int .i64 (IE.var .i64 15) AL.nil))))))))) (IE.lit 0))) :: pcholds_135) (some []))
def wholds_80 : VW := (VW.done ((BE.le (IE.lit 0) (IE.fn .i64 3 (AL.int .i64 (IE.var .i64 8) (AL.int .i64 (IE.var .i64 9) (AL.int .i64 (IE.var .i64 10) (AL.int .i64 (IE.var .i64 11) (AL.int .i64 (IE.var .i64 12) (AL.int .i64 (IE.var .i64 13) (AL.int .i64 (IE.var .i64 14) (AL.int .i64 (IE.var .i64 15) AL.nil)))))))))) :: pcholds_115) (some []))
def wholds_81 : VW := (VW.done ((BE.le (IE.lit 0) (IE.fn .i64 3 (AL.int .i64 (IE.var .i64 4) (AL.int .i64 (IE.var .i64 5) (AL.int .i64 (IE.var .i64 6) (AL.int .i64 (IE.var .i64 7) (AL.int .i64 (IE.var .i64 12) (AL.int .i64 (IE.var .i64 13) (AL.int .i64 (IE.var .i64 14) (AL.int .i64 (IE.var .i64 15) AL.nil)))))))))) :: pcholds_136) (some [(G.b (BE.lit true) (BE.lit false))]))
def wholds_82 : VW := (VW.done ((BE.not (BE.le (IE.lit 0) (IE.fn .i64 3 (AL.int .i64 (IE.var .i64 4) (AL.int .i64 (IE.var .i64 5) (AL.int .i64 (IE.var .i64 6) (AL.int .i64 (IE.var .i64 7) (AL.int .i64 (IE.var .i64 12) (AL.int .i64 (IE.var .i64 13) (AL.int .i64 (IE.var .i64 14) (AL.int .i64 (IE.var .i64 15) AL.nil))))))))))) :: pcholds_136) (some []))
def wholds_83 : VW := (VW.done ((BE.le (IE.fn .i64 3 (AL.int .i64 (IE.var .i64 8) (AL.int .i64 (IE.var .i64 9) (AL.int .i64 (IE.var .i64 10) (AL.int .i64 (IE.var .i64 11) (AL.int .i64 (IE.var .i64 12) (AL.int .i64 (IE.var .i64 13) (AL.int .i64 (IE.var .i64 14) (AL.int .i64 (IE.var .i64 15) AL.nil))))))))) (IE.lit 0)) :: pcholds_93) (some []))
def wholds_84 : VW := (VW.done ((BE.le (IE.fn .i64 3 (AL.int .i64 (IE.var .i64 4) (AL.int .i64 (IE.var .i64 5) (AL.int .i64 (IE.var .i64 6) (AL.int .i64 (IE.var .i64 7) (AL.int .i64 (IE.var .i64 12) (AL.int .i64 (IE.var .i64 13) (AL.int .i64 (IE.var .i64 14) (AL.int .i64 (IE.var .i64 15) AL.nil))))))))) (IE.lit 0)) :: pcholds_116) (some [(G.b (BE.lit true) (BE.lit false))]))
def wholds_85 : VW := (VW.done ((BE.not (BE.le (IE.fn .i64 3 (AL.int .i64 (IE.var .i64 4) (AL.int .i64 (IE.var .i64 5) (AL.int .i64 (IE.var .i64 6) (AL.int .i64 (IE.var .i64 7) (AL.int .i64 (IE.var .i64 12) (AL.int .i64 (IE.var .i64 13) (AL.int .i64 (IE.var .i64 14) (AL.int .i64 (IE.var .i64 15) AL.nil))))))))) (IE.lit 0))) :: pcholds_116) (some []))
def wholds_86 : VW := (VW.done ((BE.le (IE.lit 0) (IE.fn .i64 3 (AL.int .i64 (IE.var .i64 8) (AL.int .i64 (IE.var .i64 9) (AL.int .i64 (IE.var .i64 10) (AL.int .i64 (IE.var .i64 11) (AL.int .i64 (IE.var .i64 12) (AL.int .i64 (IE.var .i64 13) (AL.int .i64 (IE.var .i64 14) (AL.int .i64 (IE.var .i64 15) AL.nil)))))))))) :: pcholds_94) (some []))
def wholds_87 : VW := (VW.done ((BE.le (IE.lit 0) (IE.fn .i64 3 (AL.int .i64 (IE.var .i64 4) (AL.int .i64 (IE.var .i64 5) (AL.int .i64 (IE.var .i64 6) (AL.int .i64 (IE.var .i64 7) (AL.int .i64 (IE.var .i64 12) (AL.int .i64 (IE.var .i64 13) (AL.int .i64 (IE.var .i64 14) (AL.int .i64 (IE.var .i64 15) AL.nil)))))))))) :: pcholds_117) (some [(G.b (BE.lit true) (BE.lit false))]))
def wholds_88 : VW := (VW.done ((BE.not (BE.le (IE.lit 0) (IE.fn .i64 3 (AL.int .i64 (IE.var .i64 4) (AL.int .i64 (IE.var .i64 5) (AL.int .i64 (IE.var .i64 6) (AL.int .i64 (IE.var .i64 7) (AL.int .i64 (IE.var .i64 12) (AL.int .i64 (IE.var .i64 13) (AL.int .i64 (IE.var .i64 14) (AL.int .i64 (IE.var .i64 15) AL.nil))))))))))) :: pcholds_117) (some []))
def wholds_89 : VW := (VW.done ((BE.le (IE.fn .i64 3 (AL.int .i64 (IE.var .i64 8) (AL.int .i64 (IE.var .i64 9) (AL.int .i64 (IE.var .i64 10) (AL.int .i64 (IE.var .i64 11) (AL.int .i64 (IE.var .i64 12) (AL.int .i64 (IE.var .i64 13) (AL.int .i64 (IE.var .i64 14) (AL.int .i64 (IE.var .i64 15) AL.nil))))))))) (IE.lit 0)) :: pcholds_68) (some []))
def wholds_90 : VW := (VW.done ((BE.le (IE.fn .i64 3 (AL.int .i64 (IE.var .i64 4) (AL.int .i64 (IE.var .i64 5) (AL.int .i64 (IE.var .i64 6) (AL.int .i64 (IE.var .i64 7) (AL.int .i64 (IE.var .i64 12) (AL.int .i64 (IE.var .i64 13) (AL.int .i64 (IE.var .i64 14) (AL.int .i64 (IE.var .i64 15) AL.nil))))))))) (IE.lit 0)) :: pcholds_95) (some [(G.b (BE.lit true) (BE.lit false))]))
def wholds_91 : VW := (VW.done ((BE.not (BE.le (IE.fn .i64 3 (AL.int .i64 (IE.var .i64 4) (AL.int .i64 (IE.var .i64 5) (AL.int .i64 (IE.var .i64 6) (AL.int .i64 (IE.var .i64 7) (AL.int .i64 (IE.var .i64 12) (AL.int .i64 (IE.var .i64 13) (AL.int .i64 (IE.var .i64 14) (AL.int .i64 (IE.var .i64 15) AL.nil))))))))) (IE.lit 0))) :: pcholds_95) (some []))
def wholds_92 : VW := (VW.done ((BE.le (IE.lit 0) (IE.fn .i64 3 (AL.int .i64 (IE.var .i64 8) (AL.int .i64 (IE.var .i64 9) (AL.int .i64 (IE.var .i64 10) (AL.int .i64 (IE.var .i64 11) (AL.int .i64 (IE.var .i64 12) (AL.int .i64 (IE.var .i64 13) (AL.int .i64 (IE.var .i64 14) (AL.int .i64 (IE.var .i64 15) AL.nil)))))))))) :: pcholds_69) (some []))
def wholds_93 : VW := (VW.done ((BE.le (IE.lit 0) (IE.fn .i64 3 (AL.int .i64 (IE.var .i64 4) (AL.int .i64 (IE.var .i64 5) (AL.int .i64 (IE.var .i64 6) (AL.int .i64 (IE.var .i64 7) (AL.int .i64 (IE.var .i64 12) (AL.int .i64 (IE.var .i64 13) (AL.int .i64 (IE.var .i64 14) (AL.int .i64 (IE.var .i64 15) AL.nil)))))))))) :: pcholds_96) (some [(G.b (BE.lit true) (BE.lit false))]))
def wholds_94 : VW := (VW.done ((BE.not (BE.le (IE.lit 0) (IE.fn .i64 3 (AL.int .i64 (IE.var .i64 4) (AL.int .i64 (IE.var .i64 5) (AL.int .i64 (IE.var .i64 6) (AL.int .i64 (IE.var .i64 7) (AL.int .i64 (IE.var .i64 12) (AL.int .i64 (IE.var .i64 13) (AL.int .i64 (IE.var .i64 14) (AL.int .i64 (IE.var .i64 15) AL.nil))))))))))) :: pcholds_96) (some []))
def wholds_95 : VW := (VW.done ((BE.eq (IE.var .i64 7) (IE.var .i64 11)) :: pcholds_70) (some []))
def wholds_96 : VW := (VW.done ((BE.not (BE.eq (IE.var .i64 7) (IE.var .i64 11))) :: pcholds_70) (some [(G.b (BE.lit true) (BE.lit false))]))
def wholds_97 : VW := (VW.done ((BE.not (BE.eq (IE.var .i64 6) (IE.var .i64 10))) :: pcholds_49) (some [(G.b (BE.lit true) (BE.lit false))]))
def wholds_98 : VW := (VW.done ((BE.not (BE.eq (IE.var .i64 5) (IE.var .i64 9))) :: pcholds_33) (some [(G.b (BE.lit true) (BE.lit false))]))
def wholds_99 : VW := (VW.done ((BE.not (BE.eq (IE.var .i64 4) (IE.var .i64 8))) :: pcholds_22) (some [(G.b (BE.lit true) (BE.lit false))]))
def wholds_100 : VW := (VW.done ((BE.eq (IE.var .i64 7) (IE.var .i64 11)) :: pcholds_71) (some [(G.b (BE.lit true) (BE.lit false))]))
def wholds_101 : VW := (VW.done ((BE.le (IE.fn .i64 3 (AL.int .i64 (IE.var .i64 8) (AL.int .i64 (IE.var .i64 9) (AL.int .i64 (IE.var .i64 10) (AL.int .i64 (IE.var .i64 11) (AL.int .i64 (IE.var .i64 12) (AL.int .i64 (IE.var .i64 13) (AL.int .i64 (IE.var .i64 14) (AL.int .i64 (IE.var .i64 15) AL.nil))))))))) (IE.lit 0)) :: pcholds_118) (some []))
def wholds_102 : VW := (VW.done ((BE.le (IE.fn .i64 3 (AL.int .i64 (IE.var .i64 4) (AL.int .i64 (IE.var .i64 5) (AL.int .i64 (IE.var .i64 6) (AL.int .i64 (IE.var .i64 7) (AL.int .i64 (IE.var .i64 12) (AL.int .i64 (IE.var .i64 13) (AL.int .i64 (IE.var .i64 14) (AL.int .i64 (IE.var .i64 15) AL.nil))))))))) (IE.lit 0)) :: pcholds_137) (some [(G.b (BE.lit true) (BE.lit false))]))
def wholds_103 : VW := (VW.done ((BE.not (BE.le (IE.fn .i64 3 (AL.int .i64 (IE.var .i64 4) (AL.int .i64 (IE.var .i64 5) (AL.int .i64 (IE.var .i64 6) (AL.int .i64 (IE.var .i64 7) (AL.int .i64 (IE.var .i64 12) (AL.int .i64 (IE.var .i64 13) (AL.int .i64 (IE.var .i64 14) (AL.int .i64 (IE.var .i64 15) AL.nil))))))))) (IE.lit 0))) :: pcholds_137) (some []))
def wholds_104 : VW := (VW.done ((BE.le (IE.lit 0) (IE.fn .i64 3 (AL.int .i64 (IE.var .i64 8) (AL.int .i64 (IE.var .i64 9) (AL.int .i64 (IE.var .i64 10) (AL.int .i64 (IE.var .i64 11) (AL.int .i64 (IE.var .i64 12) (AL.int .i64 (IE.var .i64 13) (AL.int .i64 (IE.var .i64 14) (AL.int .i64 (IE.var .i64 15) AL.nil)))))))))) :: pcholds_119) (some []))
def wholds_105 : VW := (VW.done ((BE.le (IE.lit 0) (IE.fn .i64 3 (AL.int .i64 (IE.var .i64 4) (AL.int .i64 (IE.var .i64 5) (AL.int .i64 (IE.var .i64 6) (AL.int .i64 (IE.var .i64 7) (AL.int .i64 (IE.var .i64 12) (AL.int .i64 (IE.var .i64 13) (AL.int .i64 (IE.var .i64 14) (AL.int .i64 (IE.var .i64 15) AL.nil)))))))))) :: pcholds_138) (some [(G.b (BE.lit true) (BE.lit false))]))
def wholds_106 : VW := (VW.done ((BE.not (BE.le (IE.lit 0) (IE.fn .i64 3 (AL.int .i64 (IE.var .i64 4) (AL.int .i64 (IE.var .i64 5) (AL.int .i64 (IE.var .i64 6) (AL.int .i64 (IE.var .i64 7) (AL.int .i64 (IE.var .i64 12) (AL.int .i64 (IE.var .i64 13) (AL.int .i64 (IE.var .i64 14) (AL.int .i64 (IE.var .i64 15) AL.nil))))))))))) :: pcholds_138) (some []))
def wholds_107 : VW := (VW.done ((BE.le (IE.fn .i64 3 (AL.int .i64 (IE.var .i64 8) (AL.int .i64 (IE.var .i64 9) (AL.int .i64 (IE.var .i64 10) (AL.int .i64 (IE.var .i64 11) (AL.int .i64 (IE.var .i64 12) (AL.int .i64 (IE.var .i64 13) (AL.int .i64 (IE.var .i64 14) (AL.int .i64 (IE.var .i64 15) AL.nil))))))))) (IE.lit 0)) :: pcholds_98) (some []))
def wholds_108 : VW := (VW.done ((BE.le (IE.fn .i64 3 (AL.int .i64 (IE.var .i64 4) (AL.int .i64 (IE.var .i64 5) (AL.int .i64 (IE.var .i64 6) (AL.int .i64 (IE.var .i64 7) (AL.int .i64 (IE.var .i64 12) (AL.int .i64 (IE.var .i64 13) (AL.int .i64 (IE.var .i64 14) (AL.int .i64 (IE.var .i64 15) AL.nil))))))))) (IE.lit 0)) :: pcholds_120) (some [(G.b (BE.lit true) (BE.lit false))]))
def wholds_109 : VW := (VW.done ((BE.not (BE.le (IE.fn .i64 3 (AL.int .i64 (IE.var .i64 4) (AL.int .i64 (IE.var .i64 5) (AL.int .i64 (IE.var .i64 6) (AL.int .i64 (IE.var .i64 7) (AL.int .i64 (IE.var .i64 12) (AL.int .i64 (IE.var .i64 13) (AL.int .i64 (IE.var .i64 14) (AL.int .i64 (IE.var .i64 15) AL.nil))))))))) (IE.lit 0))) :: pcholds_120) (some []))
def wholds_110 : VW := (VW.done ((BE.le (IE.lit 0) (IE.fn .i64 3 (AL.int .i64 (IE.var .i64 8) (AL.int .i64 (IE.var .i64 9) (AL.int .i64 (IE.var .i64 10) (AL.int .i64 (IE.var .i64 11) (AL.int .i64 (IE.var .i64 12) (AL.int .i64 (IE.var .i64 13) (AL.int .i64 (IE.var .i64 14) (AL.int .i64 (IE.var .i64 15) AL.nil)))))))))) :: pcholds_99) (some []))
def wholds_111 : VW := (VW.done ((BE.le (IE.lit 0) (IE.fn .i64 3 (AL.int .i64 (IE.var .i64 4) (AL.int .i64 (IE.var .i64 5) (AL.int .i64 (IE.var .i64 6) (AL.int .i64 (IE.var .i64 7) (AL.int .i64 (IE.var .i64 12) (AL.int .i64 (IE.var .i64 13) (AL.int .i64 (IE.var .i64 14) (AL.int .i64 (IE.var .i64 15) AL.nil)))))))))) :: pcholds_121) (some [(G.b (BE.lit true) (BE.lit false))]))
def wholds_112 : VW := (VW.done ((BE.not (BE.le (IE.lit 0) (IE.fn .i64 3 (AL.int .i64 (IE.var .i64 4) (AL.int .i64 (IE.var .i64 5) (AL.int .i64 (IE.var .i64 6) (AL.int .i64 (IE.var .i64 7) (AL.int .i64 (IE.var .i64 12) (AL.int .i64 (IE.var .i64 13) (AL.int .i64 (IE.var .i64 14) (AL.int .i64 (IE.var .i64 15) AL.nil))))))))))) :: pcholds_121) (some []))
def wholds_113 : VW := (VW.done ((BE.le (IE.fn .i64 3 (AL.int .i64 (IE.var .i64 8) (AL.int .i64 (IE.var .i64 9) (AL.int .i64 (IE.var .i64 10) (AL.int .i64 (IE.var .i64 11) (AL.int .i64 (IE.var .i64 12) (AL.int .i64 (IE.var .i64 13) (AL.int .i64 (IE.var .i64 14) (AL.int .i64 (IE.var .i64 15) AL.nil))))))))) (IE.lit 0)) :: pcholds_73) (some []))
def wholds_114 : VW := (VW.done ((BE.le (IE.fn .i64 3 (AL.int .i64 (IE.var .i64 4) (AL.int .i64 (IE.var .i64 5) (AL.int .i64 (IE.var .i64 6) (AL.int .i64 (IE.var .i64 7) (AL.int .i64 (IE.var .i64 12) (AL.int .i64 (IE.var .i64 13) (AL.int .i64 (IE.var .i64 14) (AL.int .i64 (IE.var .i64 15) AL.nil))))))))) (IE.lit 0)) :: pcholds_100) (some [(G.b (BE.lit true) (BE.lit false))]))
def wholds_115 : VW := (VW.done ((BE.not (BE.le (IE.fn .i64 3 (AL.int .i64 (IE.var .i64 4) (AL.int .i64 (IE.var .i64 5) (AL.int .i64 (IE.var .i64 6) (AL.int .i64 (IE.var .i64 7) (AL.int .i64 (IE.var .i64 12) (AL.int .i64 (IE.var .i64 13) (AL.int .i64 (IE.var .i64 14) (AL.int .i64 (IE.var .i64 15) AL.nil))))))))) (IE.lit 0))) :: pcholds_100) (some []))
def wholds_116 : VW := (VW.done ((BE.le (IE.lit 0) (IE.fn .i64 3 (AL.int .i64 (IE.var .i64 8) (AL.int .i64 (IE.var .i64 9) (AL.int .i64 (IE.var .i64 10) (AL.int .i64 (IE.var .i64 11) (AL.int .i64 (IE.var .i64 12) (AL.int .i64 (IE.var .i64 13) (AL.int .i64 (IE.var .i64 14) (AL.int .i64 (IE.var .i64 15) AL.nil)))))))))) :: pcholds_74) (some []))
def wholds_117 : VW := (VW.done ((BE.le (IE.lit 0) (IE.fn .i64 3 (AL.int .i64 (IE.var .i64 4) (AL.int .i64 (IE.var .i64 5) (AL.int .i64 (IE.var .i64 6) (AL.int .i64 (IE.var .i64 7) (AL.int .i64 (IE.var .i64 12) (AL.int .i64 (IE.var .i64 13) (AL.int .i64 (IE.var .i64 14) (AL.int .i64 (IE.var .i64 15) AL.nil)))))))))) :: pcholds_101) (some [(G.b (BE.lit true) (BE.lit false))]))
def wholds_118 : VW := (VW.done ((BE.not (BE.le (IE.lit 0) (IE.fn .i64 3 (AL.int .i64 (IE.var .i64 4) (AL.int .i64 (IE.var .i64 5) (AL.int .i64 (IE.var .i64 6) (AL.int .i64 (IE.var .i64 7) (AL.int .i64 (IE.var .i64 12) (AL.int .i64 (IE.var .i64 13) (AL.int .i64 (IE.var .i64 14) (AL.int .i64 (IE.var .i64 15) AL.nil))))))))))) :: pcholds_101) (some []))
def wholds_119 : VW := (VW.done ((BE.le (IE.fn .i64 3 (AL.int .i64 (IE.var .i64 8) (AL.int .i64 (IE.var .i64 9) (AL.int .i64 (IE.var .i64 10) (AL.int .i64 (IE.var .i64 11) (AL.int .i64 (IE.var .i64 12) (AL.int .i64 (IE.var .i64 13) (AL.int .i64 (IE.var .i64 14) (AL.int .i64 (IE.var .i64 15) AL.nil))))))))) (IE.lit 0)) :: pcholds_52) (some []))
def wholds_120 : VW := (VW.done ((BE.le (IE.fn .i64 3 (AL.int .i64 (IE.var .i64 4) (AL.int .i64 (IE.var .i64 5) (AL.int .i64 (IE.var .i64 6) (AL.int .i64 (IE.var .i64 7) (AL.int .i64 (IE.var .i64 12) (AL.int .i64 (IE.var .i64 13) (AL.int .i64 (IE.var .i64 14) (AL.int .i64 (IE.var .i64 15) AL.nil))))))))) (IE.lit 0)) :: pcholds_75) (some [(G.b (BE.lit true) (BE.lit false))]))
def wholds_121 : VW := (VW.done ((BE.not (BE.le (IE.fn .i64 3 (AL.int .i64 (IE.var .i64 4) (AL.int .i64 (IE.var .i64 5) (AL.int .i64 (IE.var .i64 6) (AL.int .i64 (IE.var .i64 7) (AL.int .i64 (IE.var .i64 12) (AL.int .i64 (IE.var .i64 13) (AL.int .i64 (IE.var .i64 14) (AL.int .i64 (IE.var .i64 15) AL.nil))))))))) (IE.lit 0))) :: pcholds_75) (some []))
def wholds_122 : VW := (VW.done ((BE.le (IE.lit 0) (IE.fn .i64 3 (AL.int .i64 (IE.var .i64 8) (AL.int .i64 (IE.var .i64 9) (AL.int .i64 (IE.var .i64 10) (AL.int .i64 (IE.var .i64 11) (AL.int .i64 (IE.var .i64 12) (AL.int .i64 (IE.var .i64 13) (AL.int .i64 (IE.var .i64 14) (AL.int .i64 (IE.var .i64 15) AL.nil)))))))))) :: pcholds_53) (some []))
def wholds_123 : VW := (VW.done ((BE.le (IE.lit 0) (IE.fn .i64 3 (AL.int .i64 (IE.var .i64 4) (AL.int .i64 (IE.var .i64 5) (AL.int .i64 (IE.var .i64 6) (AL.int .i64 (IE.var .i64 7) (AL.int .i64 (IE.var .i64 12) (AL.int .i64 (IE.var .i64 13) (AL.int .i64 (IE.var .i64 14) (AL.int .i64 (IE.var .i64 15) AL.nil)))))))))) :: pcholds_76) (some [(G.b (BE.lit true) (BE.lit false))]))
def wholds_124 : VW := (VW.done ((BE.not (BE.le (IE.lit 0) (IE.fn .i64 3 (AL.int .i64 (IE.var .i64 4) (AL.int .i64 (IE.var .i64 5) (AL.int .i64 (IE.var .i64 6) (AL.int .i64 (IE.var .i64 7) (AL.int .i64 (IE.var .i64 12) (AL.int .i64 (IE.var .i64 13) (AL.int .i64 (IE.var .i64 14) (AL.int .i64 (IE.var .i64 15) AL.nil))))))))))) :: pcholds_76) (some []))
def wholds_125 : VW := (VW.done ((BE.eq (IE.var .i64 7) (IE.var .i64 11)) :: pcholds_36) (some []))
def wholds_126 : VW := (VW.done ((BE.not (BE.eq (IE.var .i64 7) (IE.var .i64 11))) :: pcholds_36) (some [(G.b (BE.lit true) (BE.lit false))]))
def wholds_127 : VW := (VW.done ((BE.not (BE.eq (IE.var .i64 6) (IE.var .i64 10))) :: pcholds_24) (some [(G.b (BE.lit true) (BE.lit false))]))
def wholds_128 : VW := (VW.done ((BE.not (BE.eq (IE.var .i64 5) (IE.var .i64 9))) :: pcholds_17) (some [(G.b (BE.lit true) (BE.lit false))]))
def wholds_129 : VW := (VW.done ((BE.not (BE.eq (IE.var .i64 4) (IE.var .i64 8))) :: pcholds_12) (some [(G.b (BE.lit true) (BE.lit false))]))
def wholds_130 : VW := (VW.done ((BE.eq (IE.var .i64 7) (IE.var .i64 11)) :: pcholds_37) (some [(G.b (BE.lit true) (BE.lit false))]))
def wholds_131 : VW := (VW.done ((BE.le (IE.fn .i64 3 (AL.int .i64 (IE.var .i64 8) (AL.int .i64 (IE.var .i64 9) (AL.int .i64 (IE.var .i64 10) (AL.int .i64 (IE.var .i64 11) (AL.int .i64 (IE.var .i64 12) (AL.int .i64 (IE.var .i64 13) (AL.int .i64 (IE.var .i64 14) (AL.int .i64 (IE.var .i64 15) AL.nil))))))))) (IE.lit 0)) :: pcholds_77) (some []))
def wholds_132 : VW := (VW.done ((BE.le (IE.fn .i64 3 (AL.int .i64 (IE.var .i64 4) (AL.int .i64 (IE.var .i64 5) (AL.int .i64 (IE.var .i64 6) (AL.int .i64 (IE.var .i64 7) (AL.int .i64 (IE.var .i64 12) (AL.int .i64 (IE.var .i64 13) (AL.int .i64 (IE.var .i64 14) (AL.int .i64 (IE.var .i64 15) AL.nil))))))))) (IE.lit 0)) :: pcholds_102) (some [(G.b (BE.lit true) (BE.lit false))]))
def wholds_133 : VW := (VW.done ((BE.not (BE.le (IE.fn .i64 3 (AL.int .i64 (IE.var .i64 4) (AL.int .i64 (IE.var .i64 5) (AL.int .i64 (IE.var .i64 6) (AL.int .i64 (IE.var .i64 7) (AL.int .i64 (IE.var .i64 12) (AL.int .i64 (IE.var .i64 13) (AL.int .i64 (IE.var .i64 14) (AL.int .i64 (IE.var .i64 15) AL.nil))))))))) (IE.lit 0))) :: pcholds_102) (some []))
def wholds_134 : VW := (VW.done ((BE.le (IE.lit 0) (IE.fn .i64 3 (AL.int .i64 (IE.var .i64 8) (AL.int .i64 (IE.var .i64 9) (AL.int .i64 (IE.var .i64 10) (AL.int .i64 (IE.var .i64 11) (AL.int .i64 (IE.var .i64 12) (AL.int .i64 (IE.var .i64 13) (AL.int .i64 (IE.var .i64 14) (AL.int .i64 (IE.var .i64 15) AL.nil)))))))))) :: pcholds_78) (some []))
def wholds_135 : VW := (VW.done ((BE.le (IE.lit 0) (IE.fn .i64 3 (AL.int .i64 (IE.var .i64 4) (AL.int .i64 (IE.var .i64 5) (AL.int .i64 (IE.var .i64 6) (AL.int .i64 (IE.var .i64 7) (AL.int .i64 (IE.var .i64 12) (AL.int .i64 (IE.var .i64 13) (AL.int .i64 (IE.var .i64 14) (AL.int .i64 (IE.var .i64 15) AL.nil)))))))))) :: pcholds_103) (some [(G.b (BE.lit true) (BE.lit false))]))
def wholds_136 : VW := (VW.done ((BE.not (BE.le (IE.lit 0) (IE.fn .i64 3 (AL.int .i64 (IE.var .i64 4) (AL.int .i64 (IE.var .i64 5) (AL.int .i64 (IE.var .i64 6) (AL.int .i64 (IE.var .i64 7) (AL.int .i64 (IE.var .i64 12) (AL.int .i64 (IE.var .i64 13) (AL.int .i64 (IE.var .i64 14) (AL.int .i64 (IE.var .i64 15) AL.nil))))))))))) :: pcholds_103) (some []))
def wholds_137 : VW := (VW.done ((BE.le (IE.fn .i64 3 (AL.int .i64 (IE.var .i64 8) (AL.int .i64 (IE.var .i64 9) (AL.int .i64 (IE.var .i64 10) (AL.int .i64 (IE.var .i64 11) (AL.int .i64 (IE.var .i64 12) (AL.int .i64 (IE.var .i64 13) (AL.int .i64 (IE.var .i64 14) (AL.int .i64 (IE.var .i64 15) AL.nil))))))))) (IE.lit 0)) :: pcholds_55) (some []))
def wholds_138 : VW := (VW.done ((BE.le (IE.fn .i64 3 (AL.int .i64 (IE.var .i64 4) (AL.int .i64 (IE.var .i64 5) (AL.int .i64 (IE.var .i64 6) (AL.int .i64 (IE.var .i64 7) (AL.int .i64 (IE.var .i64 12) (AL.int .i64 (IE.var .i64 13) (AL.int .i64 (IE.var .i64 14) (AL.int .i64 (IE.var .i64 15) AL.nil))))))))) (IE.lit 0)) :: pcholds_79) (some [(G.b (BE.lit true) (BE.lit false))]))
def wholds_139 : VW := (VW.done ((BE.not (BE.le (IE.fn .i64 3 (AL.int .i64 (IE.var .i64 4) (AL.int .i64 (IE.var .i64 5) (AL.int .i64 (IE.var .i64 6) (AL.int .i64 (IE.var .i64 7) (AL.int .i64 (IE.var .i64 12) (AL.int .i64 (IE.var .i64 13) (AL.int .i64 (IE.var .i64 14) (AL.int .i64 (IE.var .i64 15) AL.nil))))))))) (IE.lit 0))) :: pcholds_79) (some []))
def wholds_140 : VW := (VW.done ((BE.le (IE.lit 0) (IE.fn .i64 3 (AL.int .i64 (IE.var .i64 8) (AL.int .i64 (IE.var .i64 9) (AL.int .i64 (IE.var .i64 10) (AL.int .i64 (IE.var .i64 11) (AL.int .i64 (IE.var .i64 12) (AL.int .i64 (IE.var .i64 13) (AL.int .i64 (IE.var .i64 14) (AL.int .i64 (IE.var .i64 15) AL.nil)))))))))) :: pcholds_56) (some []))
def wholds_141 : VW := (VW.done ((BE.le (IE.lit 0) (IE.fn .i64 3 (AL.int .i64 (IE.var .i64 4) (AL.int .i64 (IE.var .i64 5) (AL.int .i64 (IE.var .i64 6) (AL.int .i64 (IE.var .i64 7) (AL.int .i64 (IE.var .i64 12) (AL.int .i64 (IE.var .i64 13) (AL.int .i64 (IE.var .i64 14) (AL.int .i64 (IE.var .i64 15) AL.nil)))))))))) :: pcholds_80) (some [(G.b (BE.lit true) (BE.lit false))]))
def wholds_142 : VW := (VW.done ((BE.not (BE.le (IE.lit 0) (IE.fn .i64 3 (AL.int .i64 (IE.var .i64 4) (AL.int .i64 (IE.var .i64 5) (AL.int .i64 (IE.var .i64 6) (AL.int .i64 (IE.var .i64 7) (AL.int .i64 (IE.var .i64 12) (AL.int .i64 (IE.var .i64 13) (AL.int .i64 (IE.var .i64 14) (AL.int .i64 (IE.var .i64 15) AL.nil))))))))))) :: pcholds_80) (some []))
def wholds_143 : VW := (VW.done ((BE.le (IE.fn .i64 3 (AL.int .i64 (IE.var .i64 8) (AL.int .i64 (IE.var .i64 9) (AL.int .i64 (IE.var .i64 10) (AL.int .i64 (IE.var .i64 11) (AL.int .i64 (IE.var .i64 12) (AL.int .i64 (IE.var .i64 13) (AL.int .i64 (IE.var .i64 14) (AL.int .i64 (IE.var .i64 15) AL.nil))))))))) (IE.lit 0)) :: pcholds_39) (some []))
def wholds_144 : VW := (VW.done ((BE.le (IE.fn .i64 3 (AL.int .i64 (IE.var .i64 4) (AL.int .i64 (IE.var .i64 5) (AL.int .i64 (IE.var .i64 6) (AL.int .i64 (IE.var .i64 7) (AL.int .i64 (IE.var .i64 12) (AL.int .i64 (IE.var .i64 13) (AL.int .i64 (IE.var .i64 14) (AL.int .i64 (IE.var .i64 15) AL.nil))))))))) (IE.lit 0)) :: pcholds_57) (some [(G.b (BE.lit true) (BE.lit false))]))
def wholds_145 : VW := (VW.done ((BE.not (BE.le (IE.fn .i64 3 (AL.int .i64 (IE.var .i64 4) (AL.int .i64 (IE.var .i64 5) (AL.int .i64 (IE.var .i64 6) (AL.int .i64 (IE.var .i64 7) (AL.int .i64 (IE.var .i64 12) (AL.int .i64 (IE.var .i64 13) (AL.int .i64 (IE.var .i64 14) (AL.int .i64 (IE.var .i64 15) AL.nil))))))))) (IE.lit 0))) :: pcholds_57) (some []))
def wholds_146 : VW := (VW.done ((BE.le (IE.lit 0) (IE.fn .i64 3 (AL.int .i64 (IE.var .i64 8) (AL.int .i64 (IE.var .i64 9) (AL.int .i64 (IE.var .i64 10) (AL.int .i64 (IE.var .i64 11) (AL.int .i64 (IE.var .i64 12) (AL.int .i64 (IE.var .i64 13) (AL.int .i64 (IE.var .i64 14) (AL.int .i64 (IE.var .i64 15) AL.nil)))))))))) :: pcholds_40) (some []))
def wholds_147 : VW := (VW.done ((BE.le (IE.lit 0) (IE.fn .i64 3 (AL.int .i64 (IE.var .i64 4) (AL.int .i64 (IE.var .i64 5) (AL.int .i64 (IE.var .i64 6) (AL.int .i64 (IE.var .i64 7) (AL.int .i64 (IE.var .i64 12) (AL.int .i64 (IE.var .i64 13) (AL.int .i64 (IE.var .i64 14) (AL.int .i64 (IE.var .i64 15) AL.nil)))))))))) :: pcholds_58) (some [(G.b (BE.lit true) (BE.lit false))]))
def wholds_148 : VW := (VW.done ((BE.not (BE.le (IE.lit 0) (IE.fn .i64 3 (AL.int .i64 (IE.var .i64 4) (AL.int .i64 (IE.var .i64 5) (AL.int .i64 (IE.var .i64 6) (AL.int .i64 (IE.var .i64 7) (AL.int .i64 (IE.var .i64 12) (AL.int .i64 (IE.var .i64 13) (AL.int .i64 (IE.var .i64 14) (AL.int .i64 (IE.var .i64 15) AL.nil))))))))))) :: pcholds_58) (some []))
def wholds_149 : VW := (VW.done ((BE.le (IE.fn .i64 3 (AL.int .i64 (IE.var .i64 8) (AL.int .i64 (IE.var .i64 9) (AL.int .i64 (IE.var .i64 10) (AL.int .i64 (IE.var .i64 11) (AL.int .i64 (IE.var .i64 12) (AL.int .i64 (IE.var .i64 13) (AL.int .i64 (IE.var .i64 14) (AL.int .i64 (IE.var .i64 15) AL.nil))))))))) (IE.lit 0)) :: pcholds_27) (some []))
def wholds_150 : VW := (VW.done ((BE.le (IE.fn .i64 3 (AL.int .i64 (IE.var .i64 4) (AL.int .i64 (IE.var .i64 5) (AL.int .i64 (IE.var .i64 6) (AL.int .i64 (IE.var .i64 7) (AL.int .i64 (IE.var .i64 12) (AL.int .i64 (IE.var .i64 13) (AL.int .i64 (IE.var .i64 14) (AL.int .i64 (IE.var .i64 15) AL.nil))))))))) (IE.lit 0)) :: pcholds_41) (some [(G.b (BE.lit true) (BE.lit false))]))
def wholds_151 : VW := (VW.done ((BE.not (BE.le (IE.fn .i64 3 (AL.int .i64 (IE.var .i64 4) (AL.int .i64 (IE.var .i64 5) (AL.int .i64 (IE.var .i64 6) (AL.int .i64 (IE.var .i64 7) (AL.int .i64 (IE.var .i64 12) (AL.int .i64 (IE.var .i64 13) (AL.int .i64 (IE.var .i64 14) (AL.int .i64 (IE.var .i64 15) AL.nil))))))))) (IE.lit 0))) :: pcholds_41) (some []))
def wholds_152 : VW := (VW.done ((BE.le (IE.lit 0) (IE.fn .i64 3 (AL.int .i64 (IE.var .i64 8) (AL.int .i64 (IE.var .i64 9) (AL.int .i64 (IE.var .i64 10) (AL.int .i64 (IE.var .i64 11) (AL.int .i64 (IE.var .i64 12) (AL.int .i64 (IE.var .i64 13) (AL.int .i64 (IE.var .i64 14) (AL.int .i64 (IE.var .i64 15) AL.nil)))))))))) :: pcholds_28) (some []))
def wholds_153 : VW := (VW.done ((BE.le (IE.lit 0) (IE.fn .i64 3 (AL.int .i64 (IE.var .i64 4) (AL.int .i64 (IE.var .i64 5) (AL.int .i64 (IE.var .i64 6) (AL.int .i64 (IE.var .i64 7) (AL.int .i64 (IE.var .i64 12) (AL.int .i64 (IE.var .i64 13) (AL.int .i64 (IE.var .i64 14) (AL.int .i64 (IE.var .i64 15) AL.nil)))))))))) :: pcholds_42) (some [(G.b (BE.lit true) (BE.lit false))]))
def wholds_154 : VW := (VW.done ((BE.not (BE.le (IE.lit 0) (IE.fn .i64 3 (AL.int .i64 (IE.var .i64 4) (AL.int .i64 (IE.var .i64 5) (AL.int .i64 (IE.var .i64 6) (AL.int .i64 (IE.var .i64 7) (AL.int .i64 (IE.var .i64 12) (AL.int .i64 (IE.var .i64 13) (AL.int .i64 (IE.var .i64 14) (AL.int .i64 (IE.var .i64 15) AL.nil))))))))))) :: pcholds_42) (some []))
def vwholds : List VW := [wholds_0, wholds_1, wholds_2, wholds_3, wholds_4, wholds_5, wholds_6, wholds_7, wholds_8, wholds_9, wholds_10, wholds_11, wholds_12, wholds_13, wholds_14, wholds_15, wholds_16, wholds_17, wholds_18, wholds_19, wholds_20, wholds_21, wholds_22, wholds_23, wholds_24, wholds_25, wholds_26, wholds_27, wholds_28, wholds_29, wholds_30, wholds_31, wholds_32, wholds_33, wholds_34, wholds_35, wholds_36, wholds_37, wholds_38, wholds_39, wholds_40, wholds_41, wholds_42, wholds_43, wholds_44, wholds_45, wholds_46, wholds_47, wholds_48, wholds_49, wholds_50, wholds_51, wholds_52, wholds_53, wholds_54, wholds_55, wholds_56, wholds_57, wholds_58, wholds_59, wholds_60, wholds_61, wholds_62, wholds_63, wholds_64, wholds_65, wholds_66, wholds_67, wholds_68, wholds_69, wholds_70, wholds_71, wholds_72, wholds_73, wholds_74, wholds_75, wholds_76, wholds_77, wholds_78, wholds_79, wholds_80, wholds_81, wholds_82, wholds_83, wholds_84, wholds_85, wholds_86, wholds_87, wholds_88, wholds_89, wholds_90, wholds_91, wholds_92, wholds_93, wholds_94, wholds_95, wholds_96, wholds_97, wholds_98, wholds_99, wholds_100, wholds_101, wholds_102, wholds_103, wholds_104, wholds_105, wholds_106, wholds_107, wholds_108, wholds_109, wholds_110, wholds_111, wholds_112, wholds_113, wholds_114, wholds_115, wholds_116, wholds_117, wholds_118, wholds_119, wholds_120, wholds_121, wholds_122, wholds_123, wholds_124, wholds_125, wholds_126, wholds_127, wholds_128, wholds_129, wholds_130, wholds_131, wholds_132, wholds_133, wholds_134, wholds_135, wholds_136, wholds_137, wholds_138, wholds_139, wholds_140, wholds_141, wholds_142, wholds_143, wholds_144, wholds_145, wholds_146, wholds_147, wholds_148, wholds_149, wholds_150, wholds_151, wholds_152, wholds_153, wholds_154]
end
theorem vcholds_0 : VD TTholds (st0 cHolds) wholds_0 := by
  intro ρ kn hp
  exact all_nil
theorem vcholds_1 : VD TTholds (st0 cHolds) wholds_1 := by
  intro ρ kn hp
  have hF : ρ.z.F = sih.Φ := kn.F
  simp only [h_nil, h_cons, d_le, d_eq, d_not, d_var, d_lit, d_cel, d_leq, d_fn, d_and, d_iff, IE.den, LE.den, AL.den, lenV, true_and, and_true, pcholds_122, pcholds_14, pcholds_10, pcholds_7, pcholds_5, pcholds_4, pcholds_3, pcholds_1, pcholds_0, hF, pb2, pb6, pi1, pi3, pl1] at hp
  obtain ⟨p1, p2, p3, p4, p5, p6, p7, p8, p9, p10, p11, p12, p13, p14, p15, p16, p17⟩ := hp
  exfalso
  all_goals
    simp only [clampO, tickN_iff, dot_eq] at *
    have z := ord_zero (ρ.i .i64 4) (ρ.i .i64 5) (ρ.i .i64 6) (ρ.i .i64 7) (ρ.i .i64 8) (ρ.i .i64 9) (ρ.i .i64 10) (ρ.i .i64 11)
    have t := ord_trans (ρ.i .i64 4) (ρ.i .i64 5) (ρ.i .i64 6) (ρ.i .i64 7) (ρ.i .i64 8) (ρ.i .i64 9) (ρ.i .i64 10) (ρ.i .i64 11) (ρ.i .i64 12) (ρ.i .i64 13) (ρ.i .i64 14) (ρ.i .i64 15)
    first
      | omega
      | (have e := name_inj (n := ρ.i .i64 4) (l := ρ.i .i64 5) (s := ρ.i .i64 6) (u := ρ.i .i64 7) (m := ρ.i .i64 8) (k := ρ.i .i64 9) (t := ρ.i .i64 10) (v := ρ.i .i64 11) (by omega) (by omega) (by omega) (by omega) (by omega) (by omega) (by omega) (by omega) (by assumption)
         omega)
      | (have e : ¬ ((ρ.i .i64 4) = (ρ.i .i64 8) ∧ (ρ.i .i64 5) = (ρ.i .i64 9) ∧ (ρ.i .i64 6) = (ρ.i .i64 10) ∧ (ρ.i .i64 7) = (ρ.i .i64 11)) := fun h => absurd (name_of h) (by assumption)
         omega)
theorem vcholds_2 : VD TTholds (st0 cHolds) wholds_2 := by
  intro ρ kn hp
  have hF : ρ.z.F = sih.Φ := kn.F
  simp only [h_nil, h_cons, d_le, d_eq, d_not, d_var, d_lit, d_cel, d_leq, d_fn, d_and, d_iff, IE.den, LE.den, AL.den, lenV, true_and, and_true, pcholds_14, pcholds_10, pcholds_7, pcholds_5, pcholds_4, pcholds_3, pcholds_1, pcholds_0, hF, pb2, pb6, pi1, pi3, pl1] at hp
  obtain ⟨p1, p2, p3, p4, p5, p6, p7, p8, p9, p10⟩ := hp
  exfalso
  all_goals
    simp only [clampO, tickN_iff, dot_eq] at *
    have z := ord_zero (ρ.i .i64 4) (ρ.i .i64 5) (ρ.i .i64 6) (ρ.i .i64 7) (ρ.i .i64 8) (ρ.i .i64 9) (ρ.i .i64 10) (ρ.i .i64 11)
    have t := ord_trans (ρ.i .i64 4) (ρ.i .i64 5) (ρ.i .i64 6) (ρ.i .i64 7) (ρ.i .i64 8) (ρ.i .i64 9) (ρ.i .i64 10) (ρ.i .i64 11) (ρ.i .i64 12) (ρ.i .i64 13) (ρ.i .i64 14) (ρ.i .i64 15)
    first
      | omega
      | (have e := name_inj (n := ρ.i .i64 4) (l := ρ.i .i64 5) (s := ρ.i .i64 6) (u := ρ.i .i64 7) (m := ρ.i .i64 8) (k := ρ.i .i64 9) (t := ρ.i .i64 10) (v := ρ.i .i64 11) (by omega) (by omega) (by omega) (by omega) (by omega) (by omega) (by omega) (by omega) (by assumption)
         omega)
      | (have e : ¬ ((ρ.i .i64 4) = (ρ.i .i64 8) ∧ (ρ.i .i64 5) = (ρ.i .i64 9) ∧ (ρ.i .i64 6) = (ρ.i .i64 10) ∧ (ρ.i .i64 7) = (ρ.i .i64 11)) := fun h => absurd (name_of h) (by assumption)
         omega)
theorem vcholds_3 : VD TTholds (st0 cHolds) wholds_3 := by
  intro ρ kn hp
  have hF : ρ.z.F = sih.Φ := kn.F
  simp only [h_nil, h_cons, d_le, d_eq, d_not, d_var, d_lit, d_cel, d_leq, d_fn, d_and, d_iff, IE.den, LE.den, AL.den, lenV, true_and, and_true, pcholds_10, pcholds_7, pcholds_5, pcholds_4, pcholds_3, pcholds_1, pcholds_0, hF, pb2, pb6, pi1, pi3, pl1] at hp
  obtain ⟨p1, p2, p3, p4, p5, p6, p7, p8, p9⟩ := hp
  exfalso
  all_goals
    simp only [clampO, tickN_iff, dot_eq] at *
    have z := ord_zero (ρ.i .i64 4) (ρ.i .i64 5) (ρ.i .i64 6) (ρ.i .i64 7) (ρ.i .i64 8) (ρ.i .i64 9) (ρ.i .i64 10) (ρ.i .i64 11)
    have t := ord_trans (ρ.i .i64 4) (ρ.i .i64 5) (ρ.i .i64 6) (ρ.i .i64 7) (ρ.i .i64 8) (ρ.i .i64 9) (ρ.i .i64 10) (ρ.i .i64 11) (ρ.i .i64 12) (ρ.i .i64 13) (ρ.i .i64 14) (ρ.i .i64 15)
    first
      | omega
      | (have e := name_inj (n := ρ.i .i64 4) (l := ρ.i .i64 5) (s := ρ.i .i64 6) (u := ρ.i .i64 7) (m := ρ.i .i64 8) (k := ρ.i .i64 9) (t := ρ.i .i64 10) (v := ρ.i .i64 11) (by omega) (by omega) (by omega) (by omega) (by omega) (by omega) (by omega) (by omega) (by assumption)
         omega)
      | (have e : ¬ ((ρ.i .i64 4) = (ρ.i .i64 8) ∧ (ρ.i .i64 5) = (ρ.i .i64 9) ∧ (ρ.i .i64 6) = (ρ.i .i64 10) ∧ (ρ.i .i64 7) = (ρ.i .i64 11)) := fun h => absurd (name_of h) (by assumption)
         omega)
theorem vcholds_4 : VD TTholds (st0 cHolds) wholds_4 := by
  intro ρ kn hp
  have hF : ρ.z.F = sih.Φ := kn.F
  simp only [h_nil, h_cons, d_le, d_eq, d_not, d_var, d_lit, d_cel, d_leq, d_fn, d_and, d_iff, IE.den, LE.den, AL.den, lenV, true_and, and_true, pcholds_7, pcholds_5, pcholds_4, pcholds_3, pcholds_1, pcholds_0, hF, pb2, pb6, pi1, pi3, pl1] at hp
  obtain ⟨p1, p2, p3, p4, p5, p6, p7, p8⟩ := hp
  exfalso
  all_goals
    simp only [clampO, tickN_iff, dot_eq] at *
    have z := ord_zero (ρ.i .i64 4) (ρ.i .i64 5) (ρ.i .i64 6) (ρ.i .i64 7) (ρ.i .i64 8) (ρ.i .i64 9) (ρ.i .i64 10) (ρ.i .i64 11)
    have t := ord_trans (ρ.i .i64 4) (ρ.i .i64 5) (ρ.i .i64 6) (ρ.i .i64 7) (ρ.i .i64 8) (ρ.i .i64 9) (ρ.i .i64 10) (ρ.i .i64 11) (ρ.i .i64 12) (ρ.i .i64 13) (ρ.i .i64 14) (ρ.i .i64 15)
    first
      | omega
      | (have e := name_inj (n := ρ.i .i64 4) (l := ρ.i .i64 5) (s := ρ.i .i64 6) (u := ρ.i .i64 7) (m := ρ.i .i64 8) (k := ρ.i .i64 9) (t := ρ.i .i64 10) (v := ρ.i .i64 11) (by omega) (by omega) (by omega) (by omega) (by omega) (by omega) (by omega) (by omega) (by assumption)
         omega)
      | (have e : ¬ ((ρ.i .i64 4) = (ρ.i .i64 8) ∧ (ρ.i .i64 5) = (ρ.i .i64 9) ∧ (ρ.i .i64 6) = (ρ.i .i64 10) ∧ (ρ.i .i64 7) = (ρ.i .i64 11)) := fun h => absurd (name_of h) (by assumption)
         omega)
theorem vcholds_5 : VD TTholds (st0 cHolds) wholds_5 := by
  intro ρ kn hp
  have hF : ρ.z.F = sih.Φ := kn.F
  simp only [h_nil, h_cons, d_le, d_eq, d_not, d_var, d_lit, d_cel, d_leq, d_fn, d_and, d_iff, IE.den, LE.den, AL.den, lenV, true_and, and_true, pcholds_5, pcholds_4, pcholds_3, pcholds_1, pcholds_0, hF, pb2, pb6, pi1, pi3, pl1] at hp
  obtain ⟨p1, p2, p3, p4, p5, p6, p7⟩ := hp
  exfalso
  all_goals
    simp only [clampO, tickN_iff, dot_eq] at *
    have z := ord_zero (ρ.i .i64 4) (ρ.i .i64 5) (ρ.i .i64 6) (ρ.i .i64 7) (ρ.i .i64 8) (ρ.i .i64 9) (ρ.i .i64 10) (ρ.i .i64 11)
    have t := ord_trans (ρ.i .i64 4) (ρ.i .i64 5) (ρ.i .i64 6) (ρ.i .i64 7) (ρ.i .i64 8) (ρ.i .i64 9) (ρ.i .i64 10) (ρ.i .i64 11) (ρ.i .i64 12) (ρ.i .i64 13) (ρ.i .i64 14) (ρ.i .i64 15)
    first
      | omega
      | (have e := name_inj (n := ρ.i .i64 4) (l := ρ.i .i64 5) (s := ρ.i .i64 6) (u := ρ.i .i64 7) (m := ρ.i .i64 8) (k := ρ.i .i64 9) (t := ρ.i .i64 10) (v := ρ.i .i64 11) (by omega) (by omega) (by omega) (by omega) (by omega) (by omega) (by omega) (by omega) (by assumption)
         omega)
      | (have e : ¬ ((ρ.i .i64 4) = (ρ.i .i64 8) ∧ (ρ.i .i64 5) = (ρ.i .i64 9) ∧ (ρ.i .i64 6) = (ρ.i .i64 10) ∧ (ρ.i .i64 7) = (ρ.i .i64 11)) := fun h => absurd (name_of h) (by assumption)
         omega)
theorem vcholds_6 : VD TTholds (st0 cHolds) wholds_6 := by
  intro ρ kn hp
  have hF : ρ.z.F = sih.Φ := kn.F
  simp only [h_nil, h_cons, d_le, d_eq, d_not, d_var, d_lit, d_cel, d_leq, d_fn, d_and, d_iff, IE.den, LE.den, AL.den, lenV, true_and, and_true, pcholds_15, pcholds_11, pcholds_8, pcholds_6, pcholds_4, pcholds_3, pcholds_1, pcholds_0, hF, pb2, pb6, pi1, pi3, pl1] at hp
  obtain ⟨p1, p2, p3, p4, p5, p6, p7, p8, p9, p10⟩ := hp
  exfalso
  all_goals
    simp only [clampO, tickN_iff, dot_eq] at *
    have z := ord_zero (ρ.i .i64 4) (ρ.i .i64 5) (ρ.i .i64 6) (ρ.i .i64 7) (ρ.i .i64 8) (ρ.i .i64 9) (ρ.i .i64 10) (ρ.i .i64 11)
    have t := ord_trans (ρ.i .i64 4) (ρ.i .i64 5) (ρ.i .i64 6) (ρ.i .i64 7) (ρ.i .i64 8) (ρ.i .i64 9) (ρ.i .i64 10) (ρ.i .i64 11) (ρ.i .i64 12) (ρ.i .i64 13) (ρ.i .i64 14) (ρ.i .i64 15)
    first
      | omega
      | (have e := name_inj (n := ρ.i .i64 4) (l := ρ.i .i64 5) (s := ρ.i .i64 6) (u := ρ.i .i64 7) (m := ρ.i .i64 8) (k := ρ.i .i64 9) (t := ρ.i .i64 10) (v := ρ.i .i64 11) (by omega) (by omega) (by omega) (by omega) (by omega) (by omega) (by omega) (by omega) (by assumption)
         omega)
      | (have e : ¬ ((ρ.i .i64 4) = (ρ.i .i64 8) ∧ (ρ.i .i64 5) = (ρ.i .i64 9) ∧ (ρ.i .i64 6) = (ρ.i .i64 10) ∧ (ρ.i .i64 7) = (ρ.i .i64 11)) := fun h => absurd (name_of h) (by assumption)
         omega)
theorem vcholds_7 : VD TTholds (st0 cHolds) wholds_7 := by
  intro ρ kn hp
  have hF : ρ.z.F = sih.Φ := kn.F
  simp only [h_nil, h_cons, d_le, d_eq, d_not, d_var, d_lit, d_cel, d_leq, d_fn, d_and, d_iff, IE.den, LE.den, AL.den, lenV, true_and, and_true, pcholds_123, pcholds_15, pcholds_11, pcholds_8, pcholds_6, pcholds_4, pcholds_3, pcholds_1, pcholds_0, hF, pb2, pb6, pi1, pi3, pl1] at hp
  obtain ⟨p1, p2, p3, p4, p5, p6, p7, p8, p9, p10, p11, p12, p13, p14, p15, p16, p17⟩ := hp
  exfalso
  all_goals
    simp only [clampO, tickN_iff, dot_eq] at *
    have z := ord_zero (ρ.i .i64 4) (ρ.i .i64 5) (ρ.i .i64 6) (ρ.i .i64 7) (ρ.i .i64 8) (ρ.i .i64 9) (ρ.i .i64 10) (ρ.i .i64 11)
    have t := ord_trans (ρ.i .i64 4) (ρ.i .i64 5) (ρ.i .i64 6) (ρ.i .i64 7) (ρ.i .i64 8) (ρ.i .i64 9) (ρ.i .i64 10) (ρ.i .i64 11) (ρ.i .i64 12) (ρ.i .i64 13) (ρ.i .i64 14) (ρ.i .i64 15)
    first
      | omega
      | (have e := name_inj (n := ρ.i .i64 4) (l := ρ.i .i64 5) (s := ρ.i .i64 6) (u := ρ.i .i64 7) (m := ρ.i .i64 8) (k := ρ.i .i64 9) (t := ρ.i .i64 10) (v := ρ.i .i64 11) (by omega) (by omega) (by omega) (by omega) (by omega) (by omega) (by omega) (by omega) (by assumption)
         omega)
      | (have e : ¬ ((ρ.i .i64 4) = (ρ.i .i64 8) ∧ (ρ.i .i64 5) = (ρ.i .i64 9) ∧ (ρ.i .i64 6) = (ρ.i .i64 10) ∧ (ρ.i .i64 7) = (ρ.i .i64 11)) := fun h => absurd (name_of h) (by assumption)
         omega)
theorem vcholds_8 : VD TTholds (st0 cHolds) wholds_8 := by
  intro ρ kn hp
  exact all_nil
theorem vcholds_9 : VD TTholds (st0 cHolds) wholds_9 := by
  intro ρ kn hp
  have hF : ρ.z.F = sih.Φ := kn.F
  simp only [h_nil, h_cons, d_le, d_eq, d_not, d_var, d_lit, d_cel, d_leq, d_fn, d_and, d_iff, IE.den, LE.den, AL.den, lenV, true_and, and_true, pcholds_152, pcholds_148, pcholds_139, pcholds_123, pcholds_15, pcholds_11, pcholds_8, pcholds_6, pcholds_4, pcholds_3, pcholds_1, pcholds_0, hF, pb2, pb6, pi1, pi3, pl1] at hp
  obtain ⟨p1, p2, p3, p4, p5, p6, p7, p8, p9, p10, p11, p12, p13, p14, p15, p16, p17, p18, p19, p20⟩ := hp
  exfalso
  all_goals
    simp only [clampO, tickN_iff, dot_eq] at *
    have z := ord_zero (ρ.i .i64 4) (ρ.i .i64 5) (ρ.i .i64 6) (ρ.i .i64 7) (ρ.i .i64 8) (ρ.i .i64 9) (ρ.i .i64 10) (ρ.i .i64 11)
    have t := ord_trans (ρ.i .i64 4) (ρ.i .i64 5) (ρ.i .i64 6) (ρ.i .i64 7) (ρ.i .i64 8) (ρ.i .i64 9) (ρ.i .i64 10) (ρ.i .i64 11) (ρ.i .i64 12) (ρ.i .i64 13) (ρ.i .i64 14) (ρ.i .i64 15)
    first
      | omega
      | (have e := name_inj (n := ρ.i .i64 4) (l := ρ.i .i64 5) (s := ρ.i .i64 6) (u := ρ.i .i64 7) (m := ρ.i .i64 8) (k := ρ.i .i64 9) (t := ρ.i .i64 10) (v := ρ.i .i64 11) (by omega) (by omega) (by omega) (by omega) (by omega) (by omega) (by omega) (by omega) (by assumption)
         omega)
      | (have e : ¬ ((ρ.i .i64 4) = (ρ.i .i64 8) ∧ (ρ.i .i64 5) = (ρ.i .i64 9) ∧ (ρ.i .i64 6) = (ρ.i .i64 10) ∧ (ρ.i .i64 7) = (ρ.i .i64 11)) := fun h => absurd (name_of h) (by assumption)
         omega)
theorem vcholds_10 : VD TTholds (st0 cHolds) wholds_10 := by
  intro ρ kn hp
  exact all_nil
theorem vcholds_11 : VD TTholds (st0 cHolds) wholds_11 := by
  intro ρ kn hp
  exact all_nil
theorem vcholds_12 : VD TTholds (st0 cHolds) wholds_12 := by
  intro ρ kn hp
  have hF : ρ.z.F = sih.Φ := kn.F
  simp only [h_nil, h_cons, d_le, d_eq, d_not, d_var, d_lit, d_cel, d_leq, d_fn, d_and, d_iff, IE.den, LE.den, AL.den, lenV, true_and, and_true, pcholds_153, pcholds_149, pcholds_139, pcholds_123, pcholds_15, pcholds_11, pcholds_8, pcholds_6, pcholds_4, pcholds_3, pcholds_1, pcholds_0, hF, pb2, pb6, pi1, pi3, pl1] at hp
  obtain ⟨p1, p2, p3, p4, p5, p6, p7, p8, p9, p10, p11, p12, p13, p14, p15, p16, p17, p18, p19, p20⟩ := hp
  exfalso
  all_goals
    simp only [clampO, tickN_iff, dot_eq] at *
    have z := ord_zero (ρ.i .i64 4) (ρ.i .i64 5) (ρ.i .i64 6) (ρ.i .i64 7) (ρ.i .i64 8) (ρ.i .i64 9) (ρ.i .i64 10) (ρ.i .i64 11)
    have t := ord_trans (ρ.i .i64 4) (ρ.i .i64 5) (ρ.i .i64 6) (ρ.i .i64 7) (ρ.i .i64 8) (ρ.i .i64 9) (ρ.i .i64 10) (ρ.i .i64 11) (ρ.i .i64 12) (ρ.i .i64 13) (ρ.i .i64 14) (ρ.i .i64 15)
    first
      | omega
      | (have e := name_inj (n := ρ.i .i64 4) (l := ρ.i .i64 5) (s := ρ.i .i64 6) (u := ρ.i .i64 7) (m := ρ.i .i64 8) (k := ρ.i .i64 9) (t := ρ.i .i64 10) (v := ρ.i .i64 11) (by omega) (by omega) (by omega) (by omega) (by omega) (by omega) (by omega) (by omega) (by assumption)
         omega)
      | (have e : ¬ ((ρ.i .i64 4) = (ρ.i .i64 8) ∧ (ρ.i .i64 5) = (ρ.i .i64 9) ∧ (ρ.i .i64 6) = (ρ.i .i64 10) ∧ (ρ.i .i64 7) = (ρ.i .i64 11)) := fun h => absurd (name_of h) (by assumption)
         omega)
theorem vcholds_13 : VD TTholds (st0 cHolds) wholds_13 := by
  intro ρ kn hp
  exact all_nil
theorem vcholds_14 : VD TTholds (st0 cHolds) wholds_14 := by
  intro ρ kn hp
  have hF : ρ.z.F = sih.Φ := kn.F
  simp only [h_nil, h_cons, d_le, d_eq, d_not, d_var, d_lit, d_cel, d_leq, d_fn, d_and, d_iff, IE.den, LE.den, AL.den, lenV, true_and, and_true, pcholds_104, pcholds_11, pcholds_8, pcholds_6, pcholds_4, pcholds_3, pcholds_1, pcholds_0, hF, pb2, pb6, pi1, pi3, pl1] at hp
  obtain ⟨p1, p2, p3, p4, p5, p6, p7, p8, p9, p10, p11, p12, p13, p14, p15, p16⟩ := hp
  exfalso
  all_goals
    simp only [clampO, tickN_iff, dot_eq] at *
    have z := ord_zero (ρ.i .i64 4) (ρ.i .i64 5) (ρ.i .i64 6) (ρ.i .i64 7) (ρ.i .i64 8) (ρ.i .i64 9) (ρ.i .i64 10) (ρ.i .i64 11)
    have t := ord_trans (ρ.i .i64 4) (ρ.i .i64 5) (ρ.i .i64 6) (ρ.i .i64 7) (ρ.i .i64 8) (ρ.i .i64 9) (ρ.i .i64 10) (ρ.i .i64 11) (ρ.i .i64 12) (ρ.i .i64 13) (ρ.i .i64 14) (ρ.i .i64 15)
    first
      | omega
      | (have e := name_inj (n := ρ.i .i64 4) (l := ρ.i .i64 5) (s := ρ.i .i64 6) (u := ρ.i .i64 7) (m := ρ.i .i64 8) (k := ρ.i .i64 9) (t := ρ.i .i64 10) (v := ρ.i .i64 11) (by omega) (by omega) (by omega) (by omega) (by omega) (by omega) (by omega) (by omega) (by assumption)
         omega)
      | (have e : ¬ ((ρ.i .i64 4) = (ρ.i .i64 8) ∧ (ρ.i .i64 5) = (ρ.i .i64 9) ∧ (ρ.i .i64 6) = (ρ.i .i64 10) ∧ (ρ.i .i64 7) = (ρ.i .i64 11)) := fun h => absurd (name_of h) (by assumption)
         omega)
theorem vcholds_15 : VD TTholds (st0 cHolds) wholds_15 := by
  intro ρ kn hp
  exact all_nil
theorem vcholds_16 : VD TTholds (st0 cHolds) wholds_16 := by
  intro ρ kn hp
  have hF : ρ.z.F = sih.Φ := kn.F
  simp only [h_nil, h_cons, d_le, d_eq, d_not, d_var, d_lit, d_cel, d_leq, d_fn, d_and, d_iff, IE.den, LE.den, AL.den, lenV, true_and, and_true, pcholds_150, pcholds_140, pcholds_124, pcholds_104, pcholds_11, pcholds_8, pcholds_6, pcholds_4, pcholds_3, pcholds_1, pcholds_0, hF, pb2, pb6, pi1, pi3, pl1] at hp
  obtain ⟨p1, p2, p3, p4, p5, p6, p7, p8, p9, p10, p11, p12, p13, p14, p15, p16, p17, p18, p19⟩ := hp
  exfalso
  all_goals
    simp only [clampO, tickN_iff, dot_eq] at *
    have z := ord_zero (ρ.i .i64 4) (ρ.i .i64 5) (ρ.i .i64 6) (ρ.i .i64 7) (ρ.i .i64 8) (ρ.i .i64 9) (ρ.i .i64 10) (ρ.i .i64 11)
    have t := ord_trans (ρ.i .i64 4) (ρ.i .i64 5) (ρ.i .i64 6) (ρ.i .i64 7) (ρ.i .i64 8) (ρ.i .i64 9) (ρ.i .i64 10) (ρ.i .i64 11) (ρ.i .i64 12) (ρ.i .i64 13) (ρ.i .i64 14) (ρ.i .i64 15)
    first
      | omega
      | (have e := name_inj (n := ρ.i .i64 4) (l := ρ.i .i64 5) (s := ρ.i .i64 6) (u := ρ.i .i64 7) (m := ρ.i .i64 8) (k := ρ.i .i64 9) (t := ρ.i .i64 10) (v := ρ.i .i64 11) (by omega) (by omega) (by omega) (by omega) (by omega) (by omega) (by omega) (by omega) (by assumption)
         omega)
      | (have e : ¬ ((ρ.i .i64 4) = (ρ.i .i64 8) ∧ (ρ.i .i64 5) = (ρ.i .i64 9) ∧ (ρ.i .i64 6) = (ρ.i .i64 10) ∧ (ρ.i .i64 7) = (ρ.i .i64 11)) := fun h => absurd (name_of h) (by assumption)
         omega)
theorem vcholds_17 : VD TTholds (st0 cHolds) wholds_17 := by
  intro ρ kn hp
  exact all_nil
theorem vcholds_18 : VD TTholds (st0 cHolds) wholds_18 := by
  intro ρ kn hp
  exact all_nil
theorem vcholds_19 : VD TTholds (st0 cHolds) wholds_19 := by
  intro ρ kn hp
  have hF : ρ.z.F = sih.Φ := kn.F
  simp only [h_nil, h_cons, d_le, d_eq, d_not, d_var, d_lit, d_cel, d_leq, d_fn, d_and, d_iff, IE.den, LE.den, AL.den, lenV, true_and, and_true, pcholds_151, pcholds_141, pcholds_124, pcholds_104, pcholds_11, pcholds_8, pcholds_6, pcholds_4, pcholds_3, pcholds_1, pcholds_0, hF, pb2, pb6, pi1, pi3, pl1] at hp
  obtain ⟨p1, p2, p3, p4, p5, p6, p7, p8, p9, p10, p11, p12, p13, p14, p15, p16, p17, p18, p19⟩ := hp
  exfalso
  all_goals
    simp only [clampO, tickN_iff, dot_eq] at *
    have z := ord_zero (ρ.i .i64 4) (ρ.i .i64 5) (ρ.i .i64 6) (ρ.i .i64 7) (ρ.i .i64 8) (ρ.i .i64 9) (ρ.i .i64 10) (ρ.i .i64 11)
    have t := ord_trans (ρ.i .i64 4) (ρ.i .i64 5) (ρ.i .i64 6) (ρ.i .i64 7) (ρ.i .i64 8) (ρ.i .i64 9) (ρ.i .i64 10) (ρ.i .i64 11) (ρ.i .i64 12) (ρ.i .i64 13) (ρ.i .i64 14) (ρ.i .i64 15)
    first
      | omega
      | (have e := name_inj (n := ρ.i .i64 4) (l := ρ.i .i64 5) (s := ρ.i .i64 6) (u := ρ.i .i64 7) (m := ρ.i .i64 8) (k := ρ.i .i64 9) (t := ρ.i .i64 10) (v := ρ.i .i64 11) (by omega) (by omega) (by omega) (by omega) (by omega) (by omega) (by omega) (by omega) (by assumption)
         omega)
      | (have e : ¬ ((ρ.i .i64 4) = (ρ.i .i64 8) ∧ (ρ.i .i64 5) = (ρ.i .i64 9) ∧ (ρ.i .i64 6) = (ρ.i .i64 10) ∧ (ρ.i .i64 7) = (ρ.i .i64 11)) := fun h => absurd (name_of h) (by assumption)
         omega)
theorem vcholds_20 : VD TTholds (st0 cHolds) wholds_20 := by
  intro ρ kn hp
  exact all_nil
theorem vcholds_21 : VD TTholds (st0 cHolds) wholds_21 := by
  intro ρ kn hp
  have hF : ρ.z.F = sih.Φ := kn.F
  simp only [h_nil, h_cons, d_le, d_eq, d_not, d_var, d_lit, d_cel, d_leq, d_fn, d_and, d_iff, IE.den, LE.den, AL.den, lenV, true_and, and_true, pcholds_81, pcholds_8, pcholds_6, pcholds_4, pcholds_3, pcholds_1, pcholds_0, hF, pb2, pb6, pi1, pi3, pl1] at hp
  obtain ⟨p1, p2, p3, p4, p5, p6, p7, p8, p9, p10, p11, p12, p13, p14, p15⟩ := hp
  exfalso
  all_goals
    simp only [clampO, tickN_iff, dot_eq] at *
    have z := ord_zero (ρ.i .i64 4) (ρ.i .i64 5) (ρ.i .i64 6) (ρ.i .i64 7) (ρ.i .i64 8) (ρ.i .i64 9) (ρ.i .i64 10) (ρ.i .i64 11)
    have t := ord_trans (ρ.i .i64 4) (ρ.i .i64 5) (ρ.i .i64 6) (ρ.i .i64 7) (ρ.i .i64 8) (ρ.i .i64 9) (ρ.i .i64 10) (ρ.i .i64 11) (ρ.i .i64 12) (ρ.i .i64 13) (ρ.i .i64 14) (ρ.i .i64 15)
    first
      | omega
      | (have e := name_inj (n := ρ.i .i64 4) (l := ρ.i .i64 5) (s := ρ.i .i64 6) (u := ρ.i .i64 7) (m := ρ.i .i64 8) (k := ρ.i .i64 9) (t := ρ.i .i64 10) (v := ρ.i .i64 11) (by omega) (by omega) (by omega) (by omega) (by omega) (by omega) (by omega) (by omega) (by assumption)
         omega)
      | (have e : ¬ ((ρ.i .i64 4) = (ρ.i .i64 8) ∧ (ρ.i .i64 5) = (ρ.i .i64 9) ∧ (ρ.i .i64 6) = (ρ.i .i64 10) ∧ (ρ.i .i64 7) = (ρ.i .i64 11)) := fun h => absurd (name_of h) (by assumption)
         omega)
theorem vcholds_22 : VD TTholds (st0 cHolds) wholds_22 := by
  intro ρ kn hp
  exact all_nil
theorem vcholds_23 : VD TTholds (st0 cHolds) wholds_23 := by
  intro ρ kn hp
  have hF : ρ.z.F = sih.Φ := kn.F
  simp only [h_nil, h_cons, d_le, d_eq, d_not, d_var, d_lit, d_cel, d_leq, d_fn, d_and, d_iff, IE.den, LE.den, AL.den, lenV, true_and, and_true, pcholds_142, pcholds_125, pcholds_105, pcholds_81, pcholds_8, pcholds_6, pcholds_4, pcholds_3, pcholds_1, pcholds_0, hF, pb2, pb6, pi1, pi3, pl1] at hp
  obtain ⟨p1, p2, p3, p4, p5, p6, p7, p8, p9, p10, p11, p12, p13, p14, p15, p16, p17, p18⟩ := hp
  exfalso
  all_goals
    simp only [clampO, tickN_iff, dot_eq] at *
    have z := ord_zero (ρ.i .i64 4) (ρ.i .i64 5) (ρ.i .i64 6) (ρ.i .i64 7) (ρ.i .i64 8) (ρ.i .i64 9) (ρ.i .i64 10) (ρ.i .i64 11)
    have t := ord_trans (ρ.i .i64 4) (ρ.i .i64 5) (ρ.i .i64 6) (ρ.i .i64 7) (ρ.i .i64 8) (ρ.i .i64 9) (ρ.i .i64 10) (ρ.i .i64 11) (ρ.i .i64 12) (ρ.i .i64 13) (ρ.i .i64 14) (ρ.i .i64 15)
    first
      | omega
      | (have e := name_inj (n := ρ.i .i64 4) (l := ρ.i .i64 5) (s := ρ.i .i64 6) (u := ρ.i .i64 7) (m := ρ.i .i64 8) (k := ρ.i .i64 9) (t := ρ.i .i64 10) (v := ρ.i .i64 11) (by omega) (by omega) (by omega) (by omega) (by omega) (by omega) (by omega) (by omega) (by assumption)
         omega)
      | (have e : ¬ ((ρ.i .i64 4) = (ρ.i .i64 8) ∧ (ρ.i .i64 5) = (ρ.i .i64 9) ∧ (ρ.i .i64 6) = (ρ.i .i64 10) ∧ (ρ.i .i64 7) = (ρ.i .i64 11)) := fun h => absurd (name_of h) (by assumption)
         omega)
theorem vcholds_24 : VD TTholds (st0 cHolds) wholds_24 := by
  intro ρ kn hp
  exact all_nil
theorem vcholds_25 : VD TTholds (st0 cHolds) wholds_25 := by
  intro ρ kn hp
  exact all_nil
theorem vcholds_26 : VD TTholds (st0 cHolds) wholds_26 := by
  intro ρ kn hp
  have hF : ρ.z.F = sih.Φ := kn.F
  simp only [h_nil, h_cons, d_le, d_eq, d_not, d_var, d_lit, d_cel, d_leq, d_fn, d_and, d_iff, IE.den, LE.den, AL.den, lenV, true_and, and_true, pcholds_143, pcholds_126, pcholds_105, pcholds_81, pcholds_8, pcholds_6, pcholds_4, pcholds_3, pcholds_1, pcholds_0, hF, pb2, pb6, pi1, pi3, pl1] at hp
  obtain ⟨p1, p2, p3, p4, p5, p6, p7, p8, p9, p10, p11, p12, p13, p14, p15, p16, p17, p18⟩ := hp
  exfalso
  all_goals
    simp only [clampO, tickN_iff, dot_eq] at *
    have z := ord_zero (ρ.i .i64 4) (ρ.i .i64 5) (ρ.i .i64 6) (ρ.i .i64 7) (ρ.i .i64 8) (ρ.i .i64 9) (ρ.i .i64 10) (ρ.i .i64 11)
    have t := ord_trans (ρ.i .i64 4) (ρ.i .i64 5) (ρ.i .i64 6) (ρ.i .i64 7) (ρ.i .i64 8) (ρ.i .i64 9) (ρ.i .i64 10) (ρ.i .i64 11) (ρ.i .i64 12) (ρ.i .i64 13) (ρ.i .i64 14) (ρ.i .i64 15)
    first
      | omega
      | (have e := name_inj (n := ρ.i .i64 4) (l := ρ.i .i64 5) (s := ρ.i .i64 6) (u := ρ.i .i64 7) (m := ρ.i .i64 8) (k := ρ.i .i64 9) (t := ρ.i .i64 10) (v := ρ.i .i64 11) (by omega) (by omega) (by omega) (by omega) (by omega) (by omega) (by omega) (by omega) (by assumption)
         omega)
      | (have e : ¬ ((ρ.i .i64 4) = (ρ.i .i64 8) ∧ (ρ.i .i64 5) = (ρ.i .i64 9) ∧ (ρ.i .i64 6) = (ρ.i .i64 10) ∧ (ρ.i .i64 7) = (ρ.i .i64 11)) := fun h => absurd (name_of h) (by assumption)
         omega)
theorem vcholds_27 : VD TTholds (st0 cHolds) wholds_27 := by
  intro ρ kn hp
  exact all_nil
theorem vcholds_28 : VD TTholds (st0 cHolds) wholds_28 := by
  intro ρ kn hp
  have hF : ρ.z.F = sih.Φ := kn.F
  simp only [h_nil, h_cons, d_le, d_eq, d_not, d_var, d_lit, d_cel, d_leq, d_fn, d_and, d_iff, IE.den, LE.den, AL.den, lenV, true_and, and_true, pcholds_59, pcholds_6, pcholds_4, pcholds_3, pcholds_1, pcholds_0, hF, pb2, pb6, pi1, pi3, pl1] at hp
  obtain ⟨p1, p2, p3, p4, p5, p6, p7, p8, p9, p10, p11, p12, p13, p14⟩ := hp
  exfalso
  all_goals
    simp only [clampO, tickN_iff, dot_eq] at *
    have z := ord_zero (ρ.i .i64 4) (ρ.i .i64 5) (ρ.i .i64 6) (ρ.i .i64 7) (ρ.i .i64 8) (ρ.i .i64 9) (ρ.i .i64 10) (ρ.i .i64 11)
    have t := ord_trans (ρ.i .i64 4) (ρ.i .i64 5) (ρ.i .i64 6) (ρ.i .i64 7) (ρ.i .i64 8) (ρ.i .i64 9) (ρ.i .i64 10) (ρ.i .i64 11) (ρ.i .i64 12) (ρ.i .i64 13) (ρ.i .i64 14) (ρ.i .i64 15)
    first
      | omega
      | (have e := name_inj (n := ρ.i .i64 4) (l := ρ.i .i64 5) (s := ρ.i .i64 6) (u := ρ.i .i64 7) (m := ρ.i .i64 8) (k := ρ.i .i64 9) (t := ρ.i .i64 10) (v := ρ.i .i64 11) (by omega) (by omega) (by omega) (by omega) (by omega) (by omega) (by omega) (by omega) (by assumption)
         omega)
      | (have e : ¬ ((ρ.i .i64 4) = (ρ.i .i64 8) ∧ (ρ.i .i64 5) = (ρ.i .i64 9) ∧ (ρ.i .i64 6) = (ρ.i .i64 10) ∧ (ρ.i .i64 7) = (ρ.i .i64 11)) := fun h => absurd (name_of h) (by assumption)
         omega)
theorem vcholds_29 : VD TTholds (st0 cHolds) wholds_29 := by
  intro ρ kn hp
  exact all_nil
theorem vcholds_30 : VD TTholds (st0 cHolds) wholds_30 := by
  intro ρ kn hp
  have hF : ρ.z.F = sih.Φ := kn.F
  simp only [h_nil, h_cons, d_le, d_eq, d_not, d_var, d_lit, d_cel, d_leq, d_fn, d_and, d_iff, IE.den, LE.den, AL.den, lenV, true_and, and_true, pcholds_127, pcholds_106, pcholds_82, pcholds_59, pcholds_6, pcholds_4, pcholds_3, pcholds_1, pcholds_0, hF, pb2, pb6, pi1, pi3, pl1] at hp
  obtain ⟨p1, p2, p3, p4, p5, p6, p7, p8, p9, p10, p11, p12, p13, p14, p15, p16, p17⟩ := hp
  exfalso
  all_goals
    simp only [clampO, tickN_iff, dot_eq] at *
    have z := ord_zero (ρ.i .i64 4) (ρ.i .i64 5) (ρ.i .i64 6) (ρ.i .i64 7) (ρ.i .i64 8) (ρ.i .i64 9) (ρ.i .i64 10) (ρ.i .i64 11)
    have t := ord_trans (ρ.i .i64 4) (ρ.i .i64 5) (ρ.i .i64 6) (ρ.i .i64 7) (ρ.i .i64 8) (ρ.i .i64 9) (ρ.i .i64 10) (ρ.i .i64 11) (ρ.i .i64 12) (ρ.i .i64 13) (ρ.i .i64 14) (ρ.i .i64 15)
    first
      | omega
      | (have e := name_inj (n := ρ.i .i64 4) (l := ρ.i .i64 5) (s := ρ.i .i64 6) (u := ρ.i .i64 7) (m := ρ.i .i64 8) (k := ρ.i .i64 9) (t := ρ.i .i64 10) (v := ρ.i .i64 11) (by omega) (by omega) (by omega) (by omega) (by omega) (by omega) (by omega) (by omega) (by assumption)
         omega)
      | (have e : ¬ ((ρ.i .i64 4) = (ρ.i .i64 8) ∧ (ρ.i .i64 5) = (ρ.i .i64 9) ∧ (ρ.i .i64 6) = (ρ.i .i64 10) ∧ (ρ.i .i64 7) = (ρ.i .i64 11)) := fun h => absurd (name_of h) (by assumption)
         omega)
theorem vcholds_31 : VD TTholds (st0 cHolds) wholds_31 := by
  intro ρ kn hp
  exact all_nil
theorem vcholds_32 : VD TTholds (st0 cHolds) wholds_32 := by
  intro ρ kn hp
  exact all_nil
theorem vcholds_33 : VD TTholds (st0 cHolds) wholds_33 := by
  intro ρ kn hp
  have hF : ρ.z.F = sih.Φ := kn.F
  simp only [h_nil, h_cons, d_le, d_eq, d_not, d_var, d_lit, d_cel, d_leq, d_fn, d_and, d_iff, IE.den, LE.den, AL.den, lenV, true_and, and_true, pcholds_128, pcholds_107, pcholds_82, pcholds_59, pcholds_6, pcholds_4, pcholds_3, pcholds_1, pcholds_0, hF, pb2, pb6, pi1, pi3, pl1] at hp
  obtain ⟨p1, p2, p3, p4, p5, p6, p7, p8, p9, p10, p11, p12, p13, p14, p15, p16, p17⟩ := hp
  exfalso
  all_goals
    simp only [clampO, tickN_iff, dot_eq] at *
    have z := ord_zero (ρ.i .i64 4) (ρ.i .i64 5) (ρ.i .i64 6) (ρ.i .i64 7) (ρ.i .i64 8) (ρ.i .i64 9) (ρ.i .i64 10) (ρ.i .i64 11)
    have t := ord_trans (ρ.i .i64 4) (ρ.i .i64 5) (ρ.i .i64 6) (ρ.i .i64 7) (ρ.i .i64 8) (ρ.i .i64 9) (ρ.i .i64 10) (ρ.i .i64 11) (ρ.i .i64 12) (ρ.i .i64 13) (ρ.i .i64 14) (ρ.i .i64 15)
    first
      | omega
      | (have e := name_inj (n := ρ.i .i64 4) (l := ρ.i .i64 5) (s := ρ.i .i64 6) (u := ρ.i .i64 7) (m := ρ.i .i64 8) (k := ρ.i .i64 9) (t := ρ.i .i64 10) (v := ρ.i .i64 11) (by omega) (by omega) (by omega) (by omega) (by omega) (by omega) (by omega) (by omega) (by assumption)
         omega)
      | (have e : ¬ ((ρ.i .i64 4) = (ρ.i .i64 8) ∧ (ρ.i .i64 5) = (ρ.i .i64 9) ∧ (ρ.i .i64 6) = (ρ.i .i64 10) ∧ (ρ.i .i64 7) = (ρ.i .i64 11)) := fun h => absurd (name_of h) (by assumption)
         omega)
theorem vcholds_34 : VD TTholds (st0 cHolds) wholds_34 := by
  intro ρ kn hp
  exact all_nil
theorem vcholds_35 : VD TTholds (st0 cHolds) wholds_35 := by
  intro ρ kn hp
  exact all_nil
theorem vcholds_36 : VD TTholds (st0 cHolds) wholds_36 := by
  intro ρ kn hp
  have hF : ρ.z.F = sih.Φ := kn.F
  simp only [h_nil, h_cons, d_le, d_eq, d_not, d_var, d_lit, d_cel, d_leq, d_fn, d_and, d_iff, IE.den, LE.den, AL.den, lenV, true_and, and_true, pcholds_83, pcholds_60, pcholds_43, pcholds_29, pcholds_20, pcholds_3, pcholds_1, pcholds_0, hF, pb2, pb6, pi1, pi3, pl1] at hp
  obtain ⟨p1, p2, p3, p4, p5, p6, p7, p8, p9, p10, p11, p12, p13, p14, p15⟩ := hp
  exfalso
  all_goals
    simp only [clampO, tickN_iff, dot_eq] at *
    have z := ord_zero (ρ.i .i64 4) (ρ.i .i64 5) (ρ.i .i64 6) (ρ.i .i64 7) (ρ.i .i64 8) (ρ.i .i64 9) (ρ.i .i64 10) (ρ.i .i64 11)
    have t := ord_trans (ρ.i .i64 4) (ρ.i .i64 5) (ρ.i .i64 6) (ρ.i .i64 7) (ρ.i .i64 8) (ρ.i .i64 9) (ρ.i .i64 10) (ρ.i .i64 11) (ρ.i .i64 12) (ρ.i .i64 13) (ρ.i .i64 14) (ρ.i .i64 15)
    first
      | omega
      | (have e := name_inj (n := ρ.i .i64 4) (l := ρ.i .i64 5) (s := ρ.i .i64 6) (u := ρ.i .i64 7) (m := ρ.i .i64 8) (k := ρ.i .i64 9) (t := ρ.i .i64 10) (v := ρ.i .i64 11) (by omega) (by omega) (by omega) (by omega) (by omega) (by omega) (by omega) (by omega) (by assumption)
         omega)
      | (have e : ¬ ((ρ.i .i64 4) = (ρ.i .i64 8) ∧ (ρ.i .i64 5) = (ρ.i .i64 9) ∧ (ρ.i .i64 6) = (ρ.i .i64 10) ∧ (ρ.i .i64 7) = (ρ.i .i64 11)) := fun h => absurd (name_of h) (by assumption)
         omega)
theorem vcholds_37 : VD TTholds (st0 cHolds) wholds_37 := by
  intro ρ kn hp
  have hF : ρ.z.F = sih.Φ := kn.F
  simp only [h_nil, h_cons, d_le, d_eq, d_not, d_var, d_lit, d_cel, d_leq, d_fn, d_and, d_iff, IE.den, LE.den, AL.den, lenV, true_and, and_true, pcholds_60, pcholds_43, pcholds_29, pcholds_20, pcholds_3, pcholds_1, pcholds_0, hF, pb2, pb6, pi1, pi3, pl1] at hp
  obtain ⟨p1, p2, p3, p4, p5, p6, p7, p8, p9, p10, p11, p12, p13, p14⟩ := hp
  exfalso
  all_goals
    simp only [clampO, tickN_iff, dot_eq] at *
    have z := ord_zero (ρ.i .i64 4) (ρ.i .i64 5) (ρ.i .i64 6) (ρ.i .i64 7) (ρ.i .i64 8) (ρ.i .i64 9) (ρ.i .i64 10) (ρ.i .i64 11)
    have t := ord_trans (ρ.i .i64 4) (ρ.i .i64 5) (ρ.i .i64 6) (ρ.i .i64 7) (ρ.i .i64 8) (ρ.i .i64 9) (ρ.i .i64 10) (ρ.i .i64 11) (ρ.i .i64 12) (ρ.i .i64 13) (ρ.i .i64 14) (ρ.i .i64 15)
    first
      | omega
      | (have e := name_inj (n := ρ.i .i64 4) (l := ρ.i .i64 5) (s := ρ.i .i64 6) (u := ρ.i .i64 7) (m := ρ.i .i64 8) (k := ρ.i .i64 9) (t := ρ.i .i64 10) (v := ρ.i .i64 11) (by omega) (by omega) (by omega) (by omega) (by omega) (by omega) (by omega) (by omega) (by assumption)
         omega)
      | (have e : ¬ ((ρ.i .i64 4) = (ρ.i .i64 8) ∧ (ρ.i .i64 5) = (ρ.i .i64 9) ∧ (ρ.i .i64 6) = (ρ.i .i64 10) ∧ (ρ.i .i64 7) = (ρ.i .i64 11)) := fun h => absurd (name_of h) (by assumption)
         omega)
theorem vcholds_38 : VD TTholds (st0 cHolds) wholds_38 := by
  intro ρ kn hp
  have hF : ρ.z.F = sih.Φ := kn.F
  simp only [h_nil, h_cons, d_le, d_eq, d_not, d_var, d_lit, d_cel, d_leq, d_fn, d_and, d_iff, IE.den, LE.den, AL.den, lenV, true_and, and_true, pcholds_43, pcholds_29, pcholds_20, pcholds_3, pcholds_1, pcholds_0, hF, pb2, pb6, pi1, pi3, pl1] at hp
  obtain ⟨p1, p2, p3, p4, p5, p6, p7, p8, p9, p10, p11, p12, p13⟩ := hp
  exfalso
  all_goals
    simp only [clampO, tickN_iff, dot_eq] at *
    have z := ord_zero (ρ.i .i64 4) (ρ.i .i64 5) (ρ.i .i64 6) (ρ.i .i64 7) (ρ.i .i64 8) (ρ.i .i64 9) (ρ.i .i64 10) (ρ.i .i64 11)
    have t := ord_trans (ρ.i .i64 4) (ρ.i .i64 5) (ρ.i .i64 6) (ρ.i .i64 7) (ρ.i .i64 8) (ρ.i .i64 9) (ρ.i .i64 10) (ρ.i .i64 11) (ρ.i .i64 12) (ρ.i .i64 13) (ρ.i .i64 14) (ρ.i .i64 15)
    first
      | omega
      | (have e := name_inj (n := ρ.i .i64 4) (l := ρ.i .i64 5) (s := ρ.i .i64 6) (u := ρ.i .i64 7) (m := ρ.i .i64 8) (k := ρ.i .i64 9) (t := ρ.i .i64 10) (v := ρ.i .i64 11) (by omega) (by omega) (by omega) (by omega) (by omega) (by omega) (by omega) (by omega) (by assumption)
         omega)
      | (have e : ¬ ((ρ.i .i64 4) = (ρ.i .i64 8) ∧ (ρ.i .i64 5) = (ρ.i .i64 9) ∧ (ρ.i .i64 6) = (ρ.i .i64 10) ∧ (ρ.i .i64 7) = (ρ.i .i64 11)) := fun h => absurd (name_of h) (by assumption)
         omega)
theorem vcholds_39 : VD TTholds (st0 cHolds) wholds_39 := by
  intro ρ kn hp
  have hF : ρ.z.F = sih.Φ := kn.F
  simp only [h_nil, h_cons, d_le, d_eq, d_not, d_var, d_lit, d_cel, d_leq, d_fn, d_and, d_iff, IE.den, LE.den, AL.den, lenV, true_and, and_true, pcholds_29, pcholds_20, pcholds_3, pcholds_1, pcholds_0, hF, pb2, pb6, pi1, pi3, pl1] at hp
  obtain ⟨p1, p2, p3, p4, p5, p6, p7, p8, p9, p10, p11, p12⟩ := hp
  exfalso
  all_goals
    simp only [clampO, tickN_iff, dot_eq] at *
    have z := ord_zero (ρ.i .i64 4) (ρ.i .i64 5) (ρ.i .i64 6) (ρ.i .i64 7) (ρ.i .i64 8) (ρ.i .i64 9) (ρ.i .i64 10) (ρ.i .i64 11)
    have t := ord_trans (ρ.i .i64 4) (ρ.i .i64 5) (ρ.i .i64 6) (ρ.i .i64 7) (ρ.i .i64 8) (ρ.i .i64 9) (ρ.i .i64 10) (ρ.i .i64 11) (ρ.i .i64 12) (ρ.i .i64 13) (ρ.i .i64 14) (ρ.i .i64 15)
    first
      | omega
      | (have e := name_inj (n := ρ.i .i64 4) (l := ρ.i .i64 5) (s := ρ.i .i64 6) (u := ρ.i .i64 7) (m := ρ.i .i64 8) (k := ρ.i .i64 9) (t := ρ.i .i64 10) (v := ρ.i .i64 11) (by omega) (by omega) (by omega) (by omega) (by omega) (by omega) (by omega) (by omega) (by assumption)
         omega)
      | (have e : ¬ ((ρ.i .i64 4) = (ρ.i .i64 8) ∧ (ρ.i .i64 5) = (ρ.i .i64 9) ∧ (ρ.i .i64 6) = (ρ.i .i64 10) ∧ (ρ.i .i64 7) = (ρ.i .i64 11)) := fun h => absurd (name_of h) (by assumption)
         omega)
theorem vcholds_40 : VD TTholds (st0 cHolds) wholds_40 := by
  intro ρ kn hp
  have hF : ρ.z.F = sih.Φ := kn.F
  simp only [h_nil, h_cons, d_le, d_eq, d_not, d_var, d_lit, d_cel, d_leq, d_fn, d_and, d_iff, IE.den, LE.den, AL.den, lenV, true_and, and_true, pcholds_84, pcholds_61, pcholds_44, pcholds_30, pcholds_20, pcholds_3, pcholds_1, pcholds_0, hF, pb2, pb6, pi1, pi3, pl1] at hp
  obtain ⟨p1, p2, p3, p4, p5, p6, p7, p8, p9, p10, p11, p12, p13, p14, p15⟩ := hp
  exfalso
  all_goals
    simp only [clampO, tickN_iff, dot_eq] at *
    have z := ord_zero (ρ.i .i64 4) (ρ.i .i64 5) (ρ.i .i64 6) (ρ.i .i64 7) (ρ.i .i64 8) (ρ.i .i64 9) (ρ.i .i64 10) (ρ.i .i64 11)
    have t := ord_trans (ρ.i .i64 4) (ρ.i .i64 5) (ρ.i .i64 6) (ρ.i .i64 7) (ρ.i .i64 8) (ρ.i .i64 9) (ρ.i .i64 10) (ρ.i .i64 11) (ρ.i .i64 12) (ρ.i .i64 13) (ρ.i .i64 14) (ρ.i .i64 15)
    first
      | omega
      | (have e := name_inj (n := ρ.i .i64 4) (l := ρ.i .i64 5) (s := ρ.i .i64 6) (u := ρ.i .i64 7) (m := ρ.i .i64 8) (k := ρ.i .i64 9) (t := ρ.i .i64 10) (v := ρ.i .i64 11) (by omega) (by omega) (by omega) (by omega) (by omega) (by omega) (by omega) (by omega) (by assumption)
         omega)
      | (have e : ¬ ((ρ.i .i64 4) = (ρ.i .i64 8) ∧ (ρ.i .i64 5) = (ρ.i .i64 9) ∧ (ρ.i .i64 6) = (ρ.i .i64 10) ∧ (ρ.i .i64 7) = (ρ.i .i64 11)) := fun h => absurd (name_of h) (by assumption)
         omega)
theorem vcholds_41 : VD TTholds (st0 cHolds) wholds_41 := by
  intro ρ kn hp
  exact all_nil
theorem vcholds_42 : VD TTholds (st0 cHolds) wholds_42 := by
  intro ρ kn hp
  have hF : ρ.z.F = sih.Φ := kn.F
  simp only [h_nil, h_cons, d_le, d_eq, d_not, d_var, d_lit, d_cel, d_leq, d_fn, d_and, d_iff, IE.den, LE.den, AL.den, lenV, true_and, and_true, pcholds_144, pcholds_129, pcholds_108, pcholds_84, pcholds_61, pcholds_44, pcholds_30, pcholds_20, pcholds_3, pcholds_1, pcholds_0, hF, pb2, pb6, pi1, pi3, pl1] at hp
  obtain ⟨p1, p2, p3, p4, p5, p6, p7, p8, p9, p10, p11, p12, p13, p14, p15, p16, p17, p18⟩ := hp
  exfalso
  all_goals
    simp only [clampO, tickN_iff, dot_eq] at *
    have z := ord_zero (ρ.i .i64 4) (ρ.i .i64 5) (ρ.i .i64 6) (ρ.i .i64 7) (ρ.i .i64 8) (ρ.i .i64 9) (ρ.i .i64 10) (ρ.i .i64 11)
    have t := ord_trans (ρ.i .i64 4) (ρ.i .i64 5) (ρ.i .i64 6) (ρ.i .i64 7) (ρ.i .i64 8) (ρ.i .i64 9) (ρ.i .i64 10) (ρ.i .i64 11) (ρ.i .i64 12) (ρ.i .i64 13) (ρ.i .i64 14) (ρ.i .i64 15)
    first
      | omega
      | (have e := name_inj (n := ρ.i .i64 4) (l := ρ.i .i64 5) (s := ρ.i .i64 6) (u := ρ.i .i64 7) (m := ρ.i .i64 8) (k := ρ.i .i64 9) (t := ρ.i .i64 10) (v := ρ.i .i64 11) (by omega) (by omega) (by omega) (by omega) (by omega) (by omega) (by omega) (by omega) (by assumption)
         omega)
      | (have e : ¬ ((ρ.i .i64 4) = (ρ.i .i64 8) ∧ (ρ.i .i64 5) = (ρ.i .i64 9) ∧ (ρ.i .i64 6) = (ρ.i .i64 10) ∧ (ρ.i .i64 7) = (ρ.i .i64 11)) := fun h => absurd (name_of h) (by assumption)
         omega)
theorem vcholds_43 : VD TTholds (st0 cHolds) wholds_43 := by
  intro ρ kn hp
  exact all_nil
theorem vcholds_44 : VD TTholds (st0 cHolds) wholds_44 := by
  intro ρ kn hp
  exact all_nil
theorem vcholds_45 : VD TTholds (st0 cHolds) wholds_45 := by
  intro ρ kn hp
  have hF : ρ.z.F = sih.Φ := kn.F
  simp only [h_nil, h_cons, d_le, d_eq, d_not, d_var, d_lit, d_cel, d_leq, d_fn, d_and, d_iff, IE.den, LE.den, AL.den, lenV, true_and, and_true, pcholds_145, pcholds_130, pcholds_108, pcholds_84, pcholds_61, pcholds_44, pcholds_30, pcholds_20, pcholds_3, pcholds_1, pcholds_0, hF, pb2, pb6, pi1, pi3, pl1] at hp
  obtain ⟨p1, p2, p3, p4, p5, p6, p7, p8, p9, p10, p11, p12, p13, p14, p15, p16, p17, p18⟩ := hp
  exfalso
  all_goals
    simp only [clampO, tickN_iff, dot_eq] at *
    have z := ord_zero (ρ.i .i64 4) (ρ.i .i64 5) (ρ.i .i64 6) (ρ.i .i64 7) (ρ.i .i64 8) (ρ.i .i64 9) (ρ.i .i64 10) (ρ.i .i64 11)
    have t := ord_trans (ρ.i .i64 4) (ρ.i .i64 5) (ρ.i .i64 6) (ρ.i .i64 7) (ρ.i .i64 8) (ρ.i .i64 9) (ρ.i .i64 10) (ρ.i .i64 11) (ρ.i .i64 12) (ρ.i .i64 13) (ρ.i .i64 14) (ρ.i .i64 15)
    first
      | omega
      | (have e := name_inj (n := ρ.i .i64 4) (l := ρ.i .i64 5) (s := ρ.i .i64 6) (u := ρ.i .i64 7) (m := ρ.i .i64 8) (k := ρ.i .i64 9) (t := ρ.i .i64 10) (v := ρ.i .i64 11) (by omega) (by omega) (by omega) (by omega) (by omega) (by omega) (by omega) (by omega) (by assumption)
         omega)
      | (have e : ¬ ((ρ.i .i64 4) = (ρ.i .i64 8) ∧ (ρ.i .i64 5) = (ρ.i .i64 9) ∧ (ρ.i .i64 6) = (ρ.i .i64 10) ∧ (ρ.i .i64 7) = (ρ.i .i64 11)) := fun h => absurd (name_of h) (by assumption)
         omega)
theorem vcholds_46 : VD TTholds (st0 cHolds) wholds_46 := by
  intro ρ kn hp
  exact all_nil
theorem vcholds_47 : VD TTholds (st0 cHolds) wholds_47 := by
  intro ρ kn hp
  exact all_nil
theorem vcholds_48 : VD TTholds (st0 cHolds) wholds_48 := by
  intro ρ kn hp
  have hF : ρ.z.F = sih.Φ := kn.F
  simp only [h_nil, h_cons, d_le, d_eq, d_not, d_var, d_lit, d_cel, d_leq, d_fn, d_and, d_iff, IE.den, LE.den, AL.den, lenV, true_and, and_true, pcholds_131, pcholds_109, pcholds_85, pcholds_61, pcholds_44, pcholds_30, pcholds_20, pcholds_3, pcholds_1, pcholds_0, hF, pb2, pb6, pi1, pi3, pl1] at hp
  obtain ⟨p1, p2, p3, p4, p5, p6, p7, p8, p9, p10, p11, p12, p13, p14, p15, p16, p17⟩ := hp
  exfalso
  all_goals
    simp only [clampO, tickN_iff, dot_eq] at *
    have z := ord_zero (ρ.i .i64 4) (ρ.i .i64 5) (ρ.i .i64 6) (ρ.i .i64 7) (ρ.i .i64 8) (ρ.i .i64 9) (ρ.i .i64 10) (ρ.i .i64 11)
    have t := ord_trans (ρ.i .i64 4) (ρ.i .i64 5) (ρ.i .i64 6) (ρ.i .i64 7) (ρ.i .i64 8) (ρ.i .i64 9) (ρ.i .i64 10) (ρ.i .i64 11) (ρ.i .i64 12) (ρ.i .i64 13) (ρ.i .i64 14) (ρ.i .i64 15)
    first
      | omega
      | (have e := name_inj (n := ρ.i .i64 4) (l := ρ.i .i64 5) (s := ρ.i .i64 6) (u := ρ.i .i64 7) (m := ρ.i .i64 8) (k := ρ.i .i64 9) (t := ρ.i .i64 10) (v := ρ.i .i64 11) (by omega) (by omega) (by omega) (by omega) (by omega) (by omega) (by omega) (by omega) (by assumption)
         omega)
      | (have e : ¬ ((ρ.i .i64 4) = (ρ.i .i64 8) ∧ (ρ.i .i64 5) = (ρ.i .i64 9) ∧ (ρ.i .i64 6) = (ρ.i .i64 10) ∧ (ρ.i .i64 7) = (ρ.i .i64 11)) := fun h => absurd (name_of h) (by assumption)
         omega)
theorem vcholds_49 : VD TTholds (st0 cHolds) wholds_49 := by
  intro ρ kn hp
  exact all_nil
theorem vcholds_50 : VD TTholds (st0 cHolds) wholds_50 := by
  intro ρ kn hp
  exact all_nil
theorem vcholds_51 : VD TTholds (st0 cHolds) wholds_51 := by
  intro ρ kn hp
  have hF : ρ.z.F = sih.Φ := kn.F
  simp only [h_nil, h_cons, d_le, d_eq, d_not, d_var, d_lit, d_cel, d_leq, d_fn, d_and, d_iff, IE.den, LE.den, AL.den, lenV, true_and, and_true, pcholds_132, pcholds_110, pcholds_85, pcholds_61, pcholds_44, pcholds_30, pcholds_20, pcholds_3, pcholds_1, pcholds_0, hF, pb2, pb6, pi1, pi3, pl1] at hp
  obtain ⟨p1, p2, p3, p4, p5, p6, p7, p8, p9, p10, p11, p12, p13, p14, p15, p16, p17⟩ := hp
  exfalso
  all_goals
    simp only [clampO, tickN_iff, dot_eq] at *
    have z := ord_zero (ρ.i .i64 4) (ρ.i .i64 5) (ρ.i .i64 6) (ρ.i .i64 7) (ρ.i .i64 8) (ρ.i .i64 9) (ρ.i .i64 10) (ρ.i .i64 11)
    have t := ord_trans (ρ.i .i64 4) (ρ.i .i64 5) (ρ.i .i64 6) (ρ.i .i64 7) (ρ.i .i64 8) (ρ.i .i64 9) (ρ.i .i64 10) (ρ.i .i64 11) (ρ.i .i64 12) (ρ.i .i64 13) (ρ.i .i64 14) (ρ.i .i64 15)
    first
      | omega
      | (have e := name_inj (n := ρ.i .i64 4) (l := ρ.i .i64 5) (s := ρ.i .i64 6) (u := ρ.i .i64 7) (m := ρ.i .i64 8) (k := ρ.i .i64 9) (t := ρ.i .i64 10) (v := ρ.i .i64 11) (by omega) (by omega) (by omega) (by omega) (by omega) (by omega) (by omega) (by omega) (by assumption)
         omega)
      | (have e : ¬ ((ρ.i .i64 4) = (ρ.i .i64 8) ∧ (ρ.i .i64 5) = (ρ.i .i64 9) ∧ (ρ.i .i64 6) = (ρ.i .i64 10) ∧ (ρ.i .i64 7) = (ρ.i .i64 11)) := fun h => absurd (name_of h) (by assumption)
         omega)
theorem vcholds_52 : VD TTholds (st0 cHolds) wholds_52 := by
  intro ρ kn hp
  exact all_nil
theorem vcholds_53 : VD TTholds (st0 cHolds) wholds_53 := by
  intro ρ kn hp
  exact all_nil
theorem vcholds_54 : VD TTholds (st0 cHolds) wholds_54 := by
  intro ρ kn hp
  have hF : ρ.z.F = sih.Φ := kn.F
  simp only [h_nil, h_cons, d_le, d_eq, d_not, d_var, d_lit, d_cel, d_leq, d_fn, d_and, d_iff, IE.den, LE.den, AL.den, lenV, true_and, and_true, pcholds_111, pcholds_86, pcholds_62, pcholds_44, pcholds_30, pcholds_20, pcholds_3, pcholds_1, pcholds_0, hF, pb2, pb6, pi1, pi3, pl1] at hp
  obtain ⟨p1, p2, p3, p4, p5, p6, p7, p8, p9, p10, p11, p12, p13, p14, p15, p16⟩ := hp
  exfalso
  all_goals
    simp only [clampO, tickN_iff, dot_eq] at *
    have z := ord_zero (ρ.i .i64 4) (ρ.i .i64 5) (ρ.i .i64 6) (ρ.i .i64 7) (ρ.i .i64 8) (ρ.i .i64 9) (ρ.i .i64 10) (ρ.i .i64 11)
    have t := ord_trans (ρ.i .i64 4) (ρ.i .i64 5) (ρ.i .i64 6) (ρ.i .i64 7) (ρ.i .i64 8) (ρ.i .i64 9) (ρ.i .i64 10) (ρ.i .i64 11) (ρ.i .i64 12) (ρ.i .i64 13) (ρ.i .i64 14) (ρ.i .i64 15)
    first
      | omega
      | (have e := name_inj (n := ρ.i .i64 4) (l := ρ.i .i64 5) (s := ρ.i .i64 6) (u := ρ.i .i64 7) (m := ρ.i .i64 8) (k := ρ.i .i64 9) (t := ρ.i .i64 10) (v := ρ.i .i64 11) (by omega) (by omega) (by omega) (by omega) (by omega) (by omega) (by omega) (by omega) (by assumption)
         omega)
      | (have e : ¬ ((ρ.i .i64 4) = (ρ.i .i64 8) ∧ (ρ.i .i64 5) = (ρ.i .i64 9) ∧ (ρ.i .i64 6) = (ρ.i .i64 10) ∧ (ρ.i .i64 7) = (ρ.i .i64 11)) := fun h => absurd (name_of h) (by assumption)
         omega)
theorem vcholds_55 : VD TTholds (st0 cHolds) wholds_55 := by
  intro ρ kn hp
  exact all_nil
theorem vcholds_56 : VD TTholds (st0 cHolds) wholds_56 := by
  intro ρ kn hp
  exact all_nil
theorem vcholds_57 : VD TTholds (st0 cHolds) wholds_57 := by
  intro ρ kn hp
  have hF : ρ.z.F = sih.Φ := kn.F
  simp only [h_nil, h_cons, d_le, d_eq, d_not, d_var, d_lit, d_cel, d_leq, d_fn, d_and, d_iff, IE.den, LE.den, AL.den, lenV, true_and, and_true, pcholds_112, pcholds_87, pcholds_62, pcholds_44, pcholds_30, pcholds_20, pcholds_3, pcholds_1, pcholds_0, hF, pb2, pb6, pi1, pi3, pl1] at hp
  obtain ⟨p1, p2, p3, p4, p5, p6, p7, p8, p9, p10, p11, p12, p13, p14, p15, p16⟩ := hp
  exfalso
  all_goals
    simp only [clampO, tickN_iff, dot_eq] at *
    have z := ord_zero (ρ.i .i64 4) (ρ.i .i64 5) (ρ.i .i64 6) (ρ.i .i64 7) (ρ.i .i64 8) (ρ.i .i64 9) (ρ.i .i64 10) (ρ.i .i64 11)
    have t := ord_trans (ρ.i .i64 4) (ρ.i .i64 5) (ρ.i .i64 6) (ρ.i .i64 7) (ρ.i .i64 8) (ρ.i .i64 9) (ρ.i .i64 10) (ρ.i .i64 11) (ρ.i .i64 12) (ρ.i .i64 13) (ρ.i .i64 14) (ρ.i .i64 15)
    first
      | omega
      | (have e := name_inj (n := ρ.i .i64 4) (l := ρ.i .i64 5) (s := ρ.i .i64 6) (u := ρ.i .i64 7) (m := ρ.i .i64 8) (k := ρ.i .i64 9) (t := ρ.i .i64 10) (v := ρ.i .i64 11) (by omega) (by omega) (by omega) (by omega) (by omega) (by omega) (by omega) (by omega) (by assumption)
         omega)
      | (have e : ¬ ((ρ.i .i64 4) = (ρ.i .i64 8) ∧ (ρ.i .i64 5) = (ρ.i .i64 9) ∧ (ρ.i .i64 6) = (ρ.i .i64 10) ∧ (ρ.i .i64 7) = (ρ.i .i64 11)) := fun h => absurd (name_of h) (by assumption)
         omega)
theorem vcholds_58 : VD TTholds (st0 cHolds) wholds_58 := by
  intro ρ kn hp
  exact all_nil
theorem vcholds_59 : VD TTholds (st0 cHolds) wholds_59 := by
  intro ρ kn hp
  exact all_nil
theorem vcholds_60 : VD TTholds (st0 cHolds) wholds_60 := by
  intro ρ kn hp
  have hF : ρ.z.F = sih.Φ := kn.F
  simp only [h_nil, h_cons, d_le, d_eq, d_not, d_var, d_lit, d_cel, d_leq, d_fn, d_and, d_iff, IE.den, LE.den, AL.den, lenV, true_and, and_true, pcholds_88, pcholds_63, pcholds_45, pcholds_30, pcholds_20, pcholds_3, pcholds_1, pcholds_0, hF, pb2, pb6, pi1, pi3, pl1] at hp
  obtain ⟨p1, p2, p3, p4, p5, p6, p7, p8, p9, p10, p11, p12, p13, p14, p15⟩ := hp
  exfalso
  all_goals
    simp only [clampO, tickN_iff, dot_eq] at *
    have z := ord_zero (ρ.i .i64 4) (ρ.i .i64 5) (ρ.i .i64 6) (ρ.i .i64 7) (ρ.i .i64 8) (ρ.i .i64 9) (ρ.i .i64 10) (ρ.i .i64 11)
    have t := ord_trans (ρ.i .i64 4) (ρ.i .i64 5) (ρ.i .i64 6) (ρ.i .i64 7) (ρ.i .i64 8) (ρ.i .i64 9) (ρ.i .i64 10) (ρ.i .i64 11) (ρ.i .i64 12) (ρ.i .i64 13) (ρ.i .i64 14) (ρ.i .i64 15)
    first
      | omega
      | (have e := name_inj (n := ρ.i .i64 4) (l := ρ.i .i64 5) (s := ρ.i .i64 6) (u := ρ.i .i64 7) (m := ρ.i .i64 8) (k := ρ.i .i64 9) (t := ρ.i .i64 10) (v := ρ.i .i64 11) (by omega) (by omega) (by omega) (by omega) (by omega) (by omega) (by omega) (by omega) (by assumption)
         omega)
      | (have e : ¬ ((ρ.i .i64 4) = (ρ.i .i64 8) ∧ (ρ.i .i64 5) = (ρ.i .i64 9) ∧ (ρ.i .i64 6) = (ρ.i .i64 10) ∧ (ρ.i .i64 7) = (ρ.i .i64 11)) := fun h => absurd (name_of h) (by assumption)
         omega)
theorem vcholds_61 : VD TTholds (st0 cHolds) wholds_61 := by
  intro ρ kn hp
  exact all_nil
theorem vcholds_62 : VD TTholds (st0 cHolds) wholds_62 := by
  intro ρ kn hp
  exact all_nil
theorem vcholds_63 : VD TTholds (st0 cHolds) wholds_63 := by
  intro ρ kn hp
  have hF : ρ.z.F = sih.Φ := kn.F
  simp only [h_nil, h_cons, d_le, d_eq, d_not, d_var, d_lit, d_cel, d_leq, d_fn, d_and, d_iff, IE.den, LE.den, AL.den, lenV, true_and, and_true, pcholds_89, pcholds_64, pcholds_45, pcholds_30, pcholds_20, pcholds_3, pcholds_1, pcholds_0, hF, pb2, pb6, pi1, pi3, pl1] at hp
  obtain ⟨p1, p2, p3, p4, p5, p6, p7, p8, p9, p10, p11, p12, p13, p14, p15⟩ := hp
  exfalso
  all_goals
    simp only [clampO, tickN_iff, dot_eq] at *
    have z := ord_zero (ρ.i .i64 4) (ρ.i .i64 5) (ρ.i .i64 6) (ρ.i .i64 7) (ρ.i .i64 8) (ρ.i .i64 9) (ρ.i .i64 10) (ρ.i .i64 11)
    have t := ord_trans (ρ.i .i64 4) (ρ.i .i64 5) (ρ.i .i64 6) (ρ.i .i64 7) (ρ.i .i64 8) (ρ.i .i64 9) (ρ.i .i64 10) (ρ.i .i64 11) (ρ.i .i64 12) (ρ.i .i64 13) (ρ.i .i64 14) (ρ.i .i64 15)
    first
      | omega
      | (have e := name_inj (n := ρ.i .i64 4) (l := ρ.i .i64 5) (s := ρ.i .i64 6) (u := ρ.i .i64 7) (m := ρ.i .i64 8) (k := ρ.i .i64 9) (t := ρ.i .i64 10) (v := ρ.i .i64 11) (by omega) (by omega) (by omega) (by omega) (by omega) (by omega) (by omega) (by omega) (by assumption)
         omega)
      | (have e : ¬ ((ρ.i .i64 4) = (ρ.i .i64 8) ∧ (ρ.i .i64 5) = (ρ.i .i64 9) ∧ (ρ.i .i64 6) = (ρ.i .i64 10) ∧ (ρ.i .i64 7) = (ρ.i .i64 11)) := fun h => absurd (name_of h) (by assumption)
         omega)
theorem vcholds_64 : VD TTholds (st0 cHolds) wholds_64 := by
  intro ρ kn hp
  exact all_nil
theorem vcholds_65 : VD TTholds (st0 cHolds) wholds_65 := by
  intro ρ kn hp
  exact all_nil
theorem vcholds_66 : VD TTholds (st0 cHolds) wholds_66 := by
  intro ρ kn hp
  have hF : ρ.z.F = sih.Φ := kn.F
  simp only [h_nil, h_cons, d_le, d_eq, d_not, d_var, d_lit, d_cel, d_leq, d_fn, d_and, d_iff, IE.den, LE.den, AL.den, lenV, true_and, and_true, pcholds_90, pcholds_65, pcholds_46, pcholds_31, pcholds_21, pcholds_2, pcholds_1, pcholds_0, hF, pb2, pb6, pi1, pi3, pl1] at hp
  obtain ⟨p1, p2, p3, p4, p5, p6, p7, p8, p9, p10, p11, p12, p13, p14, p15⟩ := hp
  exfalso
  all_goals
    simp only [clampO, tickN_iff, dot_eq] at *
    have z := ord_zero (ρ.i .i64 4) (ρ.i .i64 5) (ρ.i .i64 6) (ρ.i .i64 7) (ρ.i .i64 8) (ρ.i .i64 9) (ρ.i .i64 10) (ρ.i .i64 11)
    have t := ord_trans (ρ.i .i64 4) (ρ.i .i64 5) (ρ.i .i64 6) (ρ.i .i64 7) (ρ.i .i64 8) (ρ.i .i64 9) (ρ.i .i64 10) (ρ.i .i64 11) (ρ.i .i64 12) (ρ.i .i64 13) (ρ.i .i64 14) (ρ.i .i64 15)
    first
      | omega
      | (have e := name_inj (n := ρ.i .i64 4) (l := ρ.i .i64 5) (s := ρ.i .i64 6) (u := ρ.i .i64 7) (m := ρ.i .i64 8) (k := ρ.i .i64 9) (t := ρ.i .i64 10) (v := ρ.i .i64 11) (by omega) (by omega) (by omega) (by omega) (by omega) (by omega) (by omega) (by omega) (by assumption)
         omega)
      | (have e : ¬ ((ρ.i .i64 4) = (ρ.i .i64 8) ∧ (ρ.i .i64 5) = (ρ.i .i64 9) ∧ (ρ.i .i64 6) = (ρ.i .i64 10) ∧ (ρ.i .i64 7) = (ρ.i .i64 11)) := fun h => absurd (name_of h) (by assumption)
         omega)
theorem vcholds_67 : VD TTholds (st0 cHolds) wholds_67 := by
  intro ρ kn hp
  have hF : ρ.z.F = sih.Φ := kn.F
  simp only [h_nil, h_cons, d_le, d_eq, d_not, d_var, d_lit, d_cel, d_leq, d_fn, d_and, d_iff, IE.den, LE.den, AL.den, lenV, true_and, and_true, pcholds_65, pcholds_46, pcholds_31, pcholds_21, pcholds_2, pcholds_1, pcholds_0, hF, pb2, pb6, pi1, pi3, pl1] at hp
  obtain ⟨p1, p2, p3, p4, p5, p6, p7, p8, p9, p10, p11, p12, p13, p14⟩ := hp
  exfalso
  all_goals
    simp only [clampO, tickN_iff, dot_eq] at *
    have z := ord_zero (ρ.i .i64 4) (ρ.i .i64 5) (ρ.i .i64 6) (ρ.i .i64 7) (ρ.i .i64 8) (ρ.i .i64 9) (ρ.i .i64 10) (ρ.i .i64 11)
    have t := ord_trans (ρ.i .i64 4) (ρ.i .i64 5) (ρ.i .i64 6) (ρ.i .i64 7) (ρ.i .i64 8) (ρ.i .i64 9) (ρ.i .i64 10) (ρ.i .i64 11) (ρ.i .i64 12) (ρ.i .i64 13) (ρ.i .i64 14) (ρ.i .i64 15)
    first
      | omega
      | (have e := name_inj (n := ρ.i .i64 4) (l := ρ.i .i64 5) (s := ρ.i .i64 6) (u := ρ.i .i64 7) (m := ρ.i .i64 8) (k := ρ.i .i64 9) (t := ρ.i .i64 10) (v := ρ.i .i64 11) (by omega) (by omega) (by omega) (by omega) (by omega) (by omega) (by omega) (by omega) (by assumption)
         omega)
      | (have e : ¬ ((ρ.i .i64 4) = (ρ.i .i64 8) ∧ (ρ.i .i64 5) = (ρ.i .i64 9) ∧ (ρ.i .i64 6) = (ρ.i .i64 10) ∧ (ρ.i .i64 7) = (ρ.i .i64 11)) := fun h => absurd (name_of h) (by assumption)
         omega)
theorem vcholds_68 : VD TTholds (st0 cHolds) wholds_68 := by
  intro ρ kn hp
  have hF : ρ.z.F = sih.Φ := kn.F
  simp only [h_nil, h_cons, d_le, d_eq, d_not, d_var, d_lit, d_cel, d_leq, d_fn, d_and, d_iff, IE.den, LE.den, AL.den, lenV, true_and, and_true, pcholds_46, pcholds_31, pcholds_21, pcholds_2, pcholds_1, pcholds_0, hF, pb2, pb6, pi1, pi3, pl1] at hp
  obtain ⟨p1, p2, p3, p4, p5, p6, p7, p8, p9, p10, p11, p12, p13⟩ := hp
  exfalso
  all_goals
    simp only [clampO, tickN_iff, dot_eq] at *
    have z := ord_zero (ρ.i .i64 4) (ρ.i .i64 5) (ρ.i .i64 6) (ρ.i .i64 7) (ρ.i .i64 8) (ρ.i .i64 9) (ρ.i .i64 10) (ρ.i .i64 11)
    have t := ord_trans (ρ.i .i64 4) (ρ.i .i64 5) (ρ.i .i64 6) (ρ.i .i64 7) (ρ.i .i64 8) (ρ.i .i64 9) (ρ.i .i64 10) (ρ.i .i64 11) (ρ.i .i64 12) (ρ.i .i64 13) (ρ.i .i64 14) (ρ.i .i64 15)
    first
      | omega
      | (have e := name_inj (n := ρ.i .i64 4) (l := ρ.i .i64 5) (s := ρ.i .i64 6) (u := ρ.i .i64 7) (m := ρ.i .i64 8) (k := ρ.i .i64 9) (t := ρ.i .i64 10) (v := ρ.i .i64 11) (by omega) (by omega) (by omega) (by omega) (by omega) (by omega) (by omega) (by omega) (by assumption)
         omega)
      | (have e : ¬ ((ρ.i .i64 4) = (ρ.i .i64 8) ∧ (ρ.i .i64 5) = (ρ.i .i64 9) ∧ (ρ.i .i64 6) = (ρ.i .i64 10) ∧ (ρ.i .i64 7) = (ρ.i .i64 11)) := fun h => absurd (name_of h) (by assumption)
         omega)
theorem vcholds_69 : VD TTholds (st0 cHolds) wholds_69 := by
  intro ρ kn hp
  have hF : ρ.z.F = sih.Φ := kn.F
  simp only [h_nil, h_cons, d_le, d_eq, d_not, d_var, d_lit, d_cel, d_leq, d_fn, d_and, d_iff, IE.den, LE.den, AL.den, lenV, true_and, and_true, pcholds_31, pcholds_21, pcholds_2, pcholds_1, pcholds_0, hF, pb2, pb6, pi1, pi3, pl1] at hp
  obtain ⟨p1, p2, p3, p4, p5, p6, p7, p8, p9, p10, p11, p12⟩ := hp
  exfalso
  all_goals
    simp only [clampO, tickN_iff, dot_eq] at *
    have z := ord_zero (ρ.i .i64 4) (ρ.i .i64 5) (ρ.i .i64 6) (ρ.i .i64 7) (ρ.i .i64 8) (ρ.i .i64 9) (ρ.i .i64 10) (ρ.i .i64 11)
    have t := ord_trans (ρ.i .i64 4) (ρ.i .i64 5) (ρ.i .i64 6) (ρ.i .i64 7) (ρ.i .i64 8) (ρ.i .i64 9) (ρ.i .i64 10) (ρ.i .i64 11) (ρ.i .i64 12) (ρ.i .i64 13) (ρ.i .i64 14) (ρ.i .i64 15)
    first
      | omega
      | (have e := name_inj (n := ρ.i .i64 4) (l := ρ.i .i64 5) (s := ρ.i .i64 6) (u := ρ.i .i64 7) (m := ρ.i .i64 8) (k := ρ.i .i64 9) (t := ρ.i .i64 10) (v := ρ.i .i64 11) (by omega) (by omega) (by omega) (by omega) (by omega) (by omega) (by omega) (by omega) (by assumption)
         omega)
      | (have e : ¬ ((ρ.i .i64 4) = (ρ.i .i64 8) ∧ (ρ.i .i64 5) = (ρ.i .i64 9) ∧ (ρ.i .i64 6) = (ρ.i .i64 10) ∧ (ρ.i .i64 7) = (ρ.i .i64 11)) := fun h => absurd (name_of h) (by assumption)
         omega)
theorem vcholds_70 : VD TTholds (st0 cHolds) wholds_70 := by
  intro ρ kn hp
  have hF : ρ.z.F = sih.Φ := kn.F
  simp only [h_nil, h_cons, d_le, d_eq, d_not, d_var, d_lit, d_cel, d_leq, d_fn, d_and, d_iff, IE.den, LE.den, AL.den, lenV, true_and, and_true, pcholds_91, pcholds_66, pcholds_47, pcholds_32, pcholds_21, pcholds_2, pcholds_1, pcholds_0, hF, pb2, pb6, pi1, pi3, pl1] at hp
  obtain ⟨p1, p2, p3, p4, p5, p6, p7, p8, p9, p10, p11, p12, p13, p14, p15⟩ := hp
  exfalso
  all_goals
    simp only [clampO, tickN_iff, dot_eq] at *
    have z := ord_zero (ρ.i .i64 4) (ρ.i .i64 5) (ρ.i .i64 6) (ρ.i .i64 7) (ρ.i .i64 8) (ρ.i .i64 9) (ρ.i .i64 10) (ρ.i .i64 11)
    have t := ord_trans (ρ.i .i64 4) (ρ.i .i64 5) (ρ.i .i64 6) (ρ.i .i64 7) (ρ.i .i64 8) (ρ.i .i64 9) (ρ.i .i64 10) (ρ.i .i64 11) (ρ.i .i64 12) (ρ.i .i64 13) (ρ.i .i64 14) (ρ.i .i64 15)
    first
      | omega
      | (have e := name_inj (n := ρ.i .i64 4) (l := ρ.i .i64 5) (s := ρ.i .i64 6) (u := ρ.i .i64 7) (m := ρ.i .i64 8) (k := ρ.i .i64 9) (t := ρ.i .i64 10) (v := ρ.i .i64 11) (by omega) (by omega) (by omega) (by omega) (by omega) (by omega) (by omega) (by omega) (by assumption)
         omega)
      | (have e : ¬ ((ρ.i .i64 4) = (ρ.i .i64 8) ∧ (ρ.i .i64 5) = (ρ.i .i64 9) ∧ (ρ.i .i64 6) = (ρ.i .i64 10) ∧ (ρ.i .i64 7) = (ρ.i .i64 11)) := fun h => absurd (name_of h) (by assumption)
         omega)
theorem vcholds_71 : VD TTholds (st0 cHolds) wholds_71 := by
  intro ρ kn hp
  exact all_nil
theorem vcholds_72 : VD TTholds (st0 cHolds) wholds_72 := by
  intro ρ kn hp
  have hF : ρ.z.F = sih.Φ := kn.F
  simp only [h_nil, h_cons, d_le, d_eq, d_not, d_var, d_lit, d_cel, d_leq, d_fn, d_and, d_iff, IE.den, LE.den, AL.den, lenV, true_and, and_true, pcholds_146, pcholds_133, pcholds_113, pcholds_91, pcholds_66, pcholds_47, pcholds_32, pcholds_21, pcholds_2, pcholds_1, pcholds_0, hF, pb2, pb6, pi1, pi3, pl1] at hp
  obtain ⟨p1, p2, p3, p4, p5, p6, p7, p8, p9, p10, p11, p12, p13, p14, p15, p16, p17, p18⟩ := hp
  exfalso
  all_goals
    simp only [clampO, tickN_iff, dot_eq] at *
    have z := ord_zero (ρ.i .i64 4) (ρ.i .i64 5) (ρ.i .i64 6) (ρ.i .i64 7) (ρ.i .i64 8) (ρ.i .i64 9) (ρ.i .i64 10) (ρ.i .i64 11)
    have t := ord_trans (ρ.i .i64 4) (ρ.i .i64 5) (ρ.i .i64 6) (ρ.i .i64 7) (ρ.i .i64 8) (ρ.i .i64 9) (ρ.i .i64 10) (ρ.i .i64 11) (ρ.i .i64 12) (ρ.i .i64 13) (ρ.i .i64 14) (ρ.i .i64 15)
    first
      | omega
      | (have e := name_inj (n := ρ.i .i64 4) (l := ρ.i .i64 5) (s := ρ.i .i64 6) (u := ρ.i .i64 7) (m := ρ.i .i64 8) (k := ρ.i .i64 9) (t := ρ.i .i64 10) (v := ρ.i .i64 11) (by omega) (by omega) (by omega) (by omega) (by omega) (by omega) (by omega) (by omega) (by assumption)
         omega)
      | (have e : ¬ ((ρ.i .i64 4) = (ρ.i .i64 8) ∧ (ρ.i .i64 5) = (ρ.i .i64 9) ∧ (ρ.i .i64 6) = (ρ.i .i64 10) ∧ (ρ.i .i64 7) = (ρ.i .i64 11)) := fun h => absurd (name_of h) (by assumption)
         omega)
theorem vcholds_73 : VD TTholds (st0 cHolds) wholds_73 := by
  intro ρ kn hp
  exact all_nil
theorem vcholds_74 : VD TTholds (st0 cHolds) wholds_74 := by
  intro ρ kn hp
  exact all_nil
theorem vcholds_75 : VD TTholds (st0 cHolds) wholds_75 := by
  intro ρ kn hp
  have hF : ρ.z.F = sih.Φ := kn.F
  simp only [h_nil, h_cons, d_le, d_eq, d_not, d_var, d_lit, d_cel, d_leq, d_fn, d_and, d_iff, IE.den, LE.den, AL.den, lenV, true_and, and_true, pcholds_147, pcholds_134, pcholds_113, pcholds_91, pcholds_66, pcholds_47, pcholds_32, pcholds_21, pcholds_2, pcholds_1, pcholds_0, hF, pb2, pb6, pi1, pi3, pl1] at hp
  obtain ⟨p1, p2, p3, p4, p5, p6, p7, p8, p9, p10, p11, p12, p13, p14, p15, p16, p17, p18⟩ := hp
  exfalso
  all_goals
    simp only [clampO, tickN_iff, dot_eq] at *
    have z := ord_zero (ρ.i .i64 4) (ρ.i .i64 5) (ρ.i .i64 6) (ρ.i .i64 7) (ρ.i .i64 8) (ρ.i .i64 9) (ρ.i .i64 10) (ρ.i .i64 11)
    have t := ord_trans (ρ.i .i64 4) (ρ.i .i64 5) (ρ.i .i64 6) (ρ.i .i64 7) (ρ.i .i64 8) (ρ.i .i64 9) (ρ.i .i64 10) (ρ.i .i64 11) (ρ.i .i64 12) (ρ.i .i64 13) (ρ.i .i64 14) (ρ.i .i64 15)
    first
      | omega
      | (have e := name_inj (n := ρ.i .i64 4) (l := ρ.i .i64 5) (s := ρ.i .i64 6) (u := ρ.i .i64 7) (m := ρ.i .i64 8) (k := ρ.i .i64 9) (t := ρ.i .i64 10) (v := ρ.i .i64 11) (by omega) (by omega) (by omega) (by omega) (by omega) (by omega) (by omega) (by omega) (by assumption)
         omega)
      | (have e : ¬ ((ρ.i .i64 4) = (ρ.i .i64 8) ∧ (ρ.i .i64 5) = (ρ.i .i64 9) ∧ (ρ.i .i64 6) = (ρ.i .i64 10) ∧ (ρ.i .i64 7) = (ρ.i .i64 11)) := fun h => absurd (name_of h) (by assumption)
         omega)
theorem vcholds_76 : VD TTholds (st0 cHolds) wholds_76 := by
  intro ρ kn hp
  exact all_nil
theorem vcholds_77 : VD TTholds (st0 cHolds) wholds_77 := by
  intro ρ kn hp
  exact all_nil
theorem vcholds_78 : VD TTholds (st0 cHolds) wholds_78 := by
  intro ρ kn hp
  have hF : ρ.z.F = sih.Φ := kn.F
  simp only [h_nil, h_cons, d_le, d_eq, d_not, d_var, d_lit, d_cel, d_leq, d_fn, d_and, d_iff, IE.den, LE.den, AL.den, lenV, true_and, and_true, pcholds_135, pcholds_114, pcholds_92, pcholds_66, pcholds_47, pcholds_32, pcholds_21, pcholds_2, pcholds_1, pcholds_0, hF, pb2, pb6, pi1, pi3, pl1] at hp
  obtain ⟨p1, p2, p3, p4, p5, p6, p7, p8, p9, p10, p11, p12, p13, p14, p15, p16, p17⟩ := hp
  exfalso
  all_goals
    simp only [clampO, tickN_iff, dot_eq] at *
    have z := ord_zero (ρ.i .i64 4) (ρ.i .i64 5) (ρ.i .i64 6) (ρ.i .i64 7) (ρ.i .i64 8) (ρ.i .i64 9) (ρ.i .i64 10) (ρ.i .i64 11)
    have t := ord_trans (ρ.i .i64 4) (ρ.i .i64 5) (ρ.i .i64 6) (ρ.i .i64 7) (ρ.i .i64 8) (ρ.i .i64 9) (ρ.i .i64 10) (ρ.i .i64 11) (ρ.i .i64 12) (ρ.i .i64 13) (ρ.i .i64 14) (ρ.i .i64 15)
    first
      | omega
      | (have e := name_inj (n := ρ.i .i64 4) (l := ρ.i .i64 5) (s := ρ.i .i64 6) (u := ρ.i .i64 7) (m := ρ.i .i64 8) (k := ρ.i .i64 9) (t := ρ.i .i64 10) (v := ρ.i .i64 11) (by omega) (by omega) (by omega) (by omega) (by omega) (by omega) (by omega) (by omega) (by assumption)
         omega)
      | (have e : ¬ ((ρ.i .i64 4) = (ρ.i .i64 8) ∧ (ρ.i .i64 5) = (ρ.i .i64 9) ∧ (ρ.i .i64 6) = (ρ.i .i64 10) ∧ (ρ.i .i64 7) = (ρ.i .i64 11)) := fun h => absurd (name_of h) (by assumption)
         omega)
theorem vcholds_79 : VD TTholds (st0 cHolds) wholds_79 := by
  intro ρ kn hp
  exact all_nil
theorem vcholds_80 : VD TTholds (st0 cHolds) wholds_80 := by
  intro ρ kn hp
  exact all_nil
theorem vcholds_81 : VD TTholds (st0 cHolds) wholds_81 := by
  intro ρ kn hp
  have hF : ρ.z.F = sih.Φ := kn.F
  simp only [h_nil, h_cons, d_le, d_eq, d_not, d_var, d_lit, d_cel, d_leq, d_fn, d_and, d_iff, IE.den, LE.den, AL.den, lenV, true_and, and_true, pcholds_136, pcholds_115, pcholds_92, pcholds_66, pcholds_47, pcholds_32, pcholds_21, pcholds_2, pcholds_1, pcholds_0, hF, pb2, pb6, pi1, pi3, pl1] at hp
  obtain ⟨p1, p2, p3, p4, p5, p6, p7, p8, p9, p10, p11, p12, p13, p14, p15, p16, p17⟩ := hp
  exfalso
  all_goals
    simp only [clampO, tickN_iff, dot_eq] at *
    have z := ord_zero (ρ.i .i64 4) (ρ.i .i64 5) (ρ.i .i64 6) (ρ.i .i64 7) (ρ.i .i64 8) (ρ.i .i64 9) (ρ.i .i64 10) (ρ.i .i64 11)
    have t := ord_trans (ρ.i .i64 4) (ρ.i .i64 5) (ρ.i .i64 6) (ρ.i .i64 7) (ρ.i .i64 8) (ρ.i .i64 9) (ρ.i .i64 10) (ρ.i .i64 11) (ρ.i .i64 12) (ρ.i .i64 13) (ρ.i .i64 14) (ρ.i .i64 15)
    first
      | omega
      | (have e := name_inj (n := ρ.i .i64 4) (l := ρ.i .i64 5) (s := ρ.i .i64 6) (u := ρ.i .i64 7) (m := ρ.i .i64 8) (k := ρ.i .i64 9) (t := ρ.i .i64 10) (v := ρ.i .i64 11) (by omega) (by omega) (by omega) (by omega) (by omega) (by omega) (by omega) (by omega) (by assumption)
         omega)
      | (have e : ¬ ((ρ.i .i64 4) = (ρ.i .i64 8) ∧ (ρ.i .i64 5) = (ρ.i .i64 9) ∧ (ρ.i .i64 6) = (ρ.i .i64 10) ∧ (ρ.i .i64 7) = (ρ.i .i64 11)) := fun h => absurd (name_of h) (by assumption)
         omega)
theorem vcholds_82 : VD TTholds (st0 cHolds) wholds_82 := by
  intro ρ kn hp
  exact all_nil
theorem vcholds_83 : VD TTholds (st0 cHolds) wholds_83 := by
  intro ρ kn hp
  exact all_nil
theorem vcholds_84 : VD TTholds (st0 cHolds) wholds_84 := by
  intro ρ kn hp
  have hF : ρ.z.F = sih.Φ := kn.F
  simp only [h_nil, h_cons, d_le, d_eq, d_not, d_var, d_lit, d_cel, d_leq, d_fn, d_and, d_iff, IE.den, LE.den, AL.den, lenV, true_and, and_true, pcholds_116, pcholds_93, pcholds_67, pcholds_47, pcholds_32, pcholds_21, pcholds_2, pcholds_1, pcholds_0, hF, pb2, pb6, pi1, pi3, pl1] at hp
  obtain ⟨p1, p2, p3, p4, p5, p6, p7, p8, p9, p10, p11, p12, p13, p14, p15, p16⟩ := hp
  exfalso
  all_goals
    simp only [clampO, tickN_iff, dot_eq] at *
    have z := ord_zero (ρ.i .i64 4) (ρ.i .i64 5) (ρ.i .i64 6) (ρ.i .i64 7) (ρ.i .i64 8) (ρ.i .i64 9) (ρ.i .i64 10) (ρ.i .i64 11)
    have t := ord_trans (ρ.i .i64 4) (ρ.i .i64 5) (ρ.i .i64 6) (ρ.i .i64 7) (ρ.i .i64 8) (ρ.i .i64 9) (ρ.i .i64 10) (ρ.i .i64 11) (ρ.i .i64 12) (ρ.i .i64 13) (ρ.i .i64 14) (ρ.i .i64 15)
    first
      | omega
      | (have e := name_inj (n := ρ.i .i64 4) (l := ρ.i .i64 5) (s := ρ.i .i64 6) (u := ρ.i .i64 7) (m := ρ.i .i64 8) (k := ρ.i .i64 9) (t := ρ.i .i64 10) (v := ρ.i .i64 11) (by omega) (by omega) (by omega) (by omega) (by omega) (by omega) (by omega) (by omega) (by assumption)
         omega)
      | (have e : ¬ ((ρ.i .i64 4) = (ρ.i .i64 8) ∧ (ρ.i .i64 5) = (ρ.i .i64 9) ∧ (ρ.i .i64 6) = (ρ.i .i64 10) ∧ (ρ.i .i64 7) = (ρ.i .i64 11)) := fun h => absurd (name_of h) (by assumption)
         omega)
theorem vcholds_85 : VD TTholds (st0 cHolds) wholds_85 := by
  intro ρ kn hp
  exact all_nil
theorem vcholds_86 : VD TTholds (st0 cHolds) wholds_86 := by
  intro ρ kn hp
  exact all_nil
theorem vcholds_87 : VD TTholds (st0 cHolds) wholds_87 := by
  intro ρ kn hp
  have hF : ρ.z.F = sih.Φ := kn.F
  simp only [h_nil, h_cons, d_le, d_eq, d_not, d_var, d_lit, d_cel, d_leq, d_fn, d_and, d_iff, IE.den, LE.den, AL.den, lenV, true_and, and_true, pcholds_117, pcholds_94, pcholds_67, pcholds_47, pcholds_32, pcholds_21, pcholds_2, pcholds_1, pcholds_0, hF, pb2, pb6, pi1, pi3, pl1] at hp
  obtain ⟨p1, p2, p3, p4, p5, p6, p7, p8, p9, p10, p11, p12, p13, p14, p15, p16⟩ := hp
  exfalso
  all_goals
    simp only [clampO, tickN_iff, dot_eq] at *
    have z := ord_zero (ρ.i .i64 4) (ρ.i .i64 5) (ρ.i .i64 6) (ρ.i .i64 7) (ρ.i .i64 8) (ρ.i .i64 9) (ρ.i .i64 10) (ρ.i .i64 11)
    have t := ord_trans (ρ.i .i64 4) (ρ.i .i64 5) (ρ.i .i64 6) (ρ.i .i64 7) (ρ.i .i64 8) (ρ.i .i64 9) (ρ.i .i64 10) (ρ.i .i64 11) (ρ.i .i64 12) (ρ.i .i64 13) (ρ.i .i64 14) (ρ.i .i64 15)
    first
      | omega
      | (have e := name_inj (n := ρ.i .i64 4) (l := ρ.i .i64 5) (s := ρ.i .i64 6) (u := ρ.i .i64 7) (m := ρ.i .i64 8) (k := ρ.i .i64 9) (t := ρ.i .i64 10) (v := ρ.i .i64 11) (by omega) (by omega) (by omega) (by omega) (by omega) (by omega) (by omega) (by omega) (by assumption)
         omega)
      | (have e : ¬ ((ρ.i .i64 4) = (ρ.i .i64 8) ∧ (ρ.i .i64 5) = (ρ.i .i64 9) ∧ (ρ.i .i64 6) = (ρ.i .i64 10) ∧ (ρ.i .i64 7) = (ρ.i .i64 11)) := fun h => absurd (name_of h) (by assumption)
         omega)
theorem vcholds_88 : VD TTholds (st0 cHolds) wholds_88 := by
  intro ρ kn hp
  exact all_nil
theorem vcholds_89 : VD TTholds (st0 cHolds) wholds_89 := by
  intro ρ kn hp
  exact all_nil
theorem vcholds_90 : VD TTholds (st0 cHolds) wholds_90 := by
  intro ρ kn hp
  have hF : ρ.z.F = sih.Φ := kn.F
  simp only [h_nil, h_cons, d_le, d_eq, d_not, d_var, d_lit, d_cel, d_leq, d_fn, d_and, d_iff, IE.den, LE.den, AL.den, lenV, true_and, and_true, pcholds_95, pcholds_68, pcholds_48, pcholds_32, pcholds_21, pcholds_2, pcholds_1, pcholds_0, hF, pb2, pb6, pi1, pi3, pl1] at hp
  obtain ⟨p1, p2, p3, p4, p5, p6, p7, p8, p9, p10, p11, p12, p13, p14, p15⟩ := hp
  exfalso
  all_goals
    simp only [clampO, tickN_iff, dot_eq] at *
    have z := ord_zero (ρ.i .i64 4) (ρ.i .i64 5) (ρ.i .i64 6) (ρ.i .i64 7) (ρ.i .i64 8) (ρ.i .i64 9) (ρ.i .i64 10) (ρ.i .i64 11)
    have t := ord_trans (ρ.i .i64 4) (ρ.i .i64 5) (ρ.i .i64 6) (ρ.i .i64 7) (ρ.i .i64 8) (ρ.i .i64 9) (ρ.i .i64 10) (ρ.i .i64 11) (ρ.i .i64 12) (ρ.i .i64 13) (ρ.i .i64 14) (ρ.i .i64 15)
    first
      | omega
      | (have e := name_inj (n := ρ.i .i64 4) (l := ρ.i .i64 5) (s := ρ.i .i64 6) (u := ρ.i .i64 7) (m := ρ.i .i64 8) (k := ρ.i .i64 9) (t := ρ.i .i64 10) (v := ρ.i .i64 11) (by omega) (by omega) (by omega) (by omega) (by omega) (by omega) (by omega) (by omega) (by assumption)
         omega)
      | (have e : ¬ ((ρ.i .i64 4) = (ρ.i .i64 8) ∧ (ρ.i .i64 5) = (ρ.i .i64 9) ∧ (ρ.i .i64 6) = (ρ.i .i64 10) ∧ (ρ.i .i64 7) = (ρ.i .i64 11)) := fun h => absurd (name_of h) (by assumption)
         omega)
theorem vcholds_91 : VD TTholds (st0 cHolds) wholds_91 := by
  intro ρ kn hp
  exact all_nil
theorem vcholds_92 : VD TTholds (st0 cHolds) wholds_92 := by
  intro ρ kn hp
  exact all_nil
theorem vcholds_93 : VD TTholds (st0 cHolds) wholds_93 := by
  intro ρ kn hp
  have hF : ρ.z.F = sih.Φ := kn.F
  simp only [h_nil, h_cons, d_le, d_eq, d_not, d_var, d_lit, d_cel, d_leq, d_fn, d_and, d_iff, IE.den, LE.den, AL.den, lenV, true_and, and_true, pcholds_96, pcholds_69, pcholds_48, pcholds_32, pcholds_21, pcholds_2, pcholds_1, pcholds_0, hF, pb2, pb6, pi1, pi3, pl1] at hp
  obtain ⟨p1, p2, p3, p4, p5, p6, p7, p8, p9, p10, p11, p12, p13, p14, p15⟩ := hp
  exfalso
  all_goals
    simp only [clampO, tickN_iff, dot_eq] at *
    have z := ord_zero (ρ.i .i64 4) (ρ.i .i64 5) (ρ.i .i64 6) (ρ.i .i64 7) (ρ.i .i64 8) (ρ.i .i64 9) (ρ.i .i64 10) (ρ.i .i64 11)
    have t := ord_trans (ρ.i .i64 4) (ρ.i .i64 5) (ρ.i .i64 6) (ρ.i .i64 7) (ρ.i .i64 8) (ρ.i .i64 9) (ρ.i .i64 10) (ρ.i .i64 11) (ρ.i .i64 12) (ρ.i .i64 13) (ρ.i .i64 14) (ρ.i .i64 15)
    first
      | omega
      | (have e := name_inj (n := ρ.i .i64 4) (l := ρ.i .i64 5) (s := ρ.i .i64 6) (u := ρ.i .i64 7) (m := ρ.i .i64 8) (k := ρ.i .i64 9) (t := ρ.i .i64 10) (v := ρ.i .i64 11) (by omega) (by omega) (by omega) (by omega) (by omega) (by omega) (by omega) (by omega) (by assumption)
         omega)
      | (have e : ¬ ((ρ.i .i64 4) = (ρ.i .i64 8) ∧ (ρ.i .i64 5) = (ρ.i .i64 9) ∧ (ρ.i .i64 6) = (ρ.i .i64 10) ∧ (ρ.i .i64 7) = (ρ.i .i64 11)) := fun h => absurd (name_of h) (by assumption)
         omega)
theorem vcholds_94 : VD TTholds (st0 cHolds) wholds_94 := by
  intro ρ kn hp
  exact all_nil
theorem vcholds_95 : VD TTholds (st0 cHolds) wholds_95 := by
  intro ρ kn hp
  exact all_nil
theorem vcholds_96 : VD TTholds (st0 cHolds) wholds_96 := by
  intro ρ kn hp
  have hF : ρ.z.F = sih.Φ := kn.F
  simp only [h_nil, h_cons, d_le, d_eq, d_not, d_var, d_lit, d_cel, d_leq, d_fn, d_and, d_iff, IE.den, LE.den, AL.den, lenV, true_and, and_true, pcholds_70, pcholds_49, pcholds_33, pcholds_22, pcholds_16, pcholds_2, pcholds_1, pcholds_0, hF, pb2, pb6, pi1, pi3, pl1] at hp
  obtain ⟨p1, p2, p3, p4, p5, p6, p7, p8, p9, p10, p11, p12, p13, p14⟩ := hp
  exfalso
  all_goals
    simp only [clampO, tickN_iff, dot_eq] at *
    have z := ord_zero (ρ.i .i64 4) (ρ.i .i64 5) (ρ.i .i64 6) (ρ.i .i64 7) (ρ.i .i64 8) (ρ.i .i64 9) (ρ.i .i64 10) (ρ.i .i64 11)
    have t := ord_trans (ρ.i .i64 4) (ρ.i .i64 5) (ρ.i .i64 6) (ρ.i .i64 7) (ρ.i .i64 8) (ρ.i .i64 9) (ρ.i .i64 10) (ρ.i .i64 11) (ρ.i .i64 12) (ρ.i .i64 13) (ρ.i .i64 14) (ρ.i .i64 15)
    first
      | omega
      | (have e := name_inj (n := ρ.i .i64 4) (l := ρ.i .i64 5) (s := ρ.i .i64 6) (u := ρ.i .i64 7) (m := ρ.i .i64 8) (k := ρ.i .i64 9) (t := ρ.i .i64 10) (v := ρ.i .i64 11) (by omega) (by omega) (by omega) (by omega) (by omega) (by omega) (by omega) (by omega) (by assumption)
         omega)
      | (have e : ¬ ((ρ.i .i64 4) = (ρ.i .i64 8) ∧ (ρ.i .i64 5) = (ρ.i .i64 9) ∧ (ρ.i .i64 6) = (ρ.i .i64 10) ∧ (ρ.i .i64 7) = (ρ.i .i64 11)) := fun h => absurd (name_of h) (by assumption)
         omega)
theorem vcholds_97 : VD TTholds (st0 cHolds) wholds_97 := by
  intro ρ kn hp
  have hF : ρ.z.F = sih.Φ := kn.F
  simp only [h_nil, h_cons, d_le, d_eq, d_not, d_var, d_lit, d_cel, d_leq, d_fn, d_and, d_iff, IE.den, LE.den, AL.den, lenV, true_and, and_true, pcholds_49, pcholds_33, pcholds_22, pcholds_16, pcholds_2, pcholds_1, pcholds_0, hF, pb2, pb6, pi1, pi3, pl1] at hp
  obtain ⟨p1, p2, p3, p4, p5, p6, p7, p8, p9, p10, p11, p12, p13⟩ := hp
  exfalso
  all_goals
    simp only [clampO, tickN_iff, dot_eq] at *
    have z := ord_zero (ρ.i .i64 4) (ρ.i .i64 5) (ρ.i .i64 6) (ρ.i .i64 7) (ρ.i .i64 8) (ρ.i .i64 9) (ρ.i .i64 10) (ρ.i .i64 11)
    have t := ord_trans (ρ.i .i64 4) (ρ.i .i64 5) (ρ.i .i64 6) (ρ.i .i64 7) (ρ.i .i64 8) (ρ.i .i64 9) (ρ.i .i64 10) (ρ.i .i64 11) (ρ.i .i64 12) (ρ.i .i64 13) (ρ.i .i64 14) (ρ.i .i64 15)
    first
      | omega
      | (have e := name_inj (n := ρ.i .i64 4) (l := ρ.i .i64 5) (s := ρ.i .i64 6) (u := ρ.i .i64 7) (m := ρ.i .i64 8) (k := ρ.i .i64 9) (t := ρ.i .i64 10) (v := ρ.i .i64 11) (by omega) (by omega) (by omega) (by omega) (by omega) (by omega) (by omega) (by omega) (by assumption)
         omega)
      | (have e : ¬ ((ρ.i .i64 4) = (ρ.i .i64 8) ∧ (ρ.i .i64 5) = (ρ.i .i64 9) ∧ (ρ.i .i64 6) = (ρ.i .i64 10) ∧ (ρ.i .i64 7) = (ρ.i .i64 11)) := fun h => absurd (name_of h) (by assumption)
         omega)
theorem vcholds_98 : VD TTholds (st0 cHolds) wholds_98 := by
  intro ρ kn hp
  have hF : ρ.z.F = sih.Φ := kn.F
  simp only [h_nil, h_cons, d_le, d_eq, d_not, d_var, d_lit, d_cel, d_leq, d_fn, d_and, d_iff, IE.den, LE.den, AL.den, lenV, true_and, and_true, pcholds_33, pcholds_22, pcholds_16, pcholds_2, pcholds_1, pcholds_0, hF, pb2, pb6, pi1, pi3, pl1] at hp
  obtain ⟨p1, p2, p3, p4, p5, p6, p7, p8, p9, p10, p11, p12⟩ := hp
  exfalso
  all_goals
    simp only [clampO, tickN_iff, dot_eq] at *
    have z := ord_zero (ρ.i .i64 4) (ρ.i .i64 5) (ρ.i .i64 6) (ρ.i .i64 7) (ρ.i .i64 8) (ρ.i .i64 9) (ρ.i .i64 10) (ρ.i .i64 11)
    have t := ord_trans (ρ.i .i64 4) (ρ.i .i64 5) (ρ.i .i64 6) (ρ.i .i64 7) (ρ.i .i64 8) (ρ.i .i64 9) (ρ.i .i64 10) (ρ.i .i64 11) (ρ.i .i64 12) (ρ.i .i64 13) (ρ.i .i64 14) (ρ.i .i64 15)
    first
      | omega
      | (have e := name_inj (n := ρ.i .i64 4) (l := ρ.i .i64 5) (s := ρ.i .i64 6) (u := ρ.i .i64 7) (m := ρ.i .i64 8) (k := ρ.i .i64 9) (t := ρ.i .i64 10) (v := ρ.i .i64 11) (by omega) (by omega) (by omega) (by omega) (by omega) (by omega) (by omega) (by omega) (by assumption)
         omega)
      | (have e : ¬ ((ρ.i .i64 4) = (ρ.i .i64 8) ∧ (ρ.i .i64 5) = (ρ.i .i64 9) ∧ (ρ.i .i64 6) = (ρ.i .i64 10) ∧ (ρ.i .i64 7) = (ρ.i .i64 11)) := fun h => absurd (name_of h) (by assumption)
         omega)
theorem vcholds_99 : VD TTholds (st0 cHolds) wholds_99 := by
  intro ρ kn hp
  have hF : ρ.z.F = sih.Φ := kn.F
  simp only [h_nil, h_cons, d_le, d_eq, d_not, d_var, d_lit, d_cel, d_leq, d_fn, d_and, d_iff, IE.den, LE.den, AL.den, lenV, true_and, and_true, pcholds_22, pcholds_16, pcholds_2, pcholds_1, pcholds_0, hF, pb2, pb6, pi1, pi3, pl1] at hp
  obtain ⟨p1, p2, p3, p4, p5, p6, p7, p8, p9, p10, p11⟩ := hp
  exfalso
  all_goals
    simp only [clampO, tickN_iff, dot_eq] at *
    have z := ord_zero (ρ.i .i64 4) (ρ.i .i64 5) (ρ.i .i64 6) (ρ.i .i64 7) (ρ.i .i64 8) (ρ.i .i64 9) (ρ.i .i64 10) (ρ.i .i64 11)
    have t := ord_trans (ρ.i .i64 4) (ρ.i .i64 5) (ρ.i .i64 6) (ρ.i .i64 7) (ρ.i .i64 8) (ρ.i .i64 9) (ρ.i .i64 10) (ρ.i .i64 11) (ρ.i .i64 12) (ρ.i .i64 13) (ρ.i .i64 14) (ρ.i .i64 15)
    first
      | omega
      | (have e := name_inj (n := ρ.i .i64 4) (l := ρ.i .i64 5) (s := ρ.i .i64 6) (u := ρ.i .i64 7) (m := ρ.i .i64 8) (k := ρ.i .i64 9) (t := ρ.i .i64 10) (v := ρ.i .i64 11) (by omega) (by omega) (by omega) (by omega) (by omega) (by omega) (by omega) (by omega) (by assumption)
         omega)
      | (have e : ¬ ((ρ.i .i64 4) = (ρ.i .i64 8) ∧ (ρ.i .i64 5) = (ρ.i .i64 9) ∧ (ρ.i .i64 6) = (ρ.i .i64 10) ∧ (ρ.i .i64 7) = (ρ.i .i64 11)) := fun h => absurd (name_of h) (by assumption)
         omega)
theorem vcholds_100 : VD TTholds (st0 cHolds) wholds_100 := by
  intro ρ kn hp
  have hF : ρ.z.F = sih.Φ := kn.F
  simp only [h_nil, h_cons, d_le, d_eq, d_not, d_var, d_lit, d_cel, d_leq, d_fn, d_and, d_iff, IE.den, LE.den, AL.den, lenV, true_and, and_true, pcholds_71, pcholds_50, pcholds_34, pcholds_23, pcholds_16, pcholds_2, pcholds_1, pcholds_0, hF, pb2, pb6, pi1, pi3, pl1] at hp
  obtain ⟨p1, p2, p3, p4, p5, p6, p7, p8, p9, p10, p11, p12, p13, p14⟩ := hp
  exfalso
  all_goals
    simp only [clampO, tickN_iff, dot_eq] at *
    have z := ord_zero (ρ.i .i64 4) (ρ.i .i64 5) (ρ.i .i64 6) (ρ.i .i64 7) (ρ.i .i64 8) (ρ.i .i64 9) (ρ.i .i64 10) (ρ.i .i64 11)
    have t := ord_trans (ρ.i .i64 4) (ρ.i .i64 5) (ρ.i .i64 6) (ρ.i .i64 7) (ρ.i .i64 8) (ρ.i .i64 9) (ρ.i .i64 10) (ρ.i .i64 11) (ρ.i .i64 12) (ρ.i .i64 13) (ρ.i .i64 14) (ρ.i .i64 15)
    first
      | omega
      | (have e := name_inj (n := ρ.i .i64 4) (l := ρ.i .i64 5) (s := ρ.i .i64 6) (u := ρ.i .i64 7) (m := ρ.i .i64 8) (k := ρ.i .i64 9) (t := ρ.i .i64 10) (v := ρ.i .i64 11) (by omega) (by omega) (by omega) (by omega) (by omega) (by omega) (by omega) (by omega) (by assumption)
         omega)
      | (have e : ¬ ((ρ.i .i64 4) = (ρ.i .i64 8) ∧ (ρ.i .i64 5) = (ρ.i .i64 9) ∧ (ρ.i .i64 6) = (ρ.i .i64 10) ∧ (ρ.i .i64 7) = (ρ.i .i64 11)) := fun h => absurd (name_of h) (by assumption)
         omega)
theorem vcholds_101 : VD TTholds (st0 cHolds) wholds_101 := by
  intro ρ kn hp
  exact all_nil
theorem vcholds_102 : VD TTholds (st0 cHolds) wholds_102 := by
  intro ρ kn hp
  have hF : ρ.z.F = sih.Φ := kn.F
  simp only [h_nil, h_cons, d_le, d_eq, d_not, d_var, d_lit, d_cel, d_leq, d_fn, d_and, d_iff, IE.den, LE.den, AL.den, lenV, true_and, and_true, pcholds_137, pcholds_118, pcholds_97, pcholds_71, pcholds_50, pcholds_34, pcholds_23, pcholds_16, pcholds_2, pcholds_1, pcholds_0, hF, pb2, pb6, pi1, pi3, pl1] at hp
  obtain ⟨p1, p2, p3, p4, p5, p6, p7, p8, p9, p10, p11, p12, p13, p14, p15, p16, p17⟩ := hp
  exfalso
  all_goals
    simp only [clampO, tickN_iff, dot_eq] at *
    have z := ord_zero (ρ.i .i64 4) (ρ.i .i64 5) (ρ.i .i64 6) (ρ.i .i64 7) (ρ.i .i64 8) (ρ.i .i64 9) (ρ.i .i64 10) (ρ.i .i64 11)
    have t := ord_trans (ρ.i .i64 4) (ρ.i .i64 5) (ρ.i .i64 6) (ρ.i .i64 7) (ρ.i .i64 8) (ρ.i .i64 9) (ρ.i .i64 10) (ρ.i .i64 11) (ρ.i .i64 12) (ρ.i .i64 13) (ρ.i .i64 14) (ρ.i .i64 15)
    first
      | omega
      | (have e := name_inj (n := ρ.i .i64 4) (l := ρ.i .i64 5) (s := ρ.i .i64 6) (u := ρ.i .i64 7) (m := ρ.i .i64 8) (k := ρ.i .i64 9) (t := ρ.i .i64 10) (v := ρ.i .i64 11) (by omega) (by omega) (by omega) (by omega) (by omega) (by omega) (by omega) (by omega) (by assumption)
         omega)
      | (have e : ¬ ((ρ.i .i64 4) = (ρ.i .i64 8) ∧ (ρ.i .i64 5) = (ρ.i .i64 9) ∧ (ρ.i .i64 6) = (ρ.i .i64 10) ∧ (ρ.i .i64 7) = (ρ.i .i64 11)) := fun h => absurd (name_of h) (by assumption)
         omega)
theorem vcholds_103 : VD TTholds (st0 cHolds) wholds_103 := by
  intro ρ kn hp
  exact all_nil
theorem vcholds_104 : VD TTholds (st0 cHolds) wholds_104 := by
  intro ρ kn hp
  exact all_nil
theorem vcholds_105 : VD TTholds (st0 cHolds) wholds_105 := by
  intro ρ kn hp
  have hF : ρ.z.F = sih.Φ := kn.F
  simp only [h_nil, h_cons, d_le, d_eq, d_not, d_var, d_lit, d_cel, d_leq, d_fn, d_and, d_iff, IE.den, LE.den, AL.den, lenV, true_and, and_true, pcholds_138, pcholds_119, pcholds_97, pcholds_71, pcholds_50, pcholds_34, pcholds_23, pcholds_16, pcholds_2, pcholds_1, pcholds_0, hF, pb2, pb6, pi1, pi3, pl1] at hp
  obtain ⟨p1, p2, p3, p4, p5, p6, p7, p8, p9, p10, p11, p12, p13, p14, p15, p16, p17⟩ := hp
  exfalso
  all_goals
    simp only [clampO, tickN_iff, dot_eq] at *
    have z := ord_zero (ρ.i .i64 4) (ρ.i .i64 5) (ρ.i .i64 6) (ρ.i .i64 7) (ρ.i .i64 8) (ρ.i .i64 9) (ρ.i .i64 10) (ρ.i .i64 11)
    have t := ord_trans (ρ.i .i64 4) (ρ.i .i64 5) (ρ.i .i64 6) (ρ.i .i64 7) (ρ.i .i64 8) (ρ.i .i64 9) (ρ.i .i64 10) (ρ.i .i64 11) (ρ.i .i64 12) (ρ.i .i64 13) (ρ.i .i64 14) (ρ.i .i64 15)
    first
      | omega
      | (have e := name_inj (n := ρ.i .i64 4) (l := ρ.i .i64 5) (s := ρ.i .i64 6) (u := ρ.i .i64 7) (m := ρ.i .i64 8) (k := ρ.i .i64 9) (t := ρ.i .i64 10) (v := ρ.i .i64 11) (by omega) (by omega) (by omega) (by omega) (by omega) (by omega) (by omega) (by omega) (by assumption)
         omega)
      | (have e : ¬ ((ρ.i .i64 4) = (ρ.i .i64 8) ∧ (ρ.i .i64 5) = (ρ.i .i64 9) ∧ (ρ.i .i64 6) = (ρ.i .i64 10) ∧ (ρ.i .i64 7) = (ρ.i .i64 11)) := fun h => absurd (name_of h) (by assumption)
         omega)
theorem vcholds_106 : VD TTholds (st0 cHolds) wholds_106 := by
  intro ρ kn hp
  exact all_nil
theorem vcholds_107 : VD TTholds (st0 cHolds) wholds_107 := by
  intro ρ kn hp
  exact all_nil
theorem vcholds_108 : VD TTholds (st0 cHolds) wholds_108 := by
  intro ρ kn hp
  have hF : ρ.z.F = sih.Φ := kn.F
  simp only [h_nil, h_cons, d_le, d_eq, d_not, d_var, d_lit, d_cel, d_leq, d_fn, d_and, d_iff, IE.den, LE.den, AL.den, lenV, true_and, and_true, pcholds_120, pcholds_98, pcholds_72, pcholds_50, pcholds_34, pcholds_23, pcholds_16, pcholds_2, pcholds_1, pcholds_0, hF, pb2, pb6, pi1, pi3, pl1] at hp
  obtain ⟨p1, p2, p3, p4, p5, p6, p7, p8, p9, p10, p11, p12, p13, p14, p15, p16⟩ := hp
  exfalso
  all_goals
    simp only [clampO, tickN_iff, dot_eq] at *
    have z := ord_zero (ρ.i .i64 4) (ρ.i .i64 5) (ρ.i .i64 6) (ρ.i .i64 7) (ρ.i .i64 8) (ρ.i .i64 9) (ρ.i .i64 10) (ρ.i .i64 11)
    have t := ord_trans (ρ.i .i64 4) (ρ.i .i64 5) (ρ.i .i64 6) (ρ.i .i64 7) (ρ.i .i64 8) (ρ.i .i64 9) (ρ.i .i64 10) (ρ.i .i64 11) (ρ.i .i64 12) (ρ.i .i64 13) (ρ.i .i64 14) (ρ.i .i64 15)
    first
      | omega
      | (have e := name_inj (n := ρ.i .i64 4) (l := ρ.i .i64 5) (s := ρ.i .i64 6) (u := ρ.i .i64 7) (m := ρ.i .i64 8) (k := ρ.i .i64 9) (t := ρ.i .i64 10) (v := ρ.i .i64 11) (by omega) (by omega) (by omega) (by omega) (by omega) (by omega) (by omega) (by omega) (by assumption)
         omega)
      | (have e : ¬ ((ρ.i .i64 4) = (ρ.i .i64 8) ∧ (ρ.i .i64 5) = (ρ.i .i64 9) ∧ (ρ.i .i64 6) = (ρ.i .i64 10) ∧ (ρ.i .i64 7) = (ρ.i .i64 11)) := fun h => absurd (name_of h) (by assumption)
         omega)
theorem vcholds_109 : VD TTholds (st0 cHolds) wholds_109 := by
  intro ρ kn hp
  exact all_nil
theorem vcholds_110 : VD TTholds (st0 cHolds) wholds_110 := by
  intro ρ kn hp
  exact all_nil
theorem vcholds_111 : VD TTholds (st0 cHolds) wholds_111 := by
  intro ρ kn hp
  have hF : ρ.z.F = sih.Φ := kn.F
  simp only [h_nil, h_cons, d_le, d_eq, d_not, d_var, d_lit, d_cel, d_leq, d_fn, d_and, d_iff, IE.den, LE.den, AL.den, lenV, true_and, and_true, pcholds_121, pcholds_99, pcholds_72, pcholds_50, pcholds_34, pcholds_23, pcholds_16, pcholds_2, pcholds_1, pcholds_0, hF, pb2, pb6, pi1, pi3, pl1] at hp
  obtain ⟨p1, p2, p3, p4, p5, p6, p7, p8, p9, p10, p11, p12, p13, p14, p15, p16⟩ := hp
  exfalso
  all_goals
    simp only [clampO, tickN_iff, dot_eq] at *
    have z := ord_zero (ρ.i .i64 4) (ρ.i .i64 5) (ρ.i .i64 6) (ρ.i .i64 7) (ρ.i .i64 8) (ρ.i .i64 9) (ρ.i .i64 10) (ρ.i .i64 11)
    have t := ord_trans (ρ.i .i64 4) (ρ.i .i64 5) (ρ.i .i64 6) (ρ.i .i64 7) (ρ.i .i64 8) (ρ.i .i64 9) (ρ.i .i64 10) (ρ.i .i64 11) (ρ.i .i64 12) (ρ.i .i64 13) (ρ.i .i64 14) (ρ.i .i64 15)
    first
      | omega
      | (have e := name_inj (n := ρ.i .i64 4) (l := ρ.i .i64 5) (s := ρ.i .i64 6) (u := ρ.i .i64 7) (m := ρ.i .i64 8) (k := ρ.i .i64 9) (t := ρ.i .i64 10) (v := ρ.i .i64 11) (by omega) (by omega) (by omega) (by omega) (by omega) (by omega) (by omega) (by omega) (by assumption)
         omega)
      | (have e : ¬ ((ρ.i .i64 4) = (ρ.i .i64 8) ∧ (ρ.i .i64 5) = (ρ.i .i64 9) ∧ (ρ.i .i64 6) = (ρ.i .i64 10) ∧ (ρ.i .i64 7) = (ρ.i .i64 11)) := fun h => absurd (name_of h) (by assumption)
         omega)
theorem vcholds_112 : VD TTholds (st0 cHolds) wholds_112 := by
  intro ρ kn hp
  exact all_nil
theorem vcholds_113 : VD TTholds (st0 cHolds) wholds_113 := by
  intro ρ kn hp
  exact all_nil
theorem vcholds_114 : VD TTholds (st0 cHolds) wholds_114 := by
  intro ρ kn hp
  have hF : ρ.z.F = sih.Φ := kn.F
  simp only [h_nil, h_cons, d_le, d_eq, d_not, d_var, d_lit, d_cel, d_leq, d_fn, d_and, d_iff, IE.den, LE.den, AL.den, lenV, true_and, and_true, pcholds_100, pcholds_73, pcholds_51, pcholds_34, pcholds_23, pcholds_16, pcholds_2, pcholds_1, pcholds_0, hF, pb2, pb6, pi1, pi3, pl1] at hp
  obtain ⟨p1, p2, p3, p4, p5, p6, p7, p8, p9, p10, p11, p12, p13, p14, p15⟩ := hp
  exfalso
  all_goals
    simp only [clampO, tickN_iff, dot_eq] at *
    have z := ord_zero (ρ.i .i64 4) (ρ.i .i64 5) (ρ.i .i64 6) (ρ.i .i64 7) (ρ.i .i64 8) (ρ.i .i64 9) (ρ.i .i64 10) (ρ.i .i64 11)
    have t := ord_trans (ρ.i .i64 4) (ρ.i .i64 5) (ρ.i .i64 6) (ρ.i .i64 7) (ρ.i .i64 8) (ρ.i .i64 9) (ρ.i .i64 10) (ρ.i .i64 11) (ρ.i .i64 12) (ρ.i .i64 13) (ρ.i .i64 14) (ρ.i .i64 15)
    first
      | omega
      | (have e := name_inj (n := ρ.i .i64 4) (l := ρ.i .i64 5) (s := ρ.i .i64 6) (u := ρ.i .i64 7) (m := ρ.i .i64 8) (k := ρ.i .i64 9) (t := ρ.i .i64 10) (v := ρ.i .i64 11) (by omega) (by omega) (by omega) (by omega) (by omega) (by omega) (by omega) (by omega) (by assumption)
         omega)
      | (have e : ¬ ((ρ.i .i64 4) = (ρ.i .i64 8) ∧ (ρ.i .i64 5) = (ρ.i .i64 9) ∧ (ρ.i .i64 6) = (ρ.i .i64 10) ∧ (ρ.i .i64 7) = (ρ.i .i64 11)) := fun h => absurd (name_of h) (by assumption)
         omega)
theorem vcholds_115 : VD TTholds (st0 cHolds) wholds_115 := by
  intro ρ kn hp
  exact all_nil
theorem vcholds_116 : VD TTholds (st0 cHolds) wholds_116 := by
  intro ρ kn hp
  exact all_nil
theorem vcholds_117 : VD TTholds (st0 cHolds) wholds_117 := by
  intro ρ kn hp
  have hF : ρ.z.F = sih.Φ := kn.F
  simp only [h_nil, h_cons, d_le, d_eq, d_not, d_var, d_lit, d_cel, d_leq, d_fn, d_and, d_iff, IE.den, LE.den, AL.den, lenV, true_and, and_true, pcholds_101, pcholds_74, pcholds_51, pcholds_34, pcholds_23, pcholds_16, pcholds_2, pcholds_1, pcholds_0, hF, pb2, pb6, pi1, pi3, pl1] at hp
  obtain ⟨p1, p2, p3, p4, p5, p6, p7, p8, p9, p10, p11, p12, p13, p14, p15⟩ := hp
  exfalso
  all_goals
    simp only [clampO, tickN_iff, dot_eq] at *
    have z := ord_zero (ρ.i .i64 4) (ρ.i .i64 5) (ρ.i .i64 6) (ρ.i .i64 7) (ρ.i .i64 8) (ρ.i .i64 9) (ρ.i .i64 10) (ρ.i .i64 11)
    have t := ord_trans (ρ.i .i64 4) (ρ.i .i64 5) (ρ.i .i64 6) (ρ.i .i64 7) (ρ.i .i64 8) (ρ.i .i64 9) (ρ.i .i64 10) (ρ.i .i64 11) (ρ.i .i64 12) (ρ.i .i64 13) (ρ.i .i64 14) (ρ.i .i64 15)
    first
      | omega
      | (have e := name_inj (n := ρ.i .i64 4) (l := ρ.i .i64 5) (s := ρ.i .i64 6) (u := ρ.i .i64 7) (m := ρ.i .i64 8) (k := ρ.i .i64 9) (t := ρ.i .i64 10) (v := ρ.i .i64 11) (by omega) (by omega) (by omega) (by omega) (by omega) (by omega) (by omega) (by omega) (by assumption)
         omega)
      | (have e : ¬ ((ρ.i .i64 4) = (ρ.i .i64 8) ∧ (ρ.i .i64 5) = (ρ.i .i64 9) ∧ (ρ.i .i64 6) = (ρ.i .i64 10) ∧ (ρ.i .i64 7) = (ρ.i .i64 11)) := fun h => absurd (name_of h) (by assumption)
         omega)
theorem vcholds_118 : VD TTholds (st0 cHolds) wholds_118 := by
  intro ρ kn hp
  exact all_nil
theorem vcholds_119 : VD TTholds (st0 cHolds) wholds_119 := by
  intro ρ kn hp
  exact all_nil
theorem vcholds_120 : VD TTholds (st0 cHolds) wholds_120 := by
  intro ρ kn hp
  have hF : ρ.z.F = sih.Φ := kn.F
  simp only [h_nil, h_cons, d_le, d_eq, d_not, d_var, d_lit, d_cel, d_leq, d_fn, d_and, d_iff, IE.den, LE.den, AL.den, lenV, true_and, and_true, pcholds_75, pcholds_52, pcholds_35, pcholds_23, pcholds_16, pcholds_2, pcholds_1, pcholds_0, hF, pb2, pb6, pi1, pi3, pl1] at hp
  obtain ⟨p1, p2, p3, p4, p5, p6, p7, p8, p9, p10, p11, p12, p13, p14⟩ := hp
  exfalso
  all_goals
    simp only [clampO, tickN_iff, dot_eq] at *
    have z := ord_zero (ρ.i .i64 4) (ρ.i .i64 5) (ρ.i .i64 6) (ρ.i .i64 7) (ρ.i .i64 8) (ρ.i .i64 9) (ρ.i .i64 10) (ρ.i .i64 11)
    have t := ord_trans (ρ.i .i64 4) (ρ.i .i64 5) (ρ.i .i64 6) (ρ.i .i64 7) (ρ.i .i64 8) (ρ.i .i64 9) (ρ.i .i64 10) (ρ.i .i64 11) (ρ.i .i64 12) (ρ.i .i64 13) (ρ.i .i64 14) (ρ.i .i64 15)
    first
      | omega
      | (have e := name_inj (n := ρ.i .i64 4) (l := ρ.i .i64 5) (s := ρ.i .i64 6) (u := ρ.i .i64 7) (m := ρ.i .i64 8) (k := ρ.i .i64 9) (t := ρ.i .i64 10) (v := ρ.i .i64 11) (by omega) (by omega) (by omega) (by omega) (by omega) (by omega) (by omega) (by omega) (by assumption)
         omega)
      | (have e : ¬ ((ρ.i .i64 4) = (ρ.i .i64 8) ∧ (ρ.i .i64 5) = (ρ.i .i64 9) ∧ (ρ.i .i64 6) = (ρ.i .i64 10) ∧ (ρ.i .i64 7) = (ρ.i .i64 11)) := fun h => absurd (name_of h) (by assumption)
         omega)
theorem vcholds_121 : VD TTholds (st0 cHolds) wholds_121 := by
  intro ρ kn hp
  exact all_nil
theorem vcholds_122 : VD TTholds (st0 cHolds) wholds_122 := by
  intro ρ kn hp
  exact all_nil
theorem vcholds_123 : VD TTholds (st0 cHolds) wholds_123 := by
  intro ρ kn hp
  have hF : ρ.z.F = sih.Φ := kn.F
  simp only [h_nil, h_cons, d_le, d_eq, d_not, d_var, d_lit, d_cel, d_leq, d_fn, d_and, d_iff, IE.den, LE.den, AL.den, lenV, true_and, and_true, pcholds_76, pcholds_53, pcholds_35, pcholds_23, pcholds_16, pcholds_2, pcholds_1, pcholds_0, hF, pb2, pb6, pi1, pi3, pl1] at hp
  obtain ⟨p1, p2, p3, p4, p5, p6, p7, p8, p9, p10, p11, p12, p13, p14⟩ := hp
  exfalso
  all_goals
    simp only [clampO, tickN_iff, dot_eq] at *
    have z := ord_zero (ρ.i .i64 4) (ρ.i .i64 5) (ρ.i .i64 6) (ρ.i .i64 7) (ρ.i .i64 8) (ρ.i .i64 9) (ρ.i .i64 10) (ρ.i .i64 11)
    have t := ord_trans (ρ.i .i64 4) (ρ.i .i64 5) (ρ.i .i64 6) (ρ.i .i64 7) (ρ.i .i64 8) (ρ.i .i64 9) (ρ.i .i64 10) (ρ.i .i64 11) (ρ.i .i64 12) (ρ.i .i64 13) (ρ.i .i64 14) (ρ.i .i64 15)
    first
      | omega
      | (have e := name_inj (n := ρ.i .i64 4) (l := ρ.i .i64 5) (s := ρ.i .i64 6) (u := ρ.i .i64 7) (m := ρ.i .i64 8) (k := ρ.i .i64 9) (t := ρ.i .i64 10) (v := ρ.i .i64 11) (by omega) (by omega) (by omega) (by omega) (by omega) (by omega) (by omega) (by omega) (by assumption)
         omega)
      | (have e : ¬ ((ρ.i .i64 4) = (ρ.i .i64 8) ∧ (ρ.i .i64 5) = (ρ.i .i64 9) ∧ (ρ.i .i64 6) = (ρ.i .i64 10) ∧ (ρ.i .i64 7) = (ρ.i .i64 11)) := fun h => absurd (name_of h) (by assumption)
         omega)
theorem vcholds_124 : VD TTholds (st0 cHolds) wholds_124 := by
  intro ρ kn hp
  exact all_nil
theorem vcholds_125 : VD TTholds (st0 cHolds) wholds_125 := by
  intro ρ kn hp
  exact all_nil
theorem vcholds_126 : VD TTholds (st0 cHolds) wholds_126 := by
  intro ρ kn hp
  have hF : ρ.z.F = sih.Φ := kn.F
  simp only [h_nil, h_cons, d_le, d_eq, d_not, d_var, d_lit, d_cel, d_leq, d_fn, d_and, d_iff, IE.den, LE.den, AL.den, lenV, true_and, and_true, pcholds_36, pcholds_24, pcholds_17, pcholds_12, pcholds_9, pcholds_0, hF, pb2, pb6, pi1, pi3, pl1] at hp
  obtain ⟨p1, p2, p3, p4, p5, p6, p7, p8, p9, p10, p11, p12⟩ := hp
  exfalso
  all_goals
    simp only [clampO, tickN_iff, dot_eq] at *
    have z := ord_zero (ρ.i .i64 4) (ρ.i .i64 5) (ρ.i .i64 6) (ρ.i .i64 7) (ρ.i .i64 8) (ρ.i .i64 9) (ρ.i .i64 10) (ρ.i .i64 11)
    have t := ord_trans (ρ.i .i64 4) (ρ.i .i64 5) (ρ.i .i64 6) (ρ.i .i64 7) (ρ.i .i64 8) (ρ.i .i64 9) (ρ.i .i64 10) (ρ.i .i64 11) (ρ.i .i64 12) (ρ.i .i64 13) (ρ.i .i64 14) (ρ.i .i64 15)
    first
      | omega
      | (have e := name_inj (n := ρ.i .i64 4) (l := ρ.i .i64 5) (s := ρ.i .i64 6) (u := ρ.i .i64 7) (m := ρ.i .i64 8) (k := ρ.i .i64 9) (t := ρ.i .i64 10) (v := ρ.i .i64 11) (by omega) (by omega) (by omega) (by omega) (by omega) (by omega) (by omega) (by omega) (by assumption)
         omega)
      | (have e : ¬ ((ρ.i .i64 4) = (ρ.i .i64 8) ∧ (ρ.i .i64 5) = (ρ.i .i64 9) ∧ (ρ.i .i64 6) = (ρ.i .i64 10) ∧ (ρ.i .i64 7) = (ρ.i .i64 11)) := fun h => absurd (name_of h) (by assumption)
         omega)
theorem vcholds_127 : VD TTholds (st0 cHolds) wholds_127 := by
  intro ρ kn hp
  have hF : ρ.z.F = sih.Φ := kn.F
  simp only [h_nil, h_cons, d_le, d_eq, d_not, d_var, d_lit, d_cel, d_leq, d_fn, d_and, d_iff, IE.den, LE.den, AL.den, lenV, true_and, and_true, pcholds_24, pcholds_17, pcholds_12, pcholds_9, pcholds_0, hF, pb2, pb6, pi1, pi3, pl1] at hp
  obtain ⟨p1, p2, p3, p4, p5, p6, p7, p8, p9, p10, p11⟩ := hp
  exfalso
  all_goals
    simp only [clampO, tickN_iff, dot_eq] at *
    have z := ord_zero (ρ.i .i64 4) (ρ.i .i64 5) (ρ.i .i64 6) (ρ.i .i64 7) (ρ.i .i64 8) (ρ.i .i64 9) (ρ.i .i64 10) (ρ.i .i64 11)
    have t := ord_trans (ρ.i .i64 4) (ρ.i .i64 5) (ρ.i .i64 6) (ρ.i .i64 7) (ρ.i .i64 8) (ρ.i .i64 9) (ρ.i .i64 10) (ρ.i .i64 11) (ρ.i .i64 12) (ρ.i .i64 13) (ρ.i .i64 14) (ρ.i .i64 15)
    first
      | omega
      | (have e := name_inj (n := ρ.i .i64 4) (l := ρ.i .i64 5) (s := ρ.i .i64 6) (u := ρ.i .i64 7) (m := ρ.i .i64 8) (k := ρ.i .i64 9) (t := ρ.i .i64 10) (v := ρ.i .i64 11) (by omega) (by omega) (by omega) (by omega) (by omega) (by omega) (by omega) (by omega) (by assumption)
         omega)
      | (have e : ¬ ((ρ.i .i64 4) = (ρ.i .i64 8) ∧ (ρ.i .i64 5) = (ρ.i .i64 9) ∧ (ρ.i .i64 6) = (ρ.i .i64 10) ∧ (ρ.i .i64 7) = (ρ.i .i64 11)) := fun h => absurd (name_of h) (by assumption)
         omega)
theorem vcholds_128 : VD TTholds (st0 cHolds) wholds_128 := by
  intro ρ kn hp
  have hF : ρ.z.F = sih.Φ := kn.F
  simp only [h_nil, h_cons, d_le, d_eq, d_not, d_var, d_lit, d_cel, d_leq, d_fn, d_and, d_iff, IE.den, LE.den, AL.den, lenV, true_and, and_true, pcholds_17, pcholds_12, pcholds_9, pcholds_0, hF, pb2, pb6, pi1, pi3, pl1] at hp
  obtain ⟨p1, p2, p3, p4, p5, p6, p7, p8, p9, p10⟩ := hp
  exfalso
  all_goals
    simp only [clampO, tickN_iff, dot_eq] at *
    have z := ord_zero (ρ.i .i64 4) (ρ.i .i64 5) (ρ.i .i64 6) (ρ.i .i64 7) (ρ.i .i64 8) (ρ.i .i64 9) (ρ.i .i64 10) (ρ.i .i64 11)
    have t := ord_trans (ρ.i .i64 4) (ρ.i .i64 5) (ρ.i .i64 6) (ρ.i .i64 7) (ρ.i .i64 8) (ρ.i .i64 9) (ρ.i .i64 10) (ρ.i .i64 11) (ρ.i .i64 12) (ρ.i .i64 13) (ρ.i .i64 14) (ρ.i .i64 15)
    first
      | omega
      | (have e := name_inj (n := ρ.i .i64 4) (l := ρ.i .i64 5) (s := ρ.i .i64 6) (u := ρ.i .i64 7) (m := ρ.i .i64 8) (k := ρ.i .i64 9) (t := ρ.i .i64 10) (v := ρ.i .i64 11) (by omega) (by omega) (by omega) (by omega) (by omega) (by omega) (by omega) (by omega) (by assumption)
         omega)
      | (have e : ¬ ((ρ.i .i64 4) = (ρ.i .i64 8) ∧ (ρ.i .i64 5) = (ρ.i .i64 9) ∧ (ρ.i .i64 6) = (ρ.i .i64 10) ∧ (ρ.i .i64 7) = (ρ.i .i64 11)) := fun h => absurd (name_of h) (by assumption)
         omega)
theorem vcholds_129 : VD TTholds (st0 cHolds) wholds_129 := by
  intro ρ kn hp
  have hF : ρ.z.F = sih.Φ := kn.F
  simp only [h_nil, h_cons, d_le, d_eq, d_not, d_var, d_lit, d_cel, d_leq, d_fn, d_and, d_iff, IE.den, LE.den, AL.den, lenV, true_and, and_true, pcholds_12, pcholds_9, pcholds_0, hF, pb2, pb6, pi1, pi3, pl1] at hp
  obtain ⟨p1, p2, p3, p4, p5, p6, p7, p8, p9⟩ := hp
  exfalso
  all_goals
    simp only [clampO, tickN_iff, dot_eq] at *
    have z := ord_zero (ρ.i .i64 4) (ρ.i .i64 5) (ρ.i .i64 6) (ρ.i .i64 7) (ρ.i .i64 8) (ρ.i .i64 9) (ρ.i .i64 10) (ρ.i .i64 11)
    have t := ord_trans (ρ.i .i64 4) (ρ.i .i64 5) (ρ.i .i64 6) (ρ.i .i64 7) (ρ.i .i64 8) (ρ.i .i64 9) (ρ.i .i64 10) (ρ.i .i64 11) (ρ.i .i64 12) (ρ.i .i64 13) (ρ.i .i64 14) (ρ.i .i64 15)
    first
      | omega
      | (have e := name_inj (n := ρ.i .i64 4) (l := ρ.i .i64 5) (s := ρ.i .i64 6) (u := ρ.i .i64 7) (m := ρ.i .i64 8) (k := ρ.i .i64 9) (t := ρ.i .i64 10) (v := ρ.i .i64 11) (by omega) (by omega) (by omega) (by omega) (by omega) (by omega) (by omega) (by omega) (by assumption)
         omega)
      | (have e : ¬ ((ρ.i .i64 4) = (ρ.i .i64 8) ∧ (ρ.i .i64 5) = (ρ.i .i64 9) ∧ (ρ.i .i64 6) = (ρ.i .i64 10) ∧ (ρ.i .i64 7) = (ρ.i .i64 11)) := fun h => absurd (name_of h) (by assumption)
         omega)
theorem vcholds_130 : VD TTholds (st0 cHolds) wholds_130 := by
  intro ρ kn hp
  have hF : ρ.z.F = sih.Φ := kn.F
  simp only [h_nil, h_cons, d_le, d_eq, d_not, d_var, d_lit, d_cel, d_leq, d_fn, d_and, d_iff, IE.den, LE.den, AL.den, lenV, true_and, and_true, pcholds_37, pcholds_25, pcholds_18, pcholds_13, pcholds_9, pcholds_0, hF, pb2, pb6, pi1, pi3, pl1] at hp
  obtain ⟨p1, p2, p3, p4, p5, p6, p7, p8, p9, p10, p11, p12⟩ := hp
  exfalso
  all_goals
    simp only [clampO, tickN_iff, dot_eq] at *
    have z := ord_zero (ρ.i .i64 4) (ρ.i .i64 5) (ρ.i .i64 6) (ρ.i .i64 7) (ρ.i .i64 8) (ρ.i .i64 9) (ρ.i .i64 10) (ρ.i .i64 11)
    have t := ord_trans (ρ.i .i64 4) (ρ.i .i64 5) (ρ.i .i64 6) (ρ.i .i64 7) (ρ.i .i64 8) (ρ.i .i64 9) (ρ.i .i64 10) (ρ.i .i64 11) (ρ.i .i64 12) (ρ.i .i64 13) (ρ.i .i64 14) (ρ.i .i64 15)
    first
      | omega
      | (have e := name_inj (n := ρ.i .i64 4) (l := ρ.i .i64 5) (s := ρ.i .i64 6) (u := ρ.i .i64 7) (m := ρ.i .i64 8) (k := ρ.i .i64 9) (t := ρ.i .i64 10) (v := ρ.i .i64 11) (by omega) (by omega) (by omega) (by omega) (by omega) (by omega) (by omega) (by omega) (by assumption)
         omega)
      | (have e : ¬ ((ρ.i .i64 4) = (ρ.i .i64 8) ∧ (ρ.i .i64 5) = (ρ.i .i64 9) ∧ (ρ.i .i64 6) = (ρ.i .i64 10) ∧ (ρ.i .i64 7) = (ρ.i .i64 11)) := fun h => absurd (name_of h) (by assumption)
         omega)
theorem vcholds_131 : VD TTholds (st0 cHolds) wholds_131 := by
  intro ρ kn hp
  exact all_nil
theorem vcholds_132 : VD TTholds (st0 cHolds) wholds_132 := by
  intro ρ kn hp
  have hF : ρ.z.F = sih.Φ := kn.F
  simp only [h_nil, h_cons, d_le, d_eq, d_not, d_var, d_lit, d_cel, d_leq, d_fn, d_and, d_iff, IE.den, LE.den, AL.den, lenV, true_and, and_true, pcholds_102, pcholds_77, pcholds_54, pcholds_37, pcholds_25, pcholds_18, pcholds_13, pcholds_9, pcholds_0, hF, pb2, pb6, pi1, pi3, pl1] at hp
  obtain ⟨p1, p2, p3, p4, p5, p6, p7, p8, p9, p10, p11, p12, p13, p14, p15⟩ := hp
  exfalso
  all_goals
    simp only [clampO, tickN_iff, dot_eq] at *
    have z := ord_zero (ρ.i .i64 4) (ρ.i .i64 5) (ρ.i .i64 6) (ρ.i .i64 7) (ρ.i .i64 8) (ρ.i .i64 9) (ρ.i .i64 10) (ρ.i .i64 11)
    have t := ord_trans (ρ.i .i64 4) (ρ.i .i64 5) (ρ.i .i64 6) (ρ.i .i64 7) (ρ.i .i64 8) (ρ.i .i64 9) (ρ.i .i64 10) (ρ.i .i64 11) (ρ.i .i64 12) (ρ.i .i64 13) (ρ.i .i64 14) (ρ.i .i64 15)
    first
      | omega
      | (have e := name_inj (n := ρ.i .i64 4) (l := ρ.i .i64 5) (s := ρ.i .i64 6) (u := ρ.i .i64 7) (m := ρ.i .i64 8) (k := ρ.i .i64 9) (t := ρ.i .i64 10) (v := ρ.i .i64 11) (by omega) (by omega) (by omega) (by omega) (by omega) (by omega) (by omega) (by omega) (by assumption)
         omega)
      | (have e : ¬ ((ρ.i .i64 4) = (ρ.i .i64 8) ∧ (ρ.i .i64 5) = (ρ.i .i64 9) ∧ (ρ.i .i64 6) = (ρ.i .i64 10) ∧ (ρ.i .i64 7) = (ρ.i .i64 11)) := fun h => absurd (name_of h) (by assumption)
         omega)
theorem vcholds_133 : VD TTholds (st0 cHolds) wholds_133 := by
  intro ρ kn hp
  exact all_nil
theorem vcholds_134 : VD TTholds (st0 cHolds) wholds_134 := by
  intro ρ kn hp
  exact all_nil
theorem vcholds_135 : VD TTholds (st0 cHolds) wholds_135 := by
  intro ρ kn hp
  have hF : ρ.z.F = sih.Φ := kn.F
  simp only [h_nil, h_cons, d_le, d_eq, d_not, d_var, d_lit, d_cel, d_leq, d_fn, d_and, d_iff, IE.den, LE.den, AL.den, lenV, true_and, and_true, pcholds_103, pcholds_78, pcholds_54, pcholds_37, pcholds_25, pcholds_18, pcholds_13, pcholds_9, pcholds_0, hF, pb2, pb6, pi1, pi3, pl1] at hp
  obtain ⟨p1, p2, p3, p4, p5, p6, p7, p8, p9, p10, p11, p12, p13, p14, p15⟩ := hp
  exfalso
  all_goals
    simp only [clampO, tickN_iff, dot_eq] at *
    have z := ord_zero (ρ.i .i64 4) (ρ.i .i64 5) (ρ.i .i64 6) (ρ.i .i64 7) (ρ.i .i64 8) (ρ.i .i64 9) (ρ.i .i64 10) (ρ.i .i64 11)
    have t := ord_trans (ρ.i .i64 4) (ρ.i .i64 5) (ρ.i .i64 6) (ρ.i .i64 7) (ρ.i .i64 8) (ρ.i .i64 9) (ρ.i .i64 10) (ρ.i .i64 11) (ρ.i .i64 12) (ρ.i .i64 13) (ρ.i .i64 14) (ρ.i .i64 15)
    first
      | omega
      | (have e := name_inj (n := ρ.i .i64 4) (l := ρ.i .i64 5) (s := ρ.i .i64 6) (u := ρ.i .i64 7) (m := ρ.i .i64 8) (k := ρ.i .i64 9) (t := ρ.i .i64 10) (v := ρ.i .i64 11) (by omega) (by omega) (by omega) (by omega) (by omega) (by omega) (by omega) (by omega) (by assumption)
         omega)
      | (have e : ¬ ((ρ.i .i64 4) = (ρ.i .i64 8) ∧ (ρ.i .i64 5) = (ρ.i .i64 9) ∧ (ρ.i .i64 6) = (ρ.i .i64 10) ∧ (ρ.i .i64 7) = (ρ.i .i64 11)) := fun h => absurd (name_of h) (by assumption)
         omega)
theorem vcholds_136 : VD TTholds (st0 cHolds) wholds_136 := by
  intro ρ kn hp
  exact all_nil
theorem vcholds_137 : VD TTholds (st0 cHolds) wholds_137 := by
  intro ρ kn hp
  exact all_nil
theorem vcholds_138 : VD TTholds (st0 cHolds) wholds_138 := by
  intro ρ kn hp
  have hF : ρ.z.F = sih.Φ := kn.F
  simp only [h_nil, h_cons, d_le, d_eq, d_not, d_var, d_lit, d_cel, d_leq, d_fn, d_and, d_iff, IE.den, LE.den, AL.den, lenV, true_and, and_true, pcholds_79, pcholds_55, pcholds_38, pcholds_25, pcholds_18, pcholds_13, pcholds_9, pcholds_0, hF, pb2, pb6, pi1, pi3, pl1] at hp
  obtain ⟨p1, p2, p3, p4, p5, p6, p7, p8, p9, p10, p11, p12, p13, p14⟩ := hp
  exfalso
  all_goals
    simp only [clampO, tickN_iff, dot_eq] at *
    have z := ord_zero (ρ.i .i64 4) (ρ.i .i64 5) (ρ.i .i64 6) (ρ.i .i64 7) (ρ.i .i64 8) (ρ.i .i64 9) (ρ.i .i64 10) (ρ.i .i64 11)
    have t := ord_trans (ρ.i .i64 4) (ρ.i .i64 5) (ρ.i .i64 6) (ρ.i .i64 7) (ρ.i .i64 8) (ρ.i .i64 9) (ρ.i .i64 10) (ρ.i .i64 11) (ρ.i .i64 12) (ρ.i .i64 13) (ρ.i .i64 14) (ρ.i .i64 15)
    first
      | omega
      | (have e := name_inj (n := ρ.i .i64 4) (l := ρ.i .i64 5) (s := ρ.i .i64 6) (u := ρ.i .i64 7) (m := ρ.i .i64 8) (k := ρ.i .i64 9) (t := ρ.i .i64 10) (v := ρ.i .i64 11) (by omega) (by omega) (by omega) (by omega) (by omega) (by omega) (by omega) (by omega) (by assumption)
         omega)
      | (have e : ¬ ((ρ.i .i64 4) = (ρ.i .i64 8) ∧ (ρ.i .i64 5) = (ρ.i .i64 9) ∧ (ρ.i .i64 6) = (ρ.i .i64 10) ∧ (ρ.i .i64 7) = (ρ.i .i64 11)) := fun h => absurd (name_of h) (by assumption)
         omega)
theorem vcholds_139 : VD TTholds (st0 cHolds) wholds_139 := by
  intro ρ kn hp
  exact all_nil
theorem vcholds_140 : VD TTholds (st0 cHolds) wholds_140 := by
  intro ρ kn hp
  exact all_nil
theorem vcholds_141 : VD TTholds (st0 cHolds) wholds_141 := by
  intro ρ kn hp
  have hF : ρ.z.F = sih.Φ := kn.F
  simp only [h_nil, h_cons, d_le, d_eq, d_not, d_var, d_lit, d_cel, d_leq, d_fn, d_and, d_iff, IE.den, LE.den, AL.den, lenV, true_and, and_true, pcholds_80, pcholds_56, pcholds_38, pcholds_25, pcholds_18, pcholds_13, pcholds_9, pcholds_0, hF, pb2, pb6, pi1, pi3, pl1] at hp
  obtain ⟨p1, p2, p3, p4, p5, p6, p7, p8, p9, p10, p11, p12, p13, p14⟩ := hp
  exfalso
  all_goals
    simp only [clampO, tickN_iff, dot_eq] at *
    have z := ord_zero (ρ.i .i64 4) (ρ.i .i64 5) (ρ.i .i64 6) (ρ.i .i64 7) (ρ.i .i64 8) (ρ.i .i64 9) (ρ.i .i64 10) (ρ.i .i64 11)
    have t := ord_trans (ρ.i .i64 4) (ρ.i .i64 5) (ρ.i .i64 6) (ρ.i .i64 7) (ρ.i .i64 8) (ρ.i .i64 9) (ρ.i .i64 10) (ρ.i .i64 11) (ρ.i .i64 12) (ρ.i .i64 13) (ρ.i .i64 14) (ρ.i .i64 15)
    first
      | omega
      | (have e := name_inj (n := ρ.i .i64 4) (l := ρ.i .i64 5) (s := ρ.i .i64 6) (u := ρ.i .i64 7) (m := ρ.i .i64 8) (k := ρ.i .i64 9) (t := ρ.i .i64 10) (v := ρ.i .i64 11) (by omega) (by omega) (by omega) (by omega) (by omega) (by omega) (by omega) (by omega) (by assumption)
         omega)
      | (have e : ¬ ((ρ.i .i64 4) = (ρ.i .i64 8) ∧ (ρ.i .i64 5) = (ρ.i .i64 9) ∧ (ρ.i .i64 6) = (ρ.i .i64 10) ∧ (ρ.i .i64 7) = (ρ.i .i64 11)) := fun h => absurd (name_of h) (by assumption)
         omega)
theorem vcholds_142 : VD TTholds (st0 cHolds) wholds_142 := by
  intro ρ kn hp
  exact all_nil
theorem vcholds_143 : VD TTholds (st0 cHolds) wholds_143 := by
  intro ρ kn hp
  exact all_nil
theorem vcholds_144 : VD TTholds (st0 cHolds) wholds_144 := by
  intro ρ kn hp
  have hF : ρ.z.F = sih.Φ := kn.F
  simp only [h_nil, h_cons, d_le, d_eq, d_not, d_var, d_lit, d_cel, d_leq, d_fn, d_and, d_iff, IE.den, LE.den, AL.den, lenV, true_and, and_true, pcholds_57, pcholds_39, pcholds_26, pcholds_18, pcholds_13, pcholds_9, pcholds_0, hF, pb2, pb6, pi1, pi3, pl1] at hp
  obtain ⟨p1, p2, p3, p4, p5, p6, p7, p8, p9, p10, p11, p12, p13⟩ := hp
  exfalso
  all_goals
    simp only [clampO, tickN_iff, dot_eq] at *
    have z := ord_zero (ρ.i .i64 4) (ρ.i .i64 5) (ρ.i .i64 6) (ρ.i .i64 7) (ρ.i .i64 8) (ρ.i .i64 9) (ρ.i .i64 10) (ρ.i .i64 11)
    have t := ord_trans (ρ.i .i64 4) (ρ.i .i64 5) (ρ.i .i64 6) (ρ.i .i64 7) (ρ.i .i64 8) (ρ.i .i64 9) (ρ.i .i64 10) (ρ.i .i64 11) (ρ.i .i64 12) (ρ.i .i64 13) (ρ.i .i64 14) (ρ.i .i64 15)
    first
      | omega
      | (have e := name_inj (n := ρ.i .i64 4) (l := ρ.i .i64 5) (s := ρ.i .i64 6) (u := ρ.i .i64 7) (m := ρ.i .i64 8) (k := ρ.i .i64 9) (t := ρ.i .i64 10) (v := ρ.i .i64 11) (by omega) (by omega) (by omega) (by omega) (by omega) (by omega) (by omega) (by omega) (by assumption)
         omega)
      | (have e : ¬ ((ρ.i .i64 4) = (ρ.i .i64 8) ∧ (ρ.i .i64 5) = (ρ.i .i64 9) ∧ (ρ.i .i64 6) = (ρ.i .i64 10) ∧ (ρ.i .i64 7) = (ρ.i .i64 11)) := fun h => absurd (name_of h) (by assumption)
         omega)
theorem vcholds_145 : VD TTholds (st0 cHolds) wholds_145 := by
  intro ρ kn hp
  exact all_nil
theorem vcholds_146 : VD TTholds (st0 cHolds) wholds_146 := by
  intro ρ kn hp
  exact all_nil
theorem vcholds_147 : VD TTholds (st0 cHolds) wholds_147 := by
  intro ρ kn hp
  have hF : ρ.z.F = sih.Φ := kn.F
  simp only [h_nil, h_cons, d_le, d_eq, d_not, d_var, d_lit, d_cel, d_leq, d_fn, d_and, d_iff, IE.den, LE.den, AL.den, lenV, true_and, and_true, pcholds_58, pcholds_40, pcholds_26, pcholds_18, pcholds_13, pcholds_9, pcholds_0, hF, pb2, pb6, pi1, pi3, pl1] at hp
  obtain ⟨p1, p2, p3, p4, p5, p6, p7, p8, p9, p10, p11, p12, p13⟩ := hp
  exfalso
  all_goals
    simp only [clampO, tickN_iff, dot_eq] at *
    have z := ord_zero (ρ.i .i64 4) (ρ.i .i64 5) (ρ.i .i64 6) (ρ.i .i64 7) (ρ.i .i64 8) (ρ.i .i64 9) (ρ.i .i64 10) (ρ.i .i64 11)
    have t := ord_trans (ρ.i .i64 4) (ρ.i .i64 5) (ρ.i .i64 6) (ρ.i .i64 7) (ρ.i .i64 8) (ρ.i .i64 9) (ρ.i .i64 10) (ρ.i .i64 11) (ρ.i .i64 12) (ρ.i .i64 13) (ρ.i .i64 14) (ρ.i .i64 15)
    first
      | omega
      | (have e := name_inj (n := ρ.i .i64 4) (l := ρ.i .i64 5) (s := ρ.i .i64 6) (u := ρ.i .i64 7) (m := ρ.i .i64 8) (k := ρ.i .i64 9) (t := ρ.i .i64 10) (v := ρ.i .i64 11) (by omega) (by omega) (by omega) (by omega) (by omega) (by omega) (by omega) (by omega) (by assumption)
         omega)
      | (have e : ¬ ((ρ.i .i64 4) = (ρ.i .i64 8) ∧ (ρ.i .i64 5) = (ρ.i .i64 9) ∧ (ρ.i .i64 6) = (ρ.i .i64 10) ∧ (ρ.i .i64 7) = (ρ.i .i64 11)) := fun h => absurd (name_of h) (by assumption)
         omega)
theorem vcholds_148 : VD TTholds (st0 cHolds) wholds_148 := by
  intro ρ kn hp
  exact all_nil
theorem vcholds_149 : VD TTholds (st0 cHolds) wholds_149 := by
  intro ρ kn hp
  exact all_nil
theorem vcholds_150 : VD TTholds (st0 cHolds) wholds_150 := by
  intro ρ kn hp
  have hF : ρ.z.F = sih.Φ := kn.F
  simp only [h_nil, h_cons, d_le, d_eq, d_not, d_var, d_lit, d_cel, d_leq, d_fn, d_and, d_iff, IE.den, LE.den, AL.den, lenV, true_and, and_true, pcholds_41, pcholds_27, pcholds_19, pcholds_13, pcholds_9, pcholds_0, hF, pb2, pb6, pi1, pi3, pl1] at hp
  obtain ⟨p1, p2, p3, p4, p5, p6, p7, p8, p9, p10, p11, p12⟩ := hp
  exfalso
  all_goals
    simp only [clampO, tickN_iff, dot_eq] at *
    have z := ord_zero (ρ.i .i64 4) (ρ.i .i64 5) (ρ.i .i64 6) (ρ.i .i64 7) (ρ.i .i64 8) (ρ.i .i64 9) (ρ.i .i64 10) (ρ.i .i64 11)
    have t := ord_trans (ρ.i .i64 4) (ρ.i .i64 5) (ρ.i .i64 6) (ρ.i .i64 7) (ρ.i .i64 8) (ρ.i .i64 9) (ρ.i .i64 10) (ρ.i .i64 11) (ρ.i .i64 12) (ρ.i .i64 13) (ρ.i .i64 14) (ρ.i .i64 15)
    first
      | omega
      | (have e := name_inj (n := ρ.i .i64 4) (l := ρ.i .i64 5) (s := ρ.i .i64 6) (u := ρ.i .i64 7) (m := ρ.i .i64 8) (k := ρ.i .i64 9) (t := ρ.i .i64 10) (v := ρ.i .i64 11) (by omega) (by omega) (by omega) (by omega) (by omega) (by omega) (by omega) (by omega) (by assumption)
         omega)
      | (have e : ¬ ((ρ.i .i64 4) = (ρ.i .i64 8) ∧ (ρ.i .i64 5) = (ρ.i .i64 9) ∧ (ρ.i .i64 6) = (ρ.i .i64 10) ∧ (ρ.i .i64 7) = (ρ.i .i64 11)) := fun h => absurd (name_of h) (by assumption)
         omega)
theorem vcholds_151 : VD TTholds (st0 cHolds) wholds_151 := by
  intro ρ kn hp
  exact all_nil
theorem vcholds_152 : VD TTholds (st0 cHolds) wholds_152 := by
  intro ρ kn hp
  exact all_nil
theorem vcholds_153 : VD TTholds (st0 cHolds) wholds_153 := by
  intro ρ kn hp
  have hF : ρ.z.F = sih.Φ := kn.F
  simp only [h_nil, h_cons, d_le, d_eq, d_not, d_var, d_lit, d_cel, d_leq, d_fn, d_and, d_iff, IE.den, LE.den, AL.den, lenV, true_and, and_true, pcholds_42, pcholds_28, pcholds_19, pcholds_13, pcholds_9, pcholds_0, hF, pb2, pb6, pi1, pi3, pl1] at hp
  obtain ⟨p1, p2, p3, p4, p5, p6, p7, p8, p9, p10, p11, p12⟩ := hp
  exfalso
  all_goals
    simp only [clampO, tickN_iff, dot_eq] at *
    have z := ord_zero (ρ.i .i64 4) (ρ.i .i64 5) (ρ.i .i64 6) (ρ.i .i64 7) (ρ.i .i64 8) (ρ.i .i64 9) (ρ.i .i64 10) (ρ.i .i64 11)
    have t := ord_trans (ρ.i .i64 4) (ρ.i .i64 5) (ρ.i .i64 6) (ρ.i .i64 7) (ρ.i .i64 8) (ρ.i .i64 9) (ρ.i .i64 10) (ρ.i .i64 11) (ρ.i .i64 12) (ρ.i .i64 13) (ρ.i .i64 14) (ρ.i .i64 15)
    first
      | omega
      | (have e := name_inj (n := ρ.i .i64 4) (l := ρ.i .i64 5) (s := ρ.i .i64 6) (u := ρ.i .i64 7) (m := ρ.i .i64 8) (k := ρ.i .i64 9) (t := ρ.i .i64 10) (v := ρ.i .i64 11) (by omega) (by omega) (by omega) (by omega) (by omega) (by omega) (by omega) (by omega) (by assumption)
         omega)
      | (have e : ¬ ((ρ.i .i64 4) = (ρ.i .i64 8) ∧ (ρ.i .i64 5) = (ρ.i .i64 9) ∧ (ρ.i .i64 6) = (ρ.i .i64 10) ∧ (ρ.i .i64 7) = (ρ.i .i64 11)) := fun h => absurd (name_of h) (by assumption)
         omega)
theorem vcholds_154 : VD TTholds (st0 cHolds) wholds_154 := by
  intro ρ kn hp
  exact all_nil
theorem told_holds : Sx.Told sih.Φ cHolds := told_vw (cs := [cWorks, cText1, cText2, cText3, cOrder]) (all_cons told_works (all_cons told_text1 (all_cons told_text2 (all_cons told_text3 (all_cons told_order (all_nil)))))) 9000 vwholds (by kernel_rfl) (by kernel_rfl) (by kernel_rfl) (post_nil rfl) (by kernel_rfl) (by kernel_rfl) (all_cons vcholds_0 (all_cons vcholds_1 (all_cons vcholds_2 (all_cons vcholds_3 (all_cons vcholds_4 (all_cons vcholds_5 (all_cons vcholds_6 (all_cons vcholds_7 (all_cons vcholds_8 (all_cons vcholds_9 (all_cons vcholds_10 (all_cons vcholds_11 (all_cons vcholds_12 (all_cons vcholds_13 (all_cons vcholds_14 (all_cons vcholds_15 (all_cons vcholds_16 (all_cons vcholds_17 (all_cons vcholds_18 (all_cons vcholds_19 (all_cons vcholds_20 (all_cons vcholds_21 (all_cons vcholds_22 (all_cons vcholds_23 (all_cons vcholds_24 (all_cons vcholds_25 (all_cons vcholds_26 (all_cons vcholds_27 (all_cons vcholds_28 (all_cons vcholds_29 (all_cons vcholds_30 (all_cons vcholds_31 (all_cons vcholds_32 (all_cons vcholds_33 (all_cons vcholds_34 (all_cons vcholds_35 (all_cons vcholds_36 (all_cons vcholds_37 (all_cons vcholds_38 (all_cons vcholds_39 (all_cons vcholds_40 (all_cons vcholds_41 (all_cons vcholds_42 (all_cons vcholds_43 (all_cons vcholds_44 (all_cons vcholds_45 (all_cons vcholds_46 (all_cons vcholds_47 (all_cons vcholds_48 (all_cons vcholds_49 (all_cons vcholds_50 (all_cons vcholds_51 (all_cons vcholds_52 (all_cons vcholds_53 (all_cons vcholds_54 (all_cons vcholds_55 (all_cons vcholds_56 (all_cons vcholds_57 (all_cons vcholds_58 (all_cons vcholds_59 (all_cons vcholds_60 (all_cons vcholds_61 (all_cons vcholds_62 (all_cons vcholds_63 (all_cons vcholds_64 (all_cons vcholds_65 (all_cons vcholds_66 (all_cons vcholds_67 (all_cons vcholds_68 (all_cons vcholds_69 (all_cons vcholds_70 (all_cons vcholds_71 (all_cons vcholds_72 (all_cons vcholds_73 (all_cons vcholds_74 (all_cons vcholds_75 (all_cons vcholds_76 (all_cons vcholds_77 (all_cons vcholds_78 (all_cons vcholds_79 (all_cons vcholds_80 (all_cons vcholds_81 (all_cons vcholds_82 (all_cons vcholds_83 (all_cons vcholds_84 (all_cons vcholds_85 (all_cons vcholds_86 (all_cons vcholds_87 (all_cons vcholds_88 (all_cons vcholds_89 (all_cons vcholds_90 (all_cons vcholds_91 (all_cons vcholds_92 (all_cons vcholds_93 (all_cons vcholds_94 (all_cons vcholds_95 (all_cons vcholds_96 (all_cons vcholds_97 (all_cons vcholds_98 (all_cons vcholds_99 (all_cons vcholds_100 (all_cons vcholds_101 (all_cons vcholds_102 (all_cons vcholds_103 (all_cons vcholds_104 (all_cons vcholds_105 (all_cons vcholds_106 (all_cons vcholds_107 (all_cons vcholds_108 (all_cons vcholds_109 (all_cons vcholds_110 (all_cons vcholds_111 (all_cons vcholds_112 (all_cons vcholds_113 (all_cons vcholds_114 (all_cons vcholds_115 (all_cons vcholds_116 (all_cons vcholds_117 (all_cons vcholds_118 (all_cons vcholds_119 (all_cons vcholds_120 (all_cons vcholds_121 (all_cons vcholds_122 (all_cons vcholds_123 (all_cons vcholds_124 (all_cons vcholds_125 (all_cons vcholds_126 (all_cons vcholds_127 (all_cons vcholds_128 (all_cons vcholds_129 (all_cons vcholds_130 (all_cons vcholds_131 (all_cons vcholds_132 (all_cons vcholds_133 (all_cons vcholds_134 (all_cons vcholds_135 (all_cons vcholds_136 (all_cons vcholds_137 (all_cons vcholds_138 (all_cons vcholds_139 (all_cons vcholds_140 (all_cons vcholds_141 (all_cons vcholds_142 (all_cons vcholds_143 (all_cons vcholds_144 (all_cons vcholds_145 (all_cons vcholds_146 (all_cons vcholds_147 (all_cons vcholds_148 (all_cons vcholds_149 (all_cons vcholds_150 (all_cons vcholds_151 (all_cons vcholds_152 (all_cons vcholds_153 (all_cons vcholds_154 (all_nil))))))))))))))))))))))))))))))))))))))))))))))))))))))))))))))))))))))))))))))))))))))))))))))))))))))))))))))))))))))))))))))))))))))))))))))))))))))))))))
end Go.Proofs.YtdfgidogiacmnaaDoor.sih
