/- Layer site: works, orders. No condition. -/
import Derived.Test.YtdfgidogiacmnaaDoorSc
set_option linter.unusedVariables false
set_option linter.unusedSimpArgs false
set_option linter.deprecated false
namespace Go.Proofs.YtdfgidogiacmnaaDoor.sit
open Go Go.Proofs.YtdfgidogiacmnaaDoor.Sx
noncomputable section
abbrev TTrightS : Tab := T sit.Φ cRightS.roms []
def pcrightS_0 : List BE := [(BE.lit true)]
def pcrightS_1 : List BE := ((BE.le (IE.lit 1) (IE.var .i64 1)) :: pcrightS_0)
def pcrightS_2 : List BE := ((BE.not (BE.le (IE.lit 1) (IE.var .i64 1))) :: pcrightS_0)
def pcrightS_3 : List BE := ((BE.le (IE.lit 1) (IE.var .i64 2)) :: pcrightS_1)
def pcrightS_4 : List BE := ((BE.not (BE.le (IE.lit 1) (IE.var .i64 2))) :: pcrightS_1)
def pcrightS_5 : List BE := ((BE.le (IE.lit 1) (IE.var .i64 2)) :: pcrightS_2)
def pcrightS_6 : List BE := ((BE.not (BE.le (IE.lit 1) (IE.var .i64 2))) :: pcrightS_2)
def pcrightS_7 : List BE := ((BE.le (IE.lit 1) (IE.var .i64 3)) :: pcrightS_3)
def pcrightS_8 : List BE := ((BE.not (BE.le (IE.lit 1) (IE.var .i64 3))) :: pcrightS_3)
def pcrightS_9 : List BE := ((BE.le (IE.lit 1) (IE.var .i64 3)) :: pcrightS_4)
def pcrightS_10 : List BE := ((BE.not (BE.le (IE.lit 1) (IE.var .i64 3))) :: pcrightS_4)
def pcrightS_11 : List BE := ((BE.le (IE.var .i64 1) (IE.lit 64)) :: pcrightS_7)
def pcrightS_12 : List BE := ((BE.le (IE.var .i64 1) (IE.lit 64)) :: pcrightS_8)
def pcrightS_13 : List BE := ((BE.le (IE.var .i64 2) (IE.lit 8)) :: pcrightS_11)
def wrightS_0 : VW := (VW.done ((BE.le (IE.var .i64 3) (IE.lit 4)) :: pcrightS_13) (some [(G.b (BE.fn 2 (AL.int .i64 (IE.var .i64 1) (AL.int .i64 (IE.var .i64 2) (AL.int .i64 (IE.var .i64 3) AL.nil)))) (BE.lit true))]))
def wrightS_1 : VW := (VW.done ((BE.not (BE.le (IE.var .i64 3) (IE.lit 4))) :: pcrightS_13) (some [(G.b (BE.fn 2 (AL.int .i64 (IE.var .i64 1) (AL.int .i64 (IE.var .i64 2) (AL.int .i64 (IE.var .i64 3) AL.nil)))) (BE.lit false))]))
def wrightS_2 : VW := (VW.done ((BE.not (BE.le (IE.var .i64 2) (IE.lit 8))) :: pcrightS_11) (some [(G.b (BE.fn 2 (AL.int .i64 (IE.var .i64 1) (AL.int .i64 (IE.var .i64 2) (AL.int .i64 (IE.var .i64 3) AL.nil)))) (BE.lit false))]))
def wrightS_3 : VW := (VW.done ((BE.not (BE.le (IE.var .i64 1) (IE.lit 64))) :: pcrightS_7) (some [(G.b (BE.fn 2 (AL.int .i64 (IE.var .i64 1) (AL.int .i64 (IE.var .i64 2) (AL.int .i64 (IE.var .i64 3) AL.nil)))) (BE.lit false))]))
def wrightS_4 : VW := (VW.done ((BE.le (IE.var .i64 2) (IE.lit 8)) :: pcrightS_12) (some [(G.b (BE.fn 2 (AL.int .i64 (IE.var .i64 1) (AL.int .i64 (IE.var .i64 2) (AL.int .i64 (IE.var .i64 3) AL.nil)))) (BE.lit false))]))
def wrightS_5 : VW := (VW.done ((BE.not (BE.le (IE.var .i64 2) (IE.lit 8))) :: pcrightS_12) (some [(G.b (BE.fn 2 (AL.int .i64 (IE.var .i64 1) (AL.int .i64 (IE.var .i64 2) (AL.int .i64 (IE.var .i64 3) AL.nil)))) (BE.lit false))]))
def wrightS_6 : VW := (VW.done ((BE.not (BE.le (IE.var .i64 1) (IE.lit 64))) :: pcrightS_8) (some [(G.b (BE.fn 2 (AL.int .i64 (IE.var .i64 1) (AL.int .i64 (IE.var .i64 2) (AL.int .i64 (IE.var .i64 3) AL.nil)))) (BE.lit false))]))
def wrightS_7 : VW := (VW.done ((BE.le (IE.var .i64 1) (IE.lit 64)) :: pcrightS_9) (some [(G.b (BE.fn 2 (AL.int .i64 (IE.var .i64 1) (AL.int .i64 (IE.var .i64 2) (AL.int .i64 (IE.var .i64 3) AL.nil)))) (BE.lit false))]))
def wrightS_8 : VW := (VW.done ((BE.not (BE.le (IE.var .i64 1) (IE.lit 64))) :: pcrightS_9) (some [(G.b (BE.fn 2 (AL.int .i64 (IE.var .i64 1) (AL.int .i64 (IE.var .i64 2) (AL.int .i64 (IE.var .i64 3) AL.nil)))) (BE.lit false))]))
def wrightS_9 : VW := (VW.done ((BE.le (IE.var .i64 1) (IE.lit 64)) :: pcrightS_10) (some [(G.b (BE.fn 2 (AL.int .i64 (IE.var .i64 1) (AL.int .i64 (IE.var .i64 2) (AL.int .i64 (IE.var .i64 3) AL.nil)))) (BE.lit false))]))
def wrightS_10 : VW := (VW.done ((BE.not (BE.le (IE.var .i64 1) (IE.lit 64))) :: pcrightS_10) (some [(G.b (BE.fn 2 (AL.int .i64 (IE.var .i64 1) (AL.int .i64 (IE.var .i64 2) (AL.int .i64 (IE.var .i64 3) AL.nil)))) (BE.lit false))]))
def wrightS_11 : VW := (VW.done ((BE.le (IE.lit 1) (IE.var .i64 3)) :: pcrightS_5) (some [(G.b (BE.fn 2 (AL.int .i64 (IE.var .i64 1) (AL.int .i64 (IE.var .i64 2) (AL.int .i64 (IE.var .i64 3) AL.nil)))) (BE.lit false))]))
def wrightS_12 : VW := (VW.done ((BE.not (BE.le (IE.lit 1) (IE.var .i64 3))) :: pcrightS_5) (some [(G.b (BE.fn 2 (AL.int .i64 (IE.var .i64 1) (AL.int .i64 (IE.var .i64 2) (AL.int .i64 (IE.var .i64 3) AL.nil)))) (BE.lit false))]))
def wrightS_13 : VW := (VW.done ((BE.le (IE.lit 1) (IE.var .i64 3)) :: pcrightS_6) (some [(G.b (BE.fn 2 (AL.int .i64 (IE.var .i64 1) (AL.int .i64 (IE.var .i64 2) (AL.int .i64 (IE.var .i64 3) AL.nil)))) (BE.lit false))]))
def wrightS_14 : VW := (VW.done ((BE.not (BE.le (IE.lit 1) (IE.var .i64 3))) :: pcrightS_6) (some [(G.b (BE.fn 2 (AL.int .i64 (IE.var .i64 1) (AL.int .i64 (IE.var .i64 2) (AL.int .i64 (IE.var .i64 3) AL.nil)))) (BE.lit false))]))
def vwrightS : List VW := [wrightS_0, wrightS_1, wrightS_2, wrightS_3, wrightS_4, wrightS_5, wrightS_6, wrightS_7, wrightS_8, wrightS_9, wrightS_10, wrightS_11, wrightS_12, wrightS_13, wrightS_14]
end
theorem vcrightS_0 : VD TTrightS (st0 cRightS) wrightS_0 := by
  intro ρ kn hp
  have hF : ρ.z.F = sit.Φ := kn.F
  simp only [h_nil, h_cons, d_le, d_eq, d_not, d_var, d_lit, d_cel, d_leq, d_fn, d_and, d_iff, IE.den, LE.den, AL.den, lenV, true_and, and_true, pcrightS_13, pcrightS_11, pcrightS_7, pcrightS_3, pcrightS_1, pcrightS_0, hF, pb2, pi1, pi3] at hp
  obtain ⟨p1, p2, p3, p4, p5, p6⟩ := hp
  refine all_cons (show (ρ.z.F.b 2 [.int .i64 (ρ.i .i64 1), .int .i64 (ρ.i .i64 2), .int .i64 (ρ.i .i64 3)]) = true from ?_) (all_nil)
  all_goals try simp only [hF, pb2, pi1, pi3]
  all_goals
    apply beq_of
    simp only [shapeN_iff, Bool.false_eq_true, iff_false, iff_true, decide_eq_true_eq]
    omega
theorem vcrightS_1 : VD TTrightS (st0 cRightS) wrightS_1 := by
  intro ρ kn hp
  have hF : ρ.z.F = sit.Φ := kn.F
  simp only [h_nil, h_cons, d_le, d_eq, d_not, d_var, d_lit, d_cel, d_leq, d_fn, d_and, d_iff, IE.den, LE.den, AL.den, lenV, true_and, and_true, pcrightS_13, pcrightS_11, pcrightS_7, pcrightS_3, pcrightS_1, pcrightS_0, hF, pb2, pi1, pi3] at hp
  obtain ⟨p1, p2, p3, p4, p5, p6⟩ := hp
  refine all_cons (show (ρ.z.F.b 2 [.int .i64 (ρ.i .i64 1), .int .i64 (ρ.i .i64 2), .int .i64 (ρ.i .i64 3)]) = false from ?_) (all_nil)
  all_goals try simp only [hF, pb2, pi1, pi3]
  all_goals
    apply beq_of
    simp only [shapeN_iff, Bool.false_eq_true, iff_false, iff_true, decide_eq_true_eq]
    omega
theorem vcrightS_2 : VD TTrightS (st0 cRightS) wrightS_2 := by
  intro ρ kn hp
  have hF : ρ.z.F = sit.Φ := kn.F
  simp only [h_nil, h_cons, d_le, d_eq, d_not, d_var, d_lit, d_cel, d_leq, d_fn, d_and, d_iff, IE.den, LE.den, AL.den, lenV, true_and, and_true, pcrightS_11, pcrightS_7, pcrightS_3, pcrightS_1, pcrightS_0, hF, pb2, pi1, pi3] at hp
  obtain ⟨p1, p2, p3, p4, p5⟩ := hp
  refine all_cons (show (ρ.z.F.b 2 [.int .i64 (ρ.i .i64 1), .int .i64 (ρ.i .i64 2), .int .i64 (ρ.i .i64 3)]) = false from ?_) (all_nil)
  all_goals try simp only [hF, pb2, pi1, pi3]
  all_goals
    apply beq_of
    simp only [shapeN_iff, Bool.false_eq_true, iff_false, iff_true, decide_eq_true_eq]
    omega
theorem vcrightS_3 : VD TTrightS (st0 cRightS) wrightS_3 := by
  intro ρ kn hp
  have hF : ρ.z.F = sit.Φ := kn.F
  simp only [h_nil, h_cons, d_le, d_eq, d_not, d_var, d_lit, d_cel, d_leq, d_fn, d_and, d_iff, IE.den, LE.den, AL.den, lenV, true_and, and_true, pcrightS_7, pcrightS_3, pcrightS_1, pcrightS_0, hF, pb2, pi1, pi3] at hp
  obtain ⟨p1, p2, p3, p4⟩ := hp
  refine all_cons (show (ρ.z.F.b 2 [.int .i64 (ρ.i .i64 1), .int .i64 (ρ.i .i64 2), .int .i64 (ρ.i .i64 3)]) = false from ?_) (all_nil)
  all_goals try simp only [hF, pb2, pi1, pi3]
  all_goals
    apply beq_of
    simp only [shapeN_iff, Bool.false_eq_true, iff_false, iff_true, decide_eq_true_eq]
    omega
theorem vcrightS_4 : VD TTrightS (st0 cRightS) wrightS_4 := by
  intro ρ kn hp
  have hF : ρ.z.F = sit.Φ := kn.F
  simp only [h_nil, h_cons, d_le, d_eq, d_not, d_var, d_lit, d_cel, d_leq, d_fn, d_and, d_iff, IE.den, LE.den, AL.den, lenV, true_and, and_true, pcrightS_12, pcrightS_8, pcrightS_3, pcrightS_1, pcrightS_0, hF, pb2, pi1, pi3] at hp
  obtain ⟨p1, p2, p3, p4, p5⟩ := hp
  refine all_cons (show (ρ.z.F.b 2 [.int .i64 (ρ.i .i64 1), .int .i64 (ρ.i .i64 2), .int .i64 (ρ.i .i64 3)]) = false from ?_) (all_nil)
  all_goals try simp only [hF, pb2, pi1, pi3]
  all_goals
    apply beq_of
    simp only [shapeN_iff, Bool.false_eq_true, iff_false, iff_true, decide_eq_true_eq]
    omega
theorem vcrightS_5 : VD TTrightS (st0 cRightS) wrightS_5 := by
  intro ρ kn hp
  have hF : ρ.z.F = sit.Φ := kn.F
  simp only [h_nil, h_cons, d_le, d_eq, d_not, d_var, d_lit, d_cel, d_leq, d_fn, d_and, d_iff, IE.den, LE.den, AL.den, lenV, true_and, and_true, pcrightS_12, pcrightS_8, pcrightS_3, pcrightS_1, pcrightS_0, hF, pb2, pi1, pi3] at hp
  obtain ⟨p1, p2, p3, p4, p5⟩ := hp
  refine all_cons (show (ρ.z.F.b 2 [.int .i64 (ρ.i .i64 1), .int .i64 (ρ.i .i64 2), .int .i64 (ρ.i .i64 3)]) = false from ?_) (all_nil)
  all_goals try simp only [hF, pb2, pi1, pi3]
  all_goals
    apply beq_of
    simp only [shapeN_iff, Bool.false_eq_true, iff_false, iff_true, decide_eq_true_eq]
    omega
theorem vcrightS_6 : VD TTrightS (st0 cRightS) wrightS_6 := by
  intro ρ kn hp
  have hF : ρ.z.F = sit.Φ := kn.F
  simp only [h_nil, h_cons, d_le, d_eq, d_not, d_var, d_lit, d_cel, d_leq, d_fn, d_and, d_iff, IE.den, LE.den, AL.den, lenV, true_and, and_true, pcrightS_8, pcrightS_3, pcrightS_1, pcrightS_0, hF, pb2, pi1, pi3] at hp
  obtain ⟨p1, p2, p3, p4⟩ := hp
  refine all_cons (show (ρ.z.F.b 2 [.int .i64 (ρ.i .i64 1), .int .i64 (ρ.i .i64 2), .int .i64 (ρ.i .i64 3)]) = false from ?_) (all_nil)
  all_goals try simp only [hF, pb2, pi1, pi3]
  all_goals
    apply beq_of
    simp only [shapeN_iff, Bool.false_eq_true, iff_false, iff_true, decide_eq_true_eq]
    omega
theorem vcrightS_7 : VD TTrightS (st0 cRightS) wrightS_7 := by
  intro ρ kn hp
  have hF : ρ.z.F = sit.Φ := kn.F
  simp only [h_nil, h_cons, d_le, d_eq, d_not, d_var, d_lit, d_cel, d_leq, d_fn, d_and, d_iff, IE.den, LE.den, AL.den, lenV, true_and, and_true, pcrightS_9, pcrightS_4, pcrightS_1, pcrightS_0, hF, pb2, pi1, pi3] at hp
  obtain ⟨p1, p2, p3, p4⟩ := hp
  refine all_cons (show (ρ.z.F.b 2 [.int .i64 (ρ.i .i64 1), .int .i64 (ρ.i .i64 2), .int .i64 (ρ.i .i64 3)]) = false from ?_) (all_nil)
  all_goals try simp only [hF, pb2, pi1, pi3]
  all_goals
    apply beq_of
    simp only [shapeN_iff, Bool.false_eq_true, iff_false, iff_true, decide_eq_true_eq]
    omega
theorem vcrightS_8 : VD TTrightS (st0 cRightS) wrightS_8 := by
  intro ρ kn hp
  have hF : ρ.z.F = sit.Φ := kn.F
  simp only [h_nil, h_cons, d_le, d_eq, d_not, d_var, d_lit, d_cel, d_leq, d_fn, d_and, d_iff, IE.den, LE.den, AL.den, lenV, true_and, and_true, pcrightS_9, pcrightS_4, pcrightS_1, pcrightS_0, hF, pb2, pi1, pi3] at hp
  obtain ⟨p1, p2, p3, p4⟩ := hp
  refine all_cons (show (ρ.z.F.b 2 [.int .i64 (ρ.i .i64 1), .int .i64 (ρ.i .i64 2), .int .i64 (ρ.i .i64 3)]) = false from ?_) (all_nil)
  all_goals try simp only [hF, pb2, pi1, pi3]
  all_goals
    apply beq_of
    simp only [shapeN_iff, Bool.false_eq_true, iff_false, iff_true, decide_eq_true_eq]
    omega
theorem vcrightS_9 : VD TTrightS (st0 cRightS) wrightS_9 := by
  intro ρ kn hp
  have hF : ρ.z.F = sit.Φ := kn.F
  simp only [h_nil, h_cons, d_le, d_eq, d_not, d_var, d_lit, d_cel, d_leq, d_fn, d_and, d_iff, IE.den, LE.den, AL.den, lenV, true_and, and_true, pcrightS_10, pcrightS_4, pcrightS_1, pcrightS_0, hF, pb2, pi1, pi3] at hp
  obtain ⟨p1, p2, p3, p4⟩ := hp
  refine all_cons (show (ρ.z.F.b 2 [.int .i64 (ρ.i .i64 1), .int .i64 (ρ.i .i64 2), .int .i64 (ρ.i .i64 3)]) = false from ?_) (all_nil)
  all_goals try simp only [hF, pb2, pi1, pi3]
  all_goals
    apply beq_of
    simp only [shapeN_iff, Bool.false_eq_true, iff_false, iff_true, decide_eq_true_eq]
    omega
theorem vcrightS_10 : VD TTrightS (st0 cRightS) wrightS_10 := by
  intro ρ kn hp
  have hF : ρ.z.F = sit.Φ := kn.F
  simp only [h_nil, h_cons, d_le, d_eq, d_not, d_var, d_lit, d_cel, d_leq, d_fn, d_and, d_iff, IE.den, LE.den, AL.den, lenV, true_and, and_true, pcrightS_10, pcrightS_4, pcrightS_1, pcrightS_0, hF, pb2, pi1, pi3] at hp
  obtain ⟨p1, p2, p3, p4⟩ := hp
  refine all_cons (show (ρ.z.F.b 2 [.int .i64 (ρ.i .i64 1), .int .i64 (ρ.i .i64 2), .int .i64 (ρ.i .i64 3)]) = false from ?_) (all_nil)
  all_goals try simp only [hF, pb2, pi1, pi3]
  all_goals
    apply beq_of
    simp only [shapeN_iff, Bool.false_eq_true, iff_false, iff_true, decide_eq_true_eq]
    omega
theorem vcrightS_11 : VD TTrightS (st0 cRightS) wrightS_11 := by
  intro ρ kn hp
  have hF : ρ.z.F = sit.Φ := kn.F
  simp only [h_nil, h_cons, d_le, d_eq, d_not, d_var, d_lit, d_cel, d_leq, d_fn, d_and, d_iff, IE.den, LE.den, AL.den, lenV, true_and, and_true, pcrightS_5, pcrightS_2, pcrightS_0, hF, pb2, pi1, pi3] at hp
  obtain ⟨p1, p2, p3⟩ := hp
  refine all_cons (show (ρ.z.F.b 2 [.int .i64 (ρ.i .i64 1), .int .i64 (ρ.i .i64 2), .int .i64 (ρ.i .i64 3)]) = false from ?_) (all_nil)
  all_goals try simp only [hF, pb2, pi1, pi3]
  all_goals
    apply beq_of
    simp only [shapeN_iff, Bool.false_eq_true, iff_false, iff_true, decide_eq_true_eq]
    omega
theorem vcrightS_12 : VD TTrightS (st0 cRightS) wrightS_12 := by
  intro ρ kn hp
  have hF : ρ.z.F = sit.Φ := kn.F
  simp only [h_nil, h_cons, d_le, d_eq, d_not, d_var, d_lit, d_cel, d_leq, d_fn, d_and, d_iff, IE.den, LE.den, AL.den, lenV, true_and, and_true, pcrightS_5, pcrightS_2, pcrightS_0, hF, pb2, pi1, pi3] at hp
  obtain ⟨p1, p2, p3⟩ := hp
  refine all_cons (show (ρ.z.F.b 2 [.int .i64 (ρ.i .i64 1), .int .i64 (ρ.i .i64 2), .int .i64 (ρ.i .i64 3)]) = false from ?_) (all_nil)
  all_goals try simp only [hF, pb2, pi1, pi3]
  all_goals
    apply beq_of
    simp only [shapeN_iff, Bool.false_eq_true, iff_false, iff_true, decide_eq_true_eq]
    omega
theorem vcrightS_13 : VD TTrightS (st0 cRightS) wrightS_13 := by
  intro ρ kn hp
  have hF : ρ.z.F = sit.Φ := kn.F
  simp only [h_nil, h_cons, d_le, d_eq, d_not, d_var, d_lit, d_cel, d_leq, d_fn, d_and, d_iff, IE.den, LE.den, AL.den, lenV, true_and, and_true, pcrightS_6, pcrightS_2, pcrightS_0, hF, pb2, pi1, pi3] at hp
  obtain ⟨p1, p2, p3⟩ := hp
  refine all_cons (show (ρ.z.F.b 2 [.int .i64 (ρ.i .i64 1), .int .i64 (ρ.i .i64 2), .int .i64 (ρ.i .i64 3)]) = false from ?_) (all_nil)
  all_goals try simp only [hF, pb2, pi1, pi3]
  all_goals
    apply beq_of
    simp only [shapeN_iff, Bool.false_eq_true, iff_false, iff_true, decide_eq_true_eq]
    omega
theorem vcrightS_14 : VD TTrightS (st0 cRightS) wrightS_14 := by
  intro ρ kn hp
  have hF : ρ.z.F = sit.Φ := kn.F
  simp only [h_nil, h_cons, d_le, d_eq, d_not, d_var, d_lit, d_cel, d_leq, d_fn, d_and, d_iff, IE.den, LE.den, AL.den, lenV, true_and, and_true, pcrightS_6, pcrightS_2, pcrightS_0, hF, pb2, pi1, pi3] at hp
  obtain ⟨p1, p2, p3⟩ := hp
  refine all_cons (show (ρ.z.F.b 2 [.int .i64 (ρ.i .i64 1), .int .i64 (ρ.i .i64 2), .int .i64 (ρ.i .i64 3)]) = false from ?_) (all_nil)
  all_goals try simp only [hF, pb2, pi1, pi3]
  all_goals
    apply beq_of
    simp only [shapeN_iff, Bool.false_eq_true, iff_false, iff_true, decide_eq_true_eq]
    omega
theorem told_rightS : Sx.Told sit.Φ cRightS := told_vw (cs := []) (all_nil) 4000 vwrightS (by kernel_rfl) (by kernel_rfl) (by kernel_rfl) (post_nil rfl) (by kernel_rfl) (by kernel_rfl) (all_cons vcrightS_0 (all_cons vcrightS_1 (all_cons vcrightS_2 (all_cons vcrightS_3 (all_cons vcrightS_4 (all_cons vcrightS_5 (all_cons vcrightS_6 (all_cons vcrightS_7 (all_cons vcrightS_8 (all_cons vcrightS_9 (all_cons vcrightS_10 (all_cons vcrightS_11 (all_cons vcrightS_12 (all_cons vcrightS_13 (all_cons vcrightS_14 (all_nil))))))))))))))))
noncomputable section
abbrev TTshapeS : Tab := T sit.Φ cShapeS.roms []
def pcshapeS_0 : List BE := [(BE.lit true)]
def pcshapeS_1 : List BE := ((BE.le (IE.lit 1) (IE.var .i64 1)) :: pcshapeS_0)
def pcshapeS_2 : List BE := ((BE.le (IE.var .i64 1) (IE.lit 64)) :: pcshapeS_1)
def pcshapeS_3 : List BE := ((BE.le (IE.lit 1) (IE.var .i64 2)) :: pcshapeS_2)
def pcshapeS_4 : List BE := ((BE.le (IE.var .i64 2) (IE.lit 8)) :: pcshapeS_3)
def wshapeS_0 : VW := (VW.done ((BE.le (IE.lit 1) (IE.var .i64 3)) :: pcshapeS_4) (some [(G.b (BE.fn 2 (AL.int .i64 (IE.var .i64 1) (AL.int .i64 (IE.var .i64 2) (AL.int .i64 (IE.var .i64 3) AL.nil)))) (BE.le (IE.var .i64 3) (IE.lit 4)))]))
def wshapeS_1 : VW := (VW.done ((BE.not (BE.le (IE.lit 1) (IE.var .i64 3))) :: pcshapeS_4) (some [(G.b (BE.fn 2 (AL.int .i64 (IE.var .i64 1) (AL.int .i64 (IE.var .i64 2) (AL.int .i64 (IE.var .i64 3) AL.nil)))) (BE.lit false))]))
def wshapeS_2 : VW := (VW.done ((BE.not (BE.le (IE.var .i64 2) (IE.lit 8))) :: pcshapeS_3) (some [(G.b (BE.fn 2 (AL.int .i64 (IE.var .i64 1) (AL.int .i64 (IE.var .i64 2) (AL.int .i64 (IE.var .i64 3) AL.nil)))) (BE.lit false))]))
def wshapeS_3 : VW := (VW.done ((BE.not (BE.le (IE.lit 1) (IE.var .i64 2))) :: pcshapeS_2) (some [(G.b (BE.fn 2 (AL.int .i64 (IE.var .i64 1) (AL.int .i64 (IE.var .i64 2) (AL.int .i64 (IE.var .i64 3) AL.nil)))) (BE.lit false))]))
def wshapeS_4 : VW := (VW.done ((BE.not (BE.le (IE.var .i64 1) (IE.lit 64))) :: pcshapeS_1) (some [(G.b (BE.fn 2 (AL.int .i64 (IE.var .i64 1) (AL.int .i64 (IE.var .i64 2) (AL.int .i64 (IE.var .i64 3) AL.nil)))) (BE.lit false))]))
def wshapeS_5 : VW := (VW.done ((BE.not (BE.le (IE.lit 1) (IE.var .i64 1))) :: pcshapeS_0) (some [(G.b (BE.fn 2 (AL.int .i64 (IE.var .i64 1) (AL.int .i64 (IE.var .i64 2) (AL.int .i64 (IE.var .i64 3) AL.nil)))) (BE.lit false))]))
def vwshapeS : List VW := [wshapeS_0, wshapeS_1, wshapeS_2, wshapeS_3, wshapeS_4, wshapeS_5]
end
theorem vcshapeS_0 : VD TTshapeS (st0 cShapeS) wshapeS_0 := by
  intro ρ kn hp
  have hF : ρ.z.F = sit.Φ := kn.F
  simp only [h_nil, h_cons, d_le, d_eq, d_not, d_var, d_lit, d_cel, d_leq, d_fn, d_and, d_iff, IE.den, LE.den, AL.den, lenV, true_and, and_true, pcshapeS_4, pcshapeS_3, pcshapeS_2, pcshapeS_1, pcshapeS_0, hF, pb2, pi1, pi3] at hp
  obtain ⟨p1, p2, p3, p4, p5⟩ := hp
  refine all_cons (show (ρ.z.F.b 2 [.int .i64 (ρ.i .i64 1), .int .i64 (ρ.i .i64 2), .int .i64 (ρ.i .i64 3)]) = (decide ((ρ.i .i64 3) ≤ (4 : Int))) from ?_) (all_nil)
  all_goals try simp only [hF, pb2, pi1, pi3]
  all_goals
    apply beq_of
    simp only [shapeN_iff, Bool.false_eq_true, iff_false, iff_true, decide_eq_true_eq]
    omega
theorem vcshapeS_1 : VD TTshapeS (st0 cShapeS) wshapeS_1 := by
  intro ρ kn hp
  have hF : ρ.z.F = sit.Φ := kn.F
  simp only [h_nil, h_cons, d_le, d_eq, d_not, d_var, d_lit, d_cel, d_leq, d_fn, d_and, d_iff, IE.den, LE.den, AL.den, lenV, true_and, and_true, pcshapeS_4, pcshapeS_3, pcshapeS_2, pcshapeS_1, pcshapeS_0, hF, pb2, pi1, pi3] at hp
  obtain ⟨p1, p2, p3, p4, p5⟩ := hp
  refine all_cons (show (ρ.z.F.b 2 [.int .i64 (ρ.i .i64 1), .int .i64 (ρ.i .i64 2), .int .i64 (ρ.i .i64 3)]) = false from ?_) (all_nil)
  all_goals try simp only [hF, pb2, pi1, pi3]
  all_goals
    apply beq_of
    simp only [shapeN_iff, Bool.false_eq_true, iff_false, iff_true, decide_eq_true_eq]
    omega
theorem vcshapeS_2 : VD TTshapeS (st0 cShapeS) wshapeS_2 := by
  intro ρ kn hp
  have hF : ρ.z.F = sit.Φ := kn.F
  simp only [h_nil, h_cons, d_le, d_eq, d_not, d_var, d_lit, d_cel, d_leq, d_fn, d_and, d_iff, IE.den, LE.den, AL.den, lenV, true_and, and_true, pcshapeS_3, pcshapeS_2, pcshapeS_1, pcshapeS_0, hF, pb2, pi1, pi3] at hp
  obtain ⟨p1, p2, p3, p4⟩ := hp
  refine all_cons (show (ρ.z.F.b 2 [.int .i64 (ρ.i .i64 1), .int .i64 (ρ.i .i64 2), .int .i64 (ρ.i .i64 3)]) = false from ?_) (all_nil)
  all_goals try simp only [hF, pb2, pi1, pi3]
  all_goals
    apply beq_of
    simp only [shapeN_iff, Bool.false_eq_true, iff_false, iff_true, decide_eq_true_eq]
    omega
theorem vcshapeS_3 : VD TTshapeS (st0 cShapeS) wshapeS_3 := by
  intro ρ kn hp
  have hF : ρ.z.F = sit.Φ := kn.F
  simp only [h_nil, h_cons, d_le, d_eq, d_not, d_var, d_lit, d_cel, d_leq, d_fn, d_and, d_iff, IE.den, LE.den, AL.den, lenV, true_and, and_true, pcshapeS_2, pcshapeS_1, pcshapeS_0, hF, pb2, pi1, pi3] at hp
  obtain ⟨p1, p2, p3⟩ := hp
  refine all_cons (show (ρ.z.F.b 2 [.int .i64 (ρ.i .i64 1), .int .i64 (ρ.i .i64 2), .int .i64 (ρ.i .i64 3)]) = false from ?_) (all_nil)
  all_goals try simp only [hF, pb2, pi1, pi3]
  all_goals
    apply beq_of
    simp only [shapeN_iff, Bool.false_eq_true, iff_false, iff_true, decide_eq_true_eq]
    omega
theorem vcshapeS_4 : VD TTshapeS (st0 cShapeS) wshapeS_4 := by
  intro ρ kn hp
  have hF : ρ.z.F = sit.Φ := kn.F
  simp only [h_nil, h_cons, d_le, d_eq, d_not, d_var, d_lit, d_cel, d_leq, d_fn, d_and, d_iff, IE.den, LE.den, AL.den, lenV, true_and, and_true, pcshapeS_1, pcshapeS_0, hF, pb2, pi1, pi3] at hp
  obtain ⟨p1, p2⟩ := hp
  refine all_cons (show (ρ.z.F.b 2 [.int .i64 (ρ.i .i64 1), .int .i64 (ρ.i .i64 2), .int .i64 (ρ.i .i64 3)]) = false from ?_) (all_nil)
  all_goals try simp only [hF, pb2, pi1, pi3]
  all_goals
    apply beq_of
    simp only [shapeN_iff, Bool.false_eq_true, iff_false, iff_true, decide_eq_true_eq]
    omega
theorem vcshapeS_5 : VD TTshapeS (st0 cShapeS) wshapeS_5 := by
  intro ρ kn hp
  have hF : ρ.z.F = sit.Φ := kn.F
  simp only [h_nil, h_cons, d_le, d_eq, d_not, d_var, d_lit, d_cel, d_leq, d_fn, d_and, d_iff, IE.den, LE.den, AL.den, lenV, true_and, and_true, pcshapeS_0, hF, pb2, pi1, pi3] at hp
  have p1 := hp
  refine all_cons (show (ρ.z.F.b 2 [.int .i64 (ρ.i .i64 1), .int .i64 (ρ.i .i64 2), .int .i64 (ρ.i .i64 3)]) = false from ?_) (all_nil)
  all_goals try simp only [hF, pb2, pi1, pi3]
  all_goals
    apply beq_of
    simp only [shapeN_iff, Bool.false_eq_true, iff_false, iff_true, decide_eq_true_eq]
    omega
theorem told_shapeS : Sx.Told sit.Φ cShapeS := told_vw (cs := []) (all_nil) 4000 vwshapeS (by kernel_rfl) (by kernel_rfl) (by kernel_rfl) (post_nil rfl) (by kernel_rfl) (by kernel_rfl) (all_cons vcshapeS_0 (all_cons vcshapeS_1 (all_cons vcshapeS_2 (all_cons vcshapeS_3 (all_cons vcshapeS_4 (all_cons vcshapeS_5 (all_nil)))))))
theorem told_works : Sx.Told sit.Φ cWorks := told_auto (cs := [cJoin, cIx1, cIxA, cIxB]) (all_cons told_join (all_cons told_ix1 (all_cons told_ixA (all_cons told_ixB (all_nil))))) 20000 (by kernel_rfl) (by kernel_rfl) (by kernel_rfl) (post_nil rfl) (by kernel_rfl) (by kernel_rfl)
theorem told_chk1 : Sx.Told sit.Φ cChk1 := told_auto (cs := [cRightS]) (all_cons told_rightS (all_nil)) 4000 (by kernel_rfl) (by kernel_rfl) (by kernel_rfl) post_chk1 (by kernel_rfl) (by kernel_rfl)
theorem told_chk2 : Sx.Told sit.Φ cChk2 := told_auto (cs := [cRightS]) (all_cons told_rightS (all_nil)) 4000 (by kernel_rfl) (by kernel_rfl) (by kernel_rfl) (post_nil rfl) (by kernel_rfl) (by kernel_rfl)
noncomputable section
abbrev TTcmp : Tab := T sit.Φ cCmp.roms []
def pccmp_0 : List BE := [(BE.lit true)]
def pccmp_1 : List BE := ((BE.le (IE.var .i64 2) (IE.var .i64 1)) :: pccmp_0)
def wcmp_0 : VW := (VW.done ((BE.le (IE.var .i64 1) (IE.var .i64 2)) :: pccmp_1) (some [(G.i (IE.fn .i64 1 (AL.int .i64 (IE.var .i64 1) (AL.int .i64 (IE.var .i64 2) AL.nil))) (IE.lit 0))]))
def wcmp_1 : VW := (VW.done ((BE.not (BE.le (IE.var .i64 1) (IE.var .i64 2))) :: pccmp_1) (some [(G.i (IE.fn .i64 1 (AL.int .i64 (IE.var .i64 1) (AL.int .i64 (IE.var .i64 2) AL.nil))) (IE.lit 1))]))
def wcmp_2 : VW := (VW.done ((BE.not (BE.le (IE.var .i64 2) (IE.var .i64 1))) :: pccmp_0) (some [(G.i (IE.fn .i64 1 (AL.int .i64 (IE.var .i64 1) (AL.int .i64 (IE.var .i64 2) AL.nil))) (IE.lit (-1)))]))
def vwcmp : List VW := [wcmp_0, wcmp_1, wcmp_2]
end
theorem vccmp_0 : VD TTcmp (st0 cCmp) wcmp_0 := by
  intro ρ kn hp
  have hF : ρ.z.F = sit.Φ := kn.F
  simp only [h_nil, h_cons, d_le, d_eq, d_not, d_var, d_lit, d_cel, d_leq, d_fn, d_and, d_iff, IE.den, LE.den, AL.den, lenV, true_and, and_true, pccmp_1, pccmp_0, hF, pb2, pi1, pi3] at hp
  obtain ⟨p1, p2⟩ := hp
  refine all_cons (show (clampK .i64 (ρ.z.F.i 1 [.int .i64 (ρ.i .i64 1), .int .i64 (ρ.i .i64 2)])) = (0 : Int) from ?_) (all_nil)
  all_goals try simp only [hF, pb2, pi1, pi3]
  all_goals
    simp only [clampC]
    unfold cmpN
    repeat' split
  all_goals omega
theorem vccmp_1 : VD TTcmp (st0 cCmp) wcmp_1 := by
  intro ρ kn hp
  have hF : ρ.z.F = sit.Φ := kn.F
  simp only [h_nil, h_cons, d_le, d_eq, d_not, d_var, d_lit, d_cel, d_leq, d_fn, d_and, d_iff, IE.den, LE.den, AL.den, lenV, true_and, and_true, pccmp_1, pccmp_0, hF, pb2, pi1, pi3] at hp
  obtain ⟨p1, p2⟩ := hp
  refine all_cons (show (clampK .i64 (ρ.z.F.i 1 [.int .i64 (ρ.i .i64 1), .int .i64 (ρ.i .i64 2)])) = (1 : Int) from ?_) (all_nil)
  all_goals try simp only [hF, pb2, pi1, pi3]
  all_goals
    simp only [clampC]
    unfold cmpN
    repeat' split
  all_goals omega
theorem vccmp_2 : VD TTcmp (st0 cCmp) wcmp_2 := by
  intro ρ kn hp
  have hF : ρ.z.F = sit.Φ := kn.F
  simp only [h_nil, h_cons, d_le, d_eq, d_not, d_var, d_lit, d_cel, d_leq, d_fn, d_and, d_iff, IE.den, LE.den, AL.den, lenV, true_and, and_true, pccmp_0, hF, pb2, pi1, pi3] at hp
  have p1 := hp
  refine all_cons (show (clampK .i64 (ρ.z.F.i 1 [.int .i64 (ρ.i .i64 1), .int .i64 (ρ.i .i64 2)])) = (-1 : Int) from ?_) (all_nil)
  all_goals try simp only [hF, pb2, pi1, pi3]
  all_goals
    simp only [clampC]
    unfold cmpN
    repeat' split
  all_goals omega
theorem told_cmp : Sx.Told sit.Φ cCmp := told_vw (cs := []) (all_nil) 2000 vwcmp (by kernel_rfl) (by kernel_rfl) (by kernel_rfl) (post_nil rfl) (by kernel_rfl) (by kernel_rfl) (all_cons vccmp_0 (all_cons vccmp_1 (all_cons vccmp_2 (all_nil))))
noncomputable section
abbrev TTcmp64 : Tab := T sit.Φ cCmp64.roms []
def pccmp64_0 : List BE := [(BE.lit true)]
def pccmp64_1 : List BE := ((BE.le (IE.var .i64 2) (IE.var .i64 1)) :: pccmp64_0)
def wcmp64_0 : VW := (VW.done ((BE.le (IE.var .i64 1) (IE.var .i64 2)) :: pccmp64_1) (some [(G.i (IE.fn .i64 1 (AL.int .i64 (IE.var .i64 1) (AL.int .i64 (IE.var .i64 2) AL.nil))) (IE.lit 0))]))
def wcmp64_1 : VW := (VW.done ((BE.not (BE.le (IE.var .i64 1) (IE.var .i64 2))) :: pccmp64_1) (some [(G.i (IE.fn .i64 1 (AL.int .i64 (IE.var .i64 1) (AL.int .i64 (IE.var .i64 2) AL.nil))) (IE.lit 1))]))
def wcmp64_2 : VW := (VW.done ((BE.not (BE.le (IE.var .i64 2) (IE.var .i64 1))) :: pccmp64_0) (some [(G.i (IE.fn .i64 1 (AL.int .i64 (IE.var .i64 1) (AL.int .i64 (IE.var .i64 2) AL.nil))) (IE.lit (-1)))]))
def vwcmp64 : List VW := [wcmp64_0, wcmp64_1, wcmp64_2]
end
theorem vccmp64_0 : VD TTcmp64 (st0 cCmp64) wcmp64_0 := by
  intro ρ kn hp
  have hF : ρ.z.F = sit.Φ := kn.F
  simp only [h_nil, h_cons, d_le, d_eq, d_not, d_var, d_lit, d_cel, d_leq, d_fn, d_and, d_iff, IE.den, LE.den, AL.den, lenV, true_and, and_true, pccmp64_1, pccmp64_0, hF, pb2, pi1, pi3] at hp
  obtain ⟨p1, p2⟩ := hp
  refine all_cons (show (clampK .i64 (ρ.z.F.i 1 [.int .i64 (ρ.i .i64 1), .int .i64 (ρ.i .i64 2)])) = (0 : Int) from ?_) (all_nil)
  all_goals try simp only [hF, pb2, pi1, pi3]
  all_goals
    simp only [clampC]
    unfold cmpN
    repeat' split
  all_goals omega
theorem vccmp64_1 : VD TTcmp64 (st0 cCmp64) wcmp64_1 := by
  intro ρ kn hp
  have hF : ρ.z.F = sit.Φ := kn.F
  simp only [h_nil, h_cons, d_le, d_eq, d_not, d_var, d_lit, d_cel, d_leq, d_fn, d_and, d_iff, IE.den, LE.den, AL.den, lenV, true_and, and_true, pccmp64_1, pccmp64_0, hF, pb2, pi1, pi3] at hp
  obtain ⟨p1, p2⟩ := hp
  refine all_cons (show (clampK .i64 (ρ.z.F.i 1 [.int .i64 (ρ.i .i64 1), .int .i64 (ρ.i .i64 2)])) = (1 : Int) from ?_) (all_nil)
  all_goals try simp only [hF, pb2, pi1, pi3]
  all_goals
    simp only [clampC]
    unfold cmpN
    repeat' split
  all_goals omega
theorem vccmp64_2 : VD TTcmp64 (st0 cCmp64) wcmp64_2 := by
  intro ρ kn hp
  have hF : ρ.z.F = sit.Φ := kn.F
  simp only [h_nil, h_cons, d_le, d_eq, d_not, d_var, d_lit, d_cel, d_leq, d_fn, d_and, d_iff, IE.den, LE.den, AL.den, lenV, true_and, and_true, pccmp64_0, hF, pb2, pi1, pi3] at hp
  have p1 := hp
  refine all_cons (show (clampK .i64 (ρ.z.F.i 1 [.int .i64 (ρ.i .i64 1), .int .i64 (ρ.i .i64 2)])) = (-1 : Int) from ?_) (all_nil)
  all_goals try simp only [hF, pb2, pi1, pi3]
  all_goals
    simp only [clampC]
    unfold cmpN
    repeat' split
  all_goals omega
theorem told_cmp64 : Sx.Told sit.Φ cCmp64 := told_vw (cs := []) (all_nil) 2000 vwcmp64 (by kernel_rfl) (by kernel_rfl) (by kernel_rfl) (post_nil rfl) (by kernel_rfl) (by kernel_rfl) (all_cons vccmp64_0 (all_cons vccmp64_1 (all_cons vccmp64_2 (all_nil))))
noncomputable section
abbrev TTorder : Tab := T sit.Φ cOrder.roms [cCmp, cCmp64]
def pcorder_0 : List BE := [(BE.lit true)]
def pcorder_1 : List BE := ((BE.eq (IE.fn .i64 1 (AL.int .i64 (IE.var .i64 2) (AL.int .i64 (IE.var .i64 6) AL.nil))) (IE.lit 0)) :: pcorder_0)
def pcorder_2 : List BE := ((BE.eq (IE.fn .i64 1 (AL.int .i64 (IE.var .i64 1) (AL.int .i64 (IE.var .i64 5) AL.nil))) (IE.lit 0)) :: pcorder_1)
def pcorder_3 : List BE := ((BE.eq (IE.fn .i64 1 (AL.int .i64 (IE.var .i64 3) (AL.int .i64 (IE.var .i64 7) AL.nil))) (IE.lit 0)) :: pcorder_2)
def worder_0 : VW := (VW.done ((BE.eq (IE.fn .i64 1 (AL.int .i64 (IE.var .i64 4) (AL.int .i64 (IE.var .i64 8) AL.nil))) (IE.lit 0)) :: pcorder_3) (some [(G.i (IE.fn .i64 3 (AL.int .i64 (IE.var .i64 1) (AL.int .i64 (IE.var .i64 2) (AL.int .i64 (IE.var .i64 3) (AL.int .i64 (IE.var .i64 4) (AL.int .i64 (IE.var .i64 5) (AL.int .i64 (IE.var .i64 6) (AL.int .i64 (IE.var .i64 7) (AL.int .i64 (IE.var .i64 8) AL.nil))))))))) (IE.lit 0))]))
def worder_1 : VW := (VW.done ((BE.not (BE.eq (IE.fn .i64 1 (AL.int .i64 (IE.var .i64 4) (AL.int .i64 (IE.var .i64 8) AL.nil))) (IE.lit 0))) :: pcorder_3) (some [(G.i (IE.fn .i64 3 (AL.int .i64 (IE.var .i64 1) (AL.int .i64 (IE.var .i64 2) (AL.int .i64 (IE.var .i64 3) (AL.int .i64 (IE.var .i64 4) (AL.int .i64 (IE.var .i64 5) (AL.int .i64 (IE.var .i64 6) (AL.int .i64 (IE.var .i64 7) (AL.int .i64 (IE.var .i64 8) AL.nil))))))))) (IE.fn .i64 1 (AL.int .i64 (IE.var .i64 4) (AL.int .i64 (IE.var .i64 8) AL.nil))))]))
def worder_2 : VW := (VW.done ((BE.not (BE.eq (IE.fn .i64 1 (AL.int .i64 (IE.var .i64 3) (AL.int .i64 (IE.var .i64 7) AL.nil))) (IE.lit 0))) :: pcorder_2) (some [(G.i (IE.fn .i64 3 (AL.int .i64 (IE.var .i64 1) (AL.int .i64 (IE.var .i64 2) (AL.int .i64 (IE.var .i64 3) (AL.int .i64 (IE.var .i64 4) (AL.int .i64 (IE.var .i64 5) (AL.int .i64 (IE.var .i64 6) (AL.int .i64 (IE.var .i64 7) (AL.int .i64 (IE.var .i64 8) AL.nil))))))))) (IE.fn .i64 1 (AL.int .i64 (IE.var .i64 3) (AL.int .i64 (IE.var .i64 7) AL.nil))))]))
def worder_3 : VW := (VW.done ((BE.not (BE.eq (IE.fn .i64 1 (AL.int .i64 (IE.var .i64 1) (AL.int .i64 (IE.var .i64 5) AL.nil))) (IE.lit 0))) :: pcorder_1) (some [(G.i (IE.fn .i64 3 (AL.int .i64 (IE.var .i64 1) (AL.int .i64 (IE.var .i64 2) (AL.int .i64 (IE.var .i64 3) (AL.int .i64 (IE.var .i64 4) (AL.int .i64 (IE.var .i64 5) (AL.int .i64 (IE.var .i64 6) (AL.int .i64 (IE.var .i64 7) (AL.int .i64 (IE.var .i64 8) AL.nil))))))))) (IE.fn .i64 1 (AL.int .i64 (IE.var .i64 1) (AL.int .i64 (IE.var .i64 5) AL.nil))))]))
def worder_4 : VW := (VW.done ((BE.not (BE.eq (IE.fn .i64 1 (AL.int .i64 (IE.var .i64 2) (AL.int .i64 (IE.var .i64 6) AL.nil))) (IE.lit 0))) :: pcorder_0) (some [(G.i (IE.fn .i64 3 (AL.int .i64 (IE.var .i64 1) (AL.int .i64 (IE.var .i64 2) (AL.int .i64 (IE.var .i64 3) (AL.int .i64 (IE.var .i64 4) (AL.int .i64 (IE.var .i64 5) (AL.int .i64 (IE.var .i64 6) (AL.int .i64 (IE.var .i64 7) (AL.int .i64 (IE.var .i64 8) AL.nil))))))))) (IE.fn .i64 1 (AL.int .i64 (IE.var .i64 2) (AL.int .i64 (IE.var .i64 6) AL.nil))))]))
def vworder : List VW := [worder_0, worder_1, worder_2, worder_3, worder_4]
end
theorem vcorder_0 : VD TTorder (st0 cOrder) worder_0 := by
  intro ρ kn hp
  have hF : ρ.z.F = sit.Φ := kn.F
  simp only [h_nil, h_cons, d_le, d_eq, d_not, d_var, d_lit, d_cel, d_leq, d_fn, d_and, d_iff, IE.den, LE.den, AL.den, lenV, true_and, and_true, pcorder_3, pcorder_2, pcorder_1, pcorder_0, hF, pb2, pi1, pi3] at hp
  obtain ⟨p1, p2, p3, p4⟩ := hp
  refine all_cons (show (clampK .i64 (ρ.z.F.i 3 [.int .i64 (ρ.i .i64 1), .int .i64 (ρ.i .i64 2), .int .i64 (ρ.i .i64 3), .int .i64 (ρ.i .i64 4), .int .i64 (ρ.i .i64 5), .int .i64 (ρ.i .i64 6), .int .i64 (ρ.i .i64 7), .int .i64 (ρ.i .i64 8)])) = (0 : Int) from ?_) (all_nil)
  all_goals try simp only [hF, pb2, pi1, pi3]
  all_goals
    simp only [clampC, clampO] at *
    have c1 := cmp_cases (ρ.i .i64 2) (ρ.i .i64 6)
    have c2 := cmp_cases (ρ.i .i64 1) (ρ.i .i64 5)
    have c3 := cmp_cases (ρ.i .i64 3) (ρ.i .i64 7)
    have c4 := cmp_cases (ρ.i .i64 4) (ρ.i .i64 8)
    unfold ordN
    repeat' split
  all_goals omega
theorem vcorder_1 : VD TTorder (st0 cOrder) worder_1 := by
  intro ρ kn hp
  have hF : ρ.z.F = sit.Φ := kn.F
  simp only [h_nil, h_cons, d_le, d_eq, d_not, d_var, d_lit, d_cel, d_leq, d_fn, d_and, d_iff, IE.den, LE.den, AL.den, lenV, true_and, and_true, pcorder_3, pcorder_2, pcorder_1, pcorder_0, hF, pb2, pi1, pi3] at hp
  obtain ⟨p1, p2, p3, p4⟩ := hp
  refine all_cons (show (clampK .i64 (ρ.z.F.i 3 [.int .i64 (ρ.i .i64 1), .int .i64 (ρ.i .i64 2), .int .i64 (ρ.i .i64 3), .int .i64 (ρ.i .i64 4), .int .i64 (ρ.i .i64 5), .int .i64 (ρ.i .i64 6), .int .i64 (ρ.i .i64 7), .int .i64 (ρ.i .i64 8)])) = (clampK .i64 (ρ.z.F.i 1 [.int .i64 (ρ.i .i64 4), .int .i64 (ρ.i .i64 8)])) from ?_) (all_nil)
  all_goals try simp only [hF, pb2, pi1, pi3]
  all_goals
    simp only [clampC, clampO] at *
    have c1 := cmp_cases (ρ.i .i64 2) (ρ.i .i64 6)
    have c2 := cmp_cases (ρ.i .i64 1) (ρ.i .i64 5)
    have c3 := cmp_cases (ρ.i .i64 3) (ρ.i .i64 7)
    have c4 := cmp_cases (ρ.i .i64 4) (ρ.i .i64 8)
    unfold ordN
    repeat' split
  all_goals omega
theorem vcorder_2 : VD TTorder (st0 cOrder) worder_2 := by
  intro ρ kn hp
  have hF : ρ.z.F = sit.Φ := kn.F
  simp only [h_nil, h_cons, d_le, d_eq, d_not, d_var, d_lit, d_cel, d_leq, d_fn, d_and, d_iff, IE.den, LE.den, AL.den, lenV, true_and, and_true, pcorder_2, pcorder_1, pcorder_0, hF, pb2, pi1, pi3] at hp
  obtain ⟨p1, p2, p3⟩ := hp
  refine all_cons (show (clampK .i64 (ρ.z.F.i 3 [.int .i64 (ρ.i .i64 1), .int .i64 (ρ.i .i64 2), .int .i64 (ρ.i .i64 3), .int .i64 (ρ.i .i64 4), .int .i64 (ρ.i .i64 5), .int .i64 (ρ.i .i64 6), .int .i64 (ρ.i .i64 7), .int .i64 (ρ.i .i64 8)])) = (clampK .i64 (ρ.z.F.i 1 [.int .i64 (ρ.i .i64 3), .int .i64 (ρ.i .i64 7)])) from ?_) (all_nil)
  all_goals try simp only [hF, pb2, pi1, pi3]
  all_goals
    simp only [clampC, clampO] at *
    have c1 := cmp_cases (ρ.i .i64 2) (ρ.i .i64 6)
    have c2 := cmp_cases (ρ.i .i64 1) (ρ.i .i64 5)
    have c3 := cmp_cases (ρ.i .i64 3) (ρ.i .i64 7)
    have c4 := cmp_cases (ρ.i .i64 4) (ρ.i .i64 8)
    unfold ordN
    repeat' split
  all_goals omega
theorem vcorder_3 : VD TTorder (st0 cOrder) worder_3 := by
  intro ρ kn hp
  have hF : ρ.z.F = sit.Φ := kn.F
  simp only [h_nil, h_cons, d_le, d_eq, d_not, d_var, d_lit, d_cel, d_leq, d_fn, d_and, d_iff, IE.den, LE.den, AL.den, lenV, true_and, and_true, pcorder_1, pcorder_0, hF, pb2, pi1, pi3] at hp
  obtain ⟨p1, p2⟩ := hp
  refine all_cons (show (clampK .i64 (ρ.z.F.i 3 [.int .i64 (ρ.i .i64 1), .int .i64 (ρ.i .i64 2), .int .i64 (ρ.i .i64 3), .int .i64 (ρ.i .i64 4), .int .i64 (ρ.i .i64 5), .int .i64 (ρ.i .i64 6), .int .i64 (ρ.i .i64 7), .int .i64 (ρ.i .i64 8)])) = (clampK .i64 (ρ.z.F.i 1 [.int .i64 (ρ.i .i64 1), .int .i64 (ρ.i .i64 5)])) from ?_) (all_nil)
  all_goals try simp only [hF, pb2, pi1, pi3]
  all_goals
    simp only [clampC, clampO] at *
    have c1 := cmp_cases (ρ.i .i64 2) (ρ.i .i64 6)
    have c2 := cmp_cases (ρ.i .i64 1) (ρ.i .i64 5)
    have c3 := cmp_cases (ρ.i .i64 3) (ρ.i .i64 7)
    have c4 := cmp_cases (ρ.i .i64 4) (ρ.i .i64 8)
    unfold ordN
    repeat' split
  all_goals omega
theorem vcorder_4 : VD TTorder (st0 cOrder) worder_4 := by
  intro ρ kn hp
  have hF : ρ.z.F = sit.Φ := kn.F
  simp only [h_nil, h_cons, d_le, d_eq, d_not, d_var, d_lit, d_cel, d_leq, d_fn, d_and, d_iff, IE.den, LE.den, AL.den, lenV, true_and, and_true, pcorder_0, hF, pb2, pi1, pi3] at hp
  have p1 := hp
  refine all_cons (show (clampK .i64 (ρ.z.F.i 3 [.int .i64 (ρ.i .i64 1), .int .i64 (ρ.i .i64 2), .int .i64 (ρ.i .i64 3), .int .i64 (ρ.i .i64 4), .int .i64 (ρ.i .i64 5), .int .i64 (ρ.i .i64 6), .int .i64 (ρ.i .i64 7), .int .i64 (ρ.i .i64 8)])) = (clampK .i64 (ρ.z.F.i 1 [.int .i64 (ρ.i .i64 2), .int .i64 (ρ.i .i64 6)])) from ?_) (all_nil)
  all_goals try simp only [hF, pb2, pi1, pi3]
  all_goals
    simp only [clampC, clampO] at *
    have c1 := cmp_cases (ρ.i .i64 2) (ρ.i .i64 6)
    have c2 := cmp_cases (ρ.i .i64 1) (ρ.i .i64 5)
    have c3 := cmp_cases (ρ.i .i64 3) (ρ.i .i64 7)
    have c4 := cmp_cases (ρ.i .i64 4) (ρ.i .i64 8)
    unfold ordN
    repeat' split
  all_goals omega
theorem told_order : Sx.Told sit.Φ cOrder := told_vw (cs := [cCmp, cCmp64]) (all_cons told_cmp (all_cons told_cmp64 (all_nil))) 4000 vworder (by kernel_rfl) (by kernel_rfl) (by kernel_rfl) (post_nil rfl) (by kernel_rfl) (by kernel_rfl) (all_cons vcorder_0 (all_cons vcorder_1 (all_cons vcorder_2 (all_cons vcorder_3 (all_cons vcorder_4 (all_nil))))))
noncomputable section
abbrev TTrorder : Tab := T sit.Φ cRefOrder.roms []
def pcrorder_0 : List BE := [(BE.lit true)]
def pcrorder_1 : List BE := ((BE.le (IE.var .i64 6) (IE.var .i64 2)) :: pcrorder_0)
def pcrorder_2 : List BE := ((BE.le (IE.var .i64 2) (IE.var .i64 6)) :: pcrorder_1)
def pcrorder_3 : List BE := ((BE.le (IE.var .i64 5) (IE.var .i64 1)) :: pcrorder_2)
def pcrorder_4 : List BE := ((BE.le (IE.var .i64 1) (IE.var .i64 5)) :: pcrorder_3)
def pcrorder_5 : List BE := ((BE.le (IE.var .i64 7) (IE.var .i64 3)) :: pcrorder_4)
def pcrorder_6 : List BE := ((BE.le (IE.var .i64 3) (IE.var .i64 7)) :: pcrorder_5)
def pcrorder_7 : List BE := ((BE.le (IE.var .i64 8) (IE.var .i64 4)) :: pcrorder_6)
def wrorder_0 : VW := (VW.done ((BE.le (IE.var .i64 4) (IE.var .i64 8)) :: pcrorder_7) (some [(G.i (IE.fn .i64 3 (AL.int .i64 (IE.var .i64 1) (AL.int .i64 (IE.var .i64 2) (AL.int .i64 (IE.var .i64 3) (AL.int .i64 (IE.var .i64 4) (AL.int .i64 (IE.var .i64 5) (AL.int .i64 (IE.var .i64 6) (AL.int .i64 (IE.var .i64 7) (AL.int .i64 (IE.var .i64 8) AL.nil))))))))) (IE.lit 0))]))
def wrorder_1 : VW := (VW.done ((BE.not (BE.le (IE.var .i64 4) (IE.var .i64 8))) :: pcrorder_7) (some [(G.i (IE.fn .i64 3 (AL.int .i64 (IE.var .i64 1) (AL.int .i64 (IE.var .i64 2) (AL.int .i64 (IE.var .i64 3) (AL.int .i64 (IE.var .i64 4) (AL.int .i64 (IE.var .i64 5) (AL.int .i64 (IE.var .i64 6) (AL.int .i64 (IE.var .i64 7) (AL.int .i64 (IE.var .i64 8) AL.nil))))))))) (IE.lit 1))]))
def wrorder_2 : VW := (VW.done ((BE.not (BE.le (IE.var .i64 8) (IE.var .i64 4))) :: pcrorder_6) (some [(G.i (IE.fn .i64 3 (AL.int .i64 (IE.var .i64 1) (AL.int .i64 (IE.var .i64 2) (AL.int .i64 (IE.var .i64 3) (AL.int .i64 (IE.var .i64 4) (AL.int .i64 (IE.var .i64 5) (AL.int .i64 (IE.var .i64 6) (AL.int .i64 (IE.var .i64 7) (AL.int .i64 (IE.var .i64 8) AL.nil))))))))) (IE.lit (-1)))]))
def wrorder_3 : VW := (VW.done ((BE.not (BE.le (IE.var .i64 3) (IE.var .i64 7))) :: pcrorder_5) (some [(G.i (IE.fn .i64 3 (AL.int .i64 (IE.var .i64 1) (AL.int .i64 (IE.var .i64 2) (AL.int .i64 (IE.var .i64 3) (AL.int .i64 (IE.var .i64 4) (AL.int .i64 (IE.var .i64 5) (AL.int .i64 (IE.var .i64 6) (AL.int .i64 (IE.var .i64 7) (AL.int .i64 (IE.var .i64 8) AL.nil))))))))) (IE.lit 1))]))
def wrorder_4 : VW := (VW.done ((BE.not (BE.le (IE.var .i64 7) (IE.var .i64 3))) :: pcrorder_4) (some [(G.i (IE.fn .i64 3 (AL.int .i64 (IE.var .i64 1) (AL.int .i64 (IE.var .i64 2) (AL.int .i64 (IE.var .i64 3) (AL.int .i64 (IE.var .i64 4) (AL.int .i64 (IE.var .i64 5) (AL.int .i64 (IE.var .i64 6) (AL.int .i64 (IE.var .i64 7) (AL.int .i64 (IE.var .i64 8) AL.nil))))))))) (IE.lit (-1)))]))
def wrorder_5 : VW := (VW.done ((BE.not (BE.le (IE.var .i64 1) (IE.var .i64 5))) :: pcrorder_3) (some [(G.i (IE.fn .i64 3 (AL.int .i64 (IE.var .i64 1) (AL.int .i64 (IE.var .i64 2) (AL.int .i64 (IE.var .i64 3) (AL.int .i64 (IE.var .i64 4) (AL.int .i64 (IE.var .i64 5) (AL.int .i64 (IE.var .i64 6) (AL.int .i64 (IE.var .i64 7) (AL.int .i64 (IE.var .i64 8) AL.nil))))))))) (IE.lit 1))]))
def wrorder_6 : VW := (VW.done ((BE.not (BE.le (IE.var .i64 5) (IE.var .i64 1))) :: pcrorder_2) (some [(G.i (IE.fn .i64 3 (AL.int .i64 (IE.var .i64 1) (AL.int .i64 (IE.var .i64 2) (AL.int .i64 (IE.var .i64 3) (AL.int .i64 (IE.var .i64 4) (AL.int .i64 (IE.var .i64 5) (AL.int .i64 (IE.var .i64 6) (AL.int .i64 (IE.var .i64 7) (AL.int .i64 (IE.var .i64 8) AL.nil))))))))) (IE.lit (-1)))]))
def wrorder_7 : VW := (VW.done ((BE.not (BE.le (IE.var .i64 2) (IE.var .i64 6))) :: pcrorder_1) (some [(G.i (IE.fn .i64 3 (AL.int .i64 (IE.var .i64 1) (AL.int .i64 (IE.var .i64 2) (AL.int .i64 (IE.var .i64 3) (AL.int .i64 (IE.var .i64 4) (AL.int .i64 (IE.var .i64 5) (AL.int .i64 (IE.var .i64 6) (AL.int .i64 (IE.var .i64 7) (AL.int .i64 (IE.var .i64 8) AL.nil))))))))) (IE.lit 1))]))
def wrorder_8 : VW := (VW.done ((BE.not (BE.le (IE.var .i64 6) (IE.var .i64 2))) :: pcrorder_0) (some [(G.i (IE.fn .i64 3 (AL.int .i64 (IE.var .i64 1) (AL.int .i64 (IE.var .i64 2) (AL.int .i64 (IE.var .i64 3) (AL.int .i64 (IE.var .i64 4) (AL.int .i64 (IE.var .i64 5) (AL.int .i64 (IE.var .i64 6) (AL.int .i64 (IE.var .i64 7) (AL.int .i64 (IE.var .i64 8) AL.nil))))))))) (IE.lit (-1)))]))
def vwrorder : List VW := [wrorder_0, wrorder_1, wrorder_2, wrorder_3, wrorder_4, wrorder_5, wrorder_6, wrorder_7, wrorder_8]
end
theorem vcrorder_0 : VD TTrorder (st0 cRefOrder) wrorder_0 := by
  intro ρ kn hp
  have hF : ρ.z.F = sit.Φ := kn.F
  simp only [h_nil, h_cons, d_le, d_eq, d_not, d_var, d_lit, d_cel, d_leq, d_fn, d_and, d_iff, IE.den, LE.den, AL.den, lenV, true_and, and_true, pcrorder_7, pcrorder_6, pcrorder_5, pcrorder_4, pcrorder_3, pcrorder_2, pcrorder_1, pcrorder_0, hF, pb2, pi1, pi3] at hp
  obtain ⟨p1, p2, p3, p4, p5, p6, p7, p8⟩ := hp
  refine all_cons (show (clampK .i64 (ρ.z.F.i 3 [.int .i64 (ρ.i .i64 1), .int .i64 (ρ.i .i64 2), .int .i64 (ρ.i .i64 3), .int .i64 (ρ.i .i64 4), .int .i64 (ρ.i .i64 5), .int .i64 (ρ.i .i64 6), .int .i64 (ρ.i .i64 7), .int .i64 (ρ.i .i64 8)])) = (0 : Int) from ?_) (all_nil)
  all_goals try simp only [hF, pb2, pi1, pi3]
  all_goals
    simp only [clampC, clampO] at *
    have c1 := cmp_cases (ρ.i .i64 2) (ρ.i .i64 6)
    have c2 := cmp_cases (ρ.i .i64 1) (ρ.i .i64 5)
    have c3 := cmp_cases (ρ.i .i64 3) (ρ.i .i64 7)
    have c4 := cmp_cases (ρ.i .i64 4) (ρ.i .i64 8)
    unfold ordN
    repeat' split
  all_goals omega
theorem vcrorder_1 : VD TTrorder (st0 cRefOrder) wrorder_1 := by
  intro ρ kn hp
  have hF : ρ.z.F = sit.Φ := kn.F
  simp only [h_nil, h_cons, d_le, d_eq, d_not, d_var, d_lit, d_cel, d_leq, d_fn, d_and, d_iff, IE.den, LE.den, AL.den, lenV, true_and, and_true, pcrorder_7, pcrorder_6, pcrorder_5, pcrorder_4, pcrorder_3, pcrorder_2, pcrorder_1, pcrorder_0, hF, pb2, pi1, pi3] at hp
  obtain ⟨p1, p2, p3, p4, p5, p6, p7, p8⟩ := hp
  refine all_cons (show (clampK .i64 (ρ.z.F.i 3 [.int .i64 (ρ.i .i64 1), .int .i64 (ρ.i .i64 2), .int .i64 (ρ.i .i64 3), .int .i64 (ρ.i .i64 4), .int .i64 (ρ.i .i64 5), .int .i64 (ρ.i .i64 6), .int .i64 (ρ.i .i64 7), .int .i64 (ρ.i .i64 8)])) = (1 : Int) from ?_) (all_nil)
  all_goals try simp only [hF, pb2, pi1, pi3]
  all_goals
    simp only [clampC, clampO] at *
    have c1 := cmp_cases (ρ.i .i64 2) (ρ.i .i64 6)
    have c2 := cmp_cases (ρ.i .i64 1) (ρ.i .i64 5)
    have c3 := cmp_cases (ρ.i .i64 3) (ρ.i .i64 7)
    have c4 := cmp_cases (ρ.i .i64 4) (ρ.i .i64 8)
    unfold ordN
    repeat' split
  all_goals omega
theorem vcrorder_2 : VD TTrorder (st0 cRefOrder) wrorder_2 := by
  intro ρ kn hp
  have hF : ρ.z.F = sit.Φ := kn.F
  simp only [h_nil, h_cons, d_le, d_eq, d_not, d_var, d_lit, d_cel, d_leq, d_fn, d_and, d_iff, IE.den, LE.den, AL.den, lenV, true_and, and_true, pcrorder_6, pcrorder_5, pcrorder_4, pcrorder_3, pcrorder_2, pcrorder_1, pcrorder_0, hF, pb2, pi1, pi3] at hp
  obtain ⟨p1, p2, p3, p4, p5, p6, p7⟩ := hp
  refine all_cons (show (clampK .i64 (ρ.z.F.i 3 [.int .i64 (ρ.i .i64 1), .int .i64 (ρ.i .i64 2), .int .i64 (ρ.i .i64 3), .int .i64 (ρ.i .i64 4), .int .i64 (ρ.i .i64 5), .int .i64 (ρ.i .i64 6), .int .i64 (ρ.i .i64 7), .int .i64 (ρ.i .i64 8)])) = (-1 : Int) from ?_) (all_nil)
  all_goals try simp only [hF, pb2, pi1, pi3]
  all_goals
    simp only [clampC, clampO] at *
    have c1 := cmp_cases (ρ.i .i64 2) (ρ.i .i64 6)
    have c2 := cmp_cases (ρ.i .i64 1) (ρ.i .i64 5)
    have c3 := cmp_cases (ρ.i .i64 3) (ρ.i .i64 7)
    have c4 := cmp_cases (ρ.i .i64 4) (ρ.i .i64 8)
    unfold ordN
    repeat' split
  all_goals omega
theorem vcrorder_3 : VD TTrorder (st0 cRefOrder) wrorder_3 := by
  intro ρ kn hp
  have hF : ρ.z.F = sit.Φ := kn.F
  simp only [h_nil, h_cons, d_le, d_eq, d_not, d_var, d_lit, d_cel, d_leq, d_fn, d_and, d_iff, IE.den, LE.den, AL.den, lenV, true_and, and_true, pcrorder_5, pcrorder_4, pcrorder_3, pcrorder_2, pcrorder_1, pcrorder_0, hF, pb2, pi1, pi3] at hp
  obtain ⟨p1, p2, p3, p4, p5, p6⟩ := hp
  refine all_cons (show (clampK .i64 (ρ.z.F.i 3 [.int .i64 (ρ.i .i64 1), .int .i64 (ρ.i .i64 2), .int .i64 (ρ.i .i64 3), .int .i64 (ρ.i .i64 4), .int .i64 (ρ.i .i64 5), .int .i64 (ρ.i .i64 6), .int .i64 (ρ.i .i64 7), .int .i64 (ρ.i .i64 8)])) = (1 : Int) from ?_) (all_nil)
  all_goals try simp only [hF, pb2, pi1, pi3]
  all_goals
    simp only [clampC, clampO] at *
    have c1 := cmp_cases (ρ.i .i64 2) (ρ.i .i64 6)
    have c2 := cmp_cases (ρ.i .i64 1) (ρ.i .i64 5)
    have c3 := cmp_cases (ρ.i .i64 3) (ρ.i .i64 7)
    have c4 := cmp_cases (ρ.i .i64 4) (ρ.i .i64 8)
    unfold ordN
    repeat' split
  all_goals omega
theorem vcrorder_4 : VD TTrorder (st0 cRefOrder) wrorder_4 := by
  intro ρ kn hp
  have hF : ρ.z.F = sit.Φ := kn.F
  simp only [h_nil, h_cons, d_le, d_eq, d_not, d_var, d_lit, d_cel, d_leq, d_fn, d_and, d_iff, IE.den, LE.den, AL.den, lenV, true_and, and_true, pcrorder_4, pcrorder_3, pcrorder_2, pcrorder_1, pcrorder_0, hF, pb2, pi1, pi3] at hp
  obtain ⟨p1, p2, p3, p4, p5⟩ := hp
  refine all_cons (show (clampK .i64 (ρ.z.F.i 3 [.int .i64 (ρ.i .i64 1), .int .i64 (ρ.i .i64 2), .int .i64 (ρ.i .i64 3), .int .i64 (ρ.i .i64 4), .int .i64 (ρ.i .i64 5), .int .i64 (ρ.i .i64 6), .int .i64 (ρ.i .i64 7), .int .i64 (ρ.i .i64 8)])) = (-1 : Int) from ?_) (all_nil)
  all_goals try simp only [hF, pb2, pi1, pi3]
  all_goals
    simp only [clampC, clampO] at *
    have c1 := cmp_cases (ρ.i .i64 2) (ρ.i .i64 6)
    have c2 := cmp_cases (ρ.i .i64 1) (ρ.i .i64 5)
    have c3 := cmp_cases (ρ.i .i64 3) (ρ.i .i64 7)
    have c4 := cmp_cases (ρ.i .i64 4) (ρ.i .i64 8)
    unfold ordN
    repeat' split
  all_goals omega
theorem vcrorder_5 : VD TTrorder (st0 cRefOrder) wrorder_5 := by
  intro ρ kn hp
  have hF : ρ.z.F = sit.Φ := kn.F
  simp only [h_nil, h_cons, d_le, d_eq, d_not, d_var, d_lit, d_cel, d_leq, d_fn, d_and, d_iff, IE.den, LE.den, AL.den, lenV, true_and, and_true, pcrorder_3, pcrorder_2, pcrorder_1, pcrorder_0, hF, pb2, pi1, pi3] at hp
  obtain ⟨p1, p2, p3, p4⟩ := hp
  refine all_cons (show (clampK .i64 (ρ.z.F.i 3 [.int .i64 (ρ.i .i64 1), .int .i64 (ρ.i .i64 2), .int .i64 (ρ.i .i64 3), .int .i64 (ρ.i .i64 4), .int .i64 (ρ.i .i64 5), .int .i64 (ρ.i .i64 6), .int .i64 (ρ.i .i64 7), .int .i64 (ρ.i .i64 8)])) = (1 : Int) from ?_) (all_nil)
  all_goals try simp only [hF, pb2, pi1, pi3]
  all_goals
    simp only [clampC, clampO] at *
    have c1 := cmp_cases (ρ.i .i64 2) (ρ.i .i64 6)
    have c2 := cmp_cases (ρ.i .i64 1) (ρ.i .i64 5)
    have c3 := cmp_cases (ρ.i .i64 3) (ρ.i .i64 7)
    have c4 := cmp_cases (ρ.i .i64 4) (ρ.i .i64 8)
    unfold ordN
    repeat' split
  all_goals omega
theorem vcrorder_6 : VD TTrorder (st0 cRefOrder) wrorder_6 := by
  intro ρ kn hp
  have hF : ρ.z.F = sit.Φ := kn.F
  simp only [h_nil, h_cons, d_le, d_eq, d_not, d_var, d_lit, d_cel, d_leq, d_fn, d_and, d_iff, IE.den, LE.den, AL.den, lenV, true_and, and_true, pcrorder_2, pcrorder_1, pcrorder_0, hF, pb2, pi1, pi3] at hp
  obtain ⟨p1, p2, p3⟩ := hp
  refine all_cons (show (clampK .i64 (ρ.z.F.i 3 [.int .i64 (ρ.i .i64 1), .int .i64 (ρ.i .i64 2), .int .i64 (ρ.i .i64 3), .int .i64 (ρ.i .i64 4), .int .i64 (ρ.i .i64 5), .int .i64 (ρ.i .i64 6), .int .i64 (ρ.i .i64 7), .int .i64 (ρ.i .i64 8)])) = (-1 : Int) from ?_) (all_nil)
  all_goals try simp only [hF, pb2, pi1, pi3]
  all_goals
    simp only [clampC, clampO] at *
    have c1 := cmp_cases (ρ.i .i64 2) (ρ.i .i64 6)
    have c2 := cmp_cases (ρ.i .i64 1) (ρ.i .i64 5)
    have c3 := cmp_cases (ρ.i .i64 3) (ρ.i .i64 7)
    have c4 := cmp_cases (ρ.i .i64 4) (ρ.i .i64 8)
    unfold ordN
    repeat' split
  all_goals omega
theorem vcrorder_7 : VD TTrorder (st0 cRefOrder) wrorder_7 := by
  intro ρ kn hp
  have hF : ρ.z.F = sit.Φ := kn.F
  simp only [h_nil, h_cons, d_le, d_eq, d_not, d_var, d_lit, d_cel, d_leq, d_fn, d_and, d_iff, IE.den, LE.den, AL.den, lenV, true_and, and_true, pcrorder_1, pcrorder_0, hF, pb2, pi1, pi3] at hp
  obtain ⟨p1, p2⟩ := hp
  refine all_cons (show (clampK .i64 (ρ.z.F.i 3 [.int .i64 (ρ.i .i64 1), .int .i64 (ρ.i .i64 2), .int .i64 (ρ.i .i64 3), .int .i64 (ρ.i .i64 4), .int .i64 (ρ.i .i64 5), .int .i64 (ρ.i .i64 6), .int .i64 (ρ.i .i64 7), .int .i64 (ρ.i .i64 8)])) = (1 : Int) from ?_) (all_nil)
  all_goals try simp only [hF, pb2, pi1, pi3]
  all_goals
    simp only [clampC, clampO] at *
    have c1 := cmp_cases (ρ.i .i64 2) (ρ.i .i64 6)
    have c2 := cmp_cases (ρ.i .i64 1) (ρ.i .i64 5)
    have c3 := cmp_cases (ρ.i .i64 3) (ρ.i .i64 7)
    have c4 := cmp_cases (ρ.i .i64 4) (ρ.i .i64 8)
    unfold ordN
    repeat' split
  all_goals omega
theorem vcrorder_8 : VD TTrorder (st0 cRefOrder) wrorder_8 := by
  intro ρ kn hp
  have hF : ρ.z.F = sit.Φ := kn.F
  simp only [h_nil, h_cons, d_le, d_eq, d_not, d_var, d_lit, d_cel, d_leq, d_fn, d_and, d_iff, IE.den, LE.den, AL.den, lenV, true_and, and_true, pcrorder_0, hF, pb2, pi1, pi3] at hp
  have p1 := hp
  refine all_cons (show (clampK .i64 (ρ.z.F.i 3 [.int .i64 (ρ.i .i64 1), .int .i64 (ρ.i .i64 2), .int .i64 (ρ.i .i64 3), .int .i64 (ρ.i .i64 4), .int .i64 (ρ.i .i64 5), .int .i64 (ρ.i .i64 6), .int .i64 (ρ.i .i64 7), .int .i64 (ρ.i .i64 8)])) = (-1 : Int) from ?_) (all_nil)
  all_goals try simp only [hF, pb2, pi1, pi3]
  all_goals
    simp only [clampC, clampO] at *
    have c1 := cmp_cases (ρ.i .i64 2) (ρ.i .i64 6)
    have c2 := cmp_cases (ρ.i .i64 1) (ρ.i .i64 5)
    have c3 := cmp_cases (ρ.i .i64 3) (ρ.i .i64 7)
    have c4 := cmp_cases (ρ.i .i64 4) (ρ.i .i64 8)
    unfold ordN
    repeat' split
  all_goals omega
theorem told_rorder : Sx.Told sit.Φ cRefOrder := told_vw (cs := []) (all_nil) 6000 vwrorder (by kernel_rfl) (by kernel_rfl) (by kernel_rfl) (post_nil rfl) (by kernel_rfl) (by kernel_rfl) (all_cons vcrorder_0 (all_cons vcrorder_1 (all_cons vcrorder_2 (all_cons vcrorder_3 (all_cons vcrorder_4 (all_cons vcrorder_5 (all_cons vcrorder_6 (all_cons vcrorder_7 (all_cons vcrorder_8 (all_nil))))))))))
end Go.Proofs.YtdfgidogiacmnaaDoor.sit
