/- Layer wait: queues, told. No condition. -/
import Derived.Test.YteblnjgghbclpaaDoorWb
set_option linter.unusedVariables false
set_option linter.unusedSimpArgs false
set_option linter.deprecated false
namespace Go.Proofs.YteblnjgghbclpaaDoor.wt
open Go Go.Proofs.YteblnjgghbclpaaDoor.Sx
noncomputable section
abbrev TTfits03 : Tab := T wt.Φ cFits03.roms []
def pcfits03_0 : List BE := [(BE.lit true)]
def pcfits03_1 : List BE := ((BE.not (BE.eq (IE.var .i64 1) (IE.lit 0))) :: pcfits03_0)
def pcfits03_2 : List BE := ((BE.not (BE.eq (IE.var .i64 2) (IE.lit 0))) :: pcfits03_1)
def pcfits03_3 : List BE := ((BE.not (BE.eq (IE.var .i64 1) (IE.lit 5))) :: pcfits03_2)
def pcfits03_4 : List BE := ((BE.not (BE.eq (IE.var .i64 2) (IE.lit 5))) :: pcfits03_3)
def pcfits03_5 : List BE := ((BE.not (BE.eq (IE.var .i64 1) (IE.lit 1))) :: pcfits03_4)
def pcfits03_6 : List BE := ((BE.not (BE.eq (IE.var .i64 2) (IE.lit 1))) :: pcfits03_5)
def wfits03_0 : VW := (VW.done ((BE.eq (IE.var .i64 1) (IE.lit 0)) :: pcfits03_0) (some [(G.b (BE.fn 1 (AL.int .i64 (IE.var .i64 1) (AL.int .i64 (IE.var .i64 2) AL.nil))) (BE.lit true))]))
def wfits03_1 : VW := (VW.done ((BE.eq (IE.var .i64 2) (IE.lit 0)) :: pcfits03_1) (some [(G.b (BE.fn 1 (AL.int .i64 (IE.var .i64 1) (AL.int .i64 (IE.var .i64 2) AL.nil))) (BE.lit true))]))
def wfits03_2 : VW := (VW.done ((BE.eq (IE.var .i64 1) (IE.lit 5)) :: pcfits03_2) (some [(G.b (BE.fn 1 (AL.int .i64 (IE.var .i64 1) (AL.int .i64 (IE.var .i64 2) AL.nil))) (BE.lit false))]))
def wfits03_3 : VW := (VW.done ((BE.eq (IE.var .i64 2) (IE.lit 5)) :: pcfits03_3) (some [(G.b (BE.fn 1 (AL.int .i64 (IE.var .i64 1) (AL.int .i64 (IE.var .i64 2) AL.nil))) (BE.lit false))]))
def wfits03_4 : VW := (VW.done ((BE.eq (IE.var .i64 1) (IE.lit 1)) :: pcfits03_4) (some [(G.b (BE.fn 1 (AL.int .i64 (IE.var .i64 1) (AL.int .i64 (IE.var .i64 2) AL.nil))) (BE.lit true))]))
def wfits03_5 : VW := (VW.done ((BE.eq (IE.var .i64 2) (IE.lit 1)) :: pcfits03_5) (some [(G.b (BE.fn 1 (AL.int .i64 (IE.var .i64 1) (AL.int .i64 (IE.var .i64 2) AL.nil))) (BE.lit true))]))
def wfits03_6 : VW := (VW.done ((BE.eq (IE.var .i64 1) (IE.var .i64 2)) :: pcfits03_6) (some [(G.b (BE.fn 1 (AL.int .i64 (IE.var .i64 1) (AL.int .i64 (IE.var .i64 2) AL.nil))) (BE.not (BE.eq (IE.var .i64 1) (IE.lit 4))))]))
def wfits03_7 : VW := (VW.done ((BE.not (BE.eq (IE.var .i64 1) (IE.var .i64 2))) :: pcfits03_6) (some [(G.b (BE.fn 1 (AL.int .i64 (IE.var .i64 1) (AL.int .i64 (IE.var .i64 2) AL.nil))) (BE.lit false))]))
def vwfits03 : List VW := [wfits03_0, wfits03_1, wfits03_2, wfits03_3, wfits03_4, wfits03_5, wfits03_6, wfits03_7]
end
theorem vcfits03_0 : VD TTfits03 (st0 cFits03) wfits03_0 := by
  intro ρ kn hp
  have hF : ρ.z.F = wt.Φ := kn.F
  simp only [h_nil, h_cons, d_le, d_eq, d_not, d_var, d_lit, d_cel, d_leq, d_fn, d_and, d_iff, IE.den, LE.den, AL.den, lenV, true_and, and_true, pcfits03_0, hF, pi2, pi5, pi6, pi7, pb1, pb2, pb4, pl4, pl6, pl8] at hp
  have p1 := hp
  refine all_cons (show (ρ.z.F.b 1 [.int .i64 (ρ.i .i64 1), .int .i64 (ρ.i .i64 2)]) = true from ?_) (all_nil)
  all_goals try simp only [hF, pi2, pi5, pi6, pi7, pb1, pb2, pb4, pl4, pl6, pl8]
  all_goals first | omega | skip
  all_goals
    apply beq_of
    simp only [fits_iff, may_iff, decide_eq_true_eq, Bool.and_eq_true, Bool.not_eq_true', Bool.false_eq_true, true_iff, iff_true, false_iff, iff_false, decide_eq_false_iff_not] at *
    omega
theorem vcfits03_1 : VD TTfits03 (st0 cFits03) wfits03_1 := by
  intro ρ kn hp
  have hF : ρ.z.F = wt.Φ := kn.F
  simp only [h_nil, h_cons, d_le, d_eq, d_not, d_var, d_lit, d_cel, d_leq, d_fn, d_and, d_iff, IE.den, LE.den, AL.den, lenV, true_and, and_true, pcfits03_1, pcfits03_0, hF, pi2, pi5, pi6, pi7, pb1, pb2, pb4, pl4, pl6, pl8] at hp
  obtain ⟨p1, p2⟩ := hp
  refine all_cons (show (ρ.z.F.b 1 [.int .i64 (ρ.i .i64 1), .int .i64 (ρ.i .i64 2)]) = true from ?_) (all_nil)
  all_goals try simp only [hF, pi2, pi5, pi6, pi7, pb1, pb2, pb4, pl4, pl6, pl8]
  all_goals first | omega | skip
  all_goals
    apply beq_of
    simp only [fits_iff, may_iff, decide_eq_true_eq, Bool.and_eq_true, Bool.not_eq_true', Bool.false_eq_true, true_iff, iff_true, false_iff, iff_false, decide_eq_false_iff_not] at *
    omega
theorem vcfits03_2 : VD TTfits03 (st0 cFits03) wfits03_2 := by
  intro ρ kn hp
  have hF : ρ.z.F = wt.Φ := kn.F
  simp only [h_nil, h_cons, d_le, d_eq, d_not, d_var, d_lit, d_cel, d_leq, d_fn, d_and, d_iff, IE.den, LE.den, AL.den, lenV, true_and, and_true, pcfits03_2, pcfits03_1, pcfits03_0, hF, pi2, pi5, pi6, pi7, pb1, pb2, pb4, pl4, pl6, pl8] at hp
  obtain ⟨p1, p2, p3⟩ := hp
  refine all_cons (show (ρ.z.F.b 1 [.int .i64 (ρ.i .i64 1), .int .i64 (ρ.i .i64 2)]) = false from ?_) (all_nil)
  all_goals try simp only [hF, pi2, pi5, pi6, pi7, pb1, pb2, pb4, pl4, pl6, pl8]
  all_goals first | omega | skip
  all_goals
    apply beq_of
    simp only [fits_iff, may_iff, decide_eq_true_eq, Bool.and_eq_true, Bool.not_eq_true', Bool.false_eq_true, true_iff, iff_true, false_iff, iff_false, decide_eq_false_iff_not] at *
    omega
theorem vcfits03_3 : VD TTfits03 (st0 cFits03) wfits03_3 := by
  intro ρ kn hp
  have hF : ρ.z.F = wt.Φ := kn.F
  simp only [h_nil, h_cons, d_le, d_eq, d_not, d_var, d_lit, d_cel, d_leq, d_fn, d_and, d_iff, IE.den, LE.den, AL.den, lenV, true_and, and_true, pcfits03_3, pcfits03_2, pcfits03_1, pcfits03_0, hF, pi2, pi5, pi6, pi7, pb1, pb2, pb4, pl4, pl6, pl8] at hp
  obtain ⟨p1, p2, p3, p4⟩ := hp
  refine all_cons (show (ρ.z.F.b 1 [.int .i64 (ρ.i .i64 1), .int .i64 (ρ.i .i64 2)]) = false from ?_) (all_nil)
  all_goals try simp only [hF, pi2, pi5, pi6, pi7, pb1, pb2, pb4, pl4, pl6, pl8]
  all_goals first | omega | skip
  all_goals
    apply beq_of
    simp only [fits_iff, may_iff, decide_eq_true_eq, Bool.and_eq_true, Bool.not_eq_true', Bool.false_eq_true, true_iff, iff_true, false_iff, iff_false, decide_eq_false_iff_not] at *
    omega
theorem vcfits03_4 : VD TTfits03 (st0 cFits03) wfits03_4 := by
  intro ρ kn hp
  have hF : ρ.z.F = wt.Φ := kn.F
  simp only [h_nil, h_cons, d_le, d_eq, d_not, d_var, d_lit, d_cel, d_leq, d_fn, d_and, d_iff, IE.den, LE.den, AL.den, lenV, true_and, and_true, pcfits03_4, pcfits03_3, pcfits03_2, pcfits03_1, pcfits03_0, hF, pi2, pi5, pi6, pi7, pb1, pb2, pb4, pl4, pl6, pl8] at hp
  obtain ⟨p1, p2, p3, p4, p5⟩ := hp
  refine all_cons (show (ρ.z.F.b 1 [.int .i64 (ρ.i .i64 1), .int .i64 (ρ.i .i64 2)]) = true from ?_) (all_nil)
  all_goals try simp only [hF, pi2, pi5, pi6, pi7, pb1, pb2, pb4, pl4, pl6, pl8]
  all_goals first | omega | skip
  all_goals
    apply beq_of
    simp only [fits_iff, may_iff, decide_eq_true_eq, Bool.and_eq_true, Bool.not_eq_true', Bool.false_eq_true, true_iff, iff_true, false_iff, iff_false, decide_eq_false_iff_not] at *
    omega
theorem vcfits03_5 : VD TTfits03 (st0 cFits03) wfits03_5 := by
  intro ρ kn hp
  have hF : ρ.z.F = wt.Φ := kn.F
  simp only [h_nil, h_cons, d_le, d_eq, d_not, d_var, d_lit, d_cel, d_leq, d_fn, d_and, d_iff, IE.den, LE.den, AL.den, lenV, true_and, and_true, pcfits03_5, pcfits03_4, pcfits03_3, pcfits03_2, pcfits03_1, pcfits03_0, hF, pi2, pi5, pi6, pi7, pb1, pb2, pb4, pl4, pl6, pl8] at hp
  obtain ⟨p1, p2, p3, p4, p5, p6⟩ := hp
  refine all_cons (show (ρ.z.F.b 1 [.int .i64 (ρ.i .i64 1), .int .i64 (ρ.i .i64 2)]) = true from ?_) (all_nil)
  all_goals try simp only [hF, pi2, pi5, pi6, pi7, pb1, pb2, pb4, pl4, pl6, pl8]
  all_goals first | omega | skip
  all_goals
    apply beq_of
    simp only [fits_iff, may_iff, decide_eq_true_eq, Bool.and_eq_true, Bool.not_eq_true', Bool.false_eq_true, true_iff, iff_true, false_iff, iff_false, decide_eq_false_iff_not] at *
    omega
theorem vcfits03_6 : VD TTfits03 (st0 cFits03) wfits03_6 := by
  intro ρ kn hp
  have hF : ρ.z.F = wt.Φ := kn.F
  simp only [h_nil, h_cons, d_le, d_eq, d_not, d_var, d_lit, d_cel, d_leq, d_fn, d_and, d_iff, IE.den, LE.den, AL.den, lenV, true_and, and_true, pcfits03_6, pcfits03_5, pcfits03_4, pcfits03_3, pcfits03_2, pcfits03_1, pcfits03_0, hF, pi2, pi5, pi6, pi7, pb1, pb2, pb4, pl4, pl6, pl8] at hp
  obtain ⟨p1, p2, p3, p4, p5, p6, p7⟩ := hp
  refine all_cons (show (ρ.z.F.b 1 [.int .i64 (ρ.i .i64 1), .int .i64 (ρ.i .i64 2)]) = (!(decide ((ρ.i .i64 1) = (4 : Int)))) from ?_) (all_nil)
  all_goals try simp only [hF, pi2, pi5, pi6, pi7, pb1, pb2, pb4, pl4, pl6, pl8]
  all_goals first | omega | skip
  all_goals
    apply beq_of
    simp only [fits_iff, may_iff, decide_eq_true_eq, Bool.and_eq_true, Bool.not_eq_true', Bool.false_eq_true, true_iff, iff_true, false_iff, iff_false, decide_eq_false_iff_not] at *
    omega
theorem vcfits03_7 : VD TTfits03 (st0 cFits03) wfits03_7 := by
  intro ρ kn hp
  have hF : ρ.z.F = wt.Φ := kn.F
  simp only [h_nil, h_cons, d_le, d_eq, d_not, d_var, d_lit, d_cel, d_leq, d_fn, d_and, d_iff, IE.den, LE.den, AL.den, lenV, true_and, and_true, pcfits03_6, pcfits03_5, pcfits03_4, pcfits03_3, pcfits03_2, pcfits03_1, pcfits03_0, hF, pi2, pi5, pi6, pi7, pb1, pb2, pb4, pl4, pl6, pl8] at hp
  obtain ⟨p1, p2, p3, p4, p5, p6, p7⟩ := hp
  refine all_cons (show (ρ.z.F.b 1 [.int .i64 (ρ.i .i64 1), .int .i64 (ρ.i .i64 2)]) = false from ?_) (all_nil)
  all_goals try simp only [hF, pi2, pi5, pi6, pi7, pb1, pb2, pb4, pl4, pl6, pl8]
  all_goals first | omega | skip
  all_goals
    apply beq_of
    simp only [fits_iff, may_iff, decide_eq_true_eq, Bool.and_eq_true, Bool.not_eq_true', Bool.false_eq_true, true_iff, iff_true, false_iff, iff_false, decide_eq_false_iff_not] at *
    omega
theorem told_fits03 : Sx.Told wt.Φ cFits03 := told_vw (cs := []) (all_nil) 4000 vwfits03 (by kernel_rfl) (by kernel_rfl) (by kernel_rfl) (post_nil rfl) (by kernel_rfl) (by kernel_rfl) (all_cons vcfits03_0 (all_cons vcfits03_1 (all_cons vcfits03_2 (all_cons vcfits03_3 (all_cons vcfits03_4 (all_cons vcfits03_5 (all_cons vcfits03_6 (all_cons vcfits03_7 (all_nil)))))))))
theorem told_right03 : Sx.Told wt.Φ cRight03 := told_auto (cs := []) (all_nil) 4000 (by kernel_rfl) (by kernel_rfl) (by kernel_rfl) (post_nil rfl) (by kernel_rfl) (by kernel_rfl)
noncomputable section
abbrev TTmayR : Tab := T wt.Φ cMayR.roms [cRight03]
def pcmayR_0 : List BE := [(BE.lit true)]
def pcmayR_1 : List BE := ((BE.le (IE.lit 0) (IE.var .i64 1)) :: pcmayR_0)
def pcmayR_2 : List BE := ((BE.not (BE.le (IE.lit 256) (IE.var .i64 1))) :: pcmayR_1)
def pcmayR_3 : List BE := ((BE.le (IE.lit 1) (IE.var .i64 2)) :: pcmayR_2)
def pcmayR_4 : List BE := ((BE.le (IE.var .i64 2) (IE.lit 1099511627776)) :: pcmayR_3)
def pcmayR_5 : List BE := ((BE.not (BE.eq (IE.var .i64 3) (IE.lit 0))) :: pcmayR_4)
def pcmayR_6 : List BE := ((BE.le (IE.lit 0) (IE.var .i64 3)) :: pcmayR_5)
def pcmayR_7 : List BE := ((BE.le (IE.var .i64 3) (IE.lit 5)) :: pcmayR_6)
def pcmayR_8 : List BE := ((BE.le (IE.lit 0) (IE.var .i64 4)) :: pcmayR_7)
def pcmayR_9 : List BE := ((BE.le (IE.var .i64 4) (IE.lit 3)) :: pcmayR_8)
def wmayR_0 : VW := (VW.done ((BE.le (IE.lit 256) (IE.var .i64 1)) :: pcmayR_1) (some [(G.b (BE.fn 2 (AL.int .i64 (IE.var .i64 1) (AL.int .i64 (IE.var .i64 2) (AL.int .i64 (IE.var .i64 3) (AL.int .i64 (IE.var .i64 4) (AL.int .i64 (IE.var .i64 5) AL.nil)))))) (BE.lit false))]))
def wmayR_1 : VW := (VW.done ((BE.eq (IE.var .i64 3) (IE.lit 0)) :: pcmayR_4) (some [(G.b (BE.fn 2 (AL.int .i64 (IE.var .i64 1) (AL.int .i64 (IE.var .i64 2) (AL.int .i64 (IE.var .i64 3) (AL.int .i64 (IE.var .i64 4) (AL.int .i64 (IE.var .i64 5) AL.nil)))))) (BE.lit false))]))
def wmayR_2 : VW := (VW.done ((BE.le (IE.lit 0) (IE.var .i64 5)) :: pcmayR_9) (some [(G.b (BE.fn 2 (AL.int .i64 (IE.var .i64 1) (AL.int .i64 (IE.var .i64 2) (AL.int .i64 (IE.var .i64 3) (AL.int .i64 (IE.var .i64 4) (AL.int .i64 (IE.var .i64 5) AL.nil)))))) (BE.le (IE.var .i64 5) (IE.lit 64)))]))
def wmayR_3 : VW := (VW.done ((BE.not (BE.le (IE.lit 0) (IE.var .i64 5))) :: pcmayR_9) (some [(G.b (BE.fn 2 (AL.int .i64 (IE.var .i64 1) (AL.int .i64 (IE.var .i64 2) (AL.int .i64 (IE.var .i64 3) (AL.int .i64 (IE.var .i64 4) (AL.int .i64 (IE.var .i64 5) AL.nil)))))) (BE.lit false))]))
def wmayR_4 : VW := (VW.done ((BE.not (BE.le (IE.var .i64 4) (IE.lit 3))) :: pcmayR_8) (some [(G.b (BE.fn 2 (AL.int .i64 (IE.var .i64 1) (AL.int .i64 (IE.var .i64 2) (AL.int .i64 (IE.var .i64 3) (AL.int .i64 (IE.var .i64 4) (AL.int .i64 (IE.var .i64 5) AL.nil)))))) (BE.lit false))]))
def wmayR_5 : VW := (VW.done ((BE.not (BE.le (IE.lit 0) (IE.var .i64 4))) :: pcmayR_7) (some [(G.b (BE.fn 2 (AL.int .i64 (IE.var .i64 1) (AL.int .i64 (IE.var .i64 2) (AL.int .i64 (IE.var .i64 3) (AL.int .i64 (IE.var .i64 4) (AL.int .i64 (IE.var .i64 5) AL.nil)))))) (BE.lit false))]))
def wmayR_6 : VW := (VW.done ((BE.not (BE.le (IE.var .i64 3) (IE.lit 5))) :: pcmayR_6) (some [(G.b (BE.fn 2 (AL.int .i64 (IE.var .i64 1) (AL.int .i64 (IE.var .i64 2) (AL.int .i64 (IE.var .i64 3) (AL.int .i64 (IE.var .i64 4) (AL.int .i64 (IE.var .i64 5) AL.nil)))))) (BE.lit false))]))
def wmayR_7 : VW := (VW.done ((BE.not (BE.le (IE.lit 0) (IE.var .i64 3))) :: pcmayR_5) (some [(G.b (BE.fn 2 (AL.int .i64 (IE.var .i64 1) (AL.int .i64 (IE.var .i64 2) (AL.int .i64 (IE.var .i64 3) (AL.int .i64 (IE.var .i64 4) (AL.int .i64 (IE.var .i64 5) AL.nil)))))) (BE.lit false))]))
def wmayR_8 : VW := (VW.done ((BE.not (BE.le (IE.var .i64 2) (IE.lit 1099511627776))) :: pcmayR_3) (some [(G.b (BE.fn 2 (AL.int .i64 (IE.var .i64 1) (AL.int .i64 (IE.var .i64 2) (AL.int .i64 (IE.var .i64 3) (AL.int .i64 (IE.var .i64 4) (AL.int .i64 (IE.var .i64 5) AL.nil)))))) (BE.lit false))]))
def wmayR_9 : VW := (VW.done ((BE.not (BE.le (IE.lit 1) (IE.var .i64 2))) :: pcmayR_2) (some [(G.b (BE.fn 2 (AL.int .i64 (IE.var .i64 1) (AL.int .i64 (IE.var .i64 2) (AL.int .i64 (IE.var .i64 3) (AL.int .i64 (IE.var .i64 4) (AL.int .i64 (IE.var .i64 5) AL.nil)))))) (BE.lit false))]))
def wmayR_10 : VW := (VW.done ((BE.not (BE.le (IE.lit 0) (IE.var .i64 1))) :: pcmayR_0) (some [(G.b (BE.fn 2 (AL.int .i64 (IE.var .i64 1) (AL.int .i64 (IE.var .i64 2) (AL.int .i64 (IE.var .i64 3) (AL.int .i64 (IE.var .i64 4) (AL.int .i64 (IE.var .i64 5) AL.nil)))))) (BE.lit false))]))
def vwmayR : List VW := [wmayR_0, wmayR_1, wmayR_2, wmayR_3, wmayR_4, wmayR_5, wmayR_6, wmayR_7, wmayR_8, wmayR_9, wmayR_10]
end
theorem vcmayR_0 : VD TTmayR (st0 cMayR) wmayR_0 := by
  intro ρ kn hp
  have hF : ρ.z.F = wt.Φ := kn.F
  simp only [h_nil, h_cons, d_le, d_eq, d_not, d_var, d_lit, d_cel, d_leq, d_fn, d_and, d_iff, IE.den, LE.den, AL.den, lenV, true_and, and_true, pcmayR_1, pcmayR_0, hF, pi2, pi5, pi6, pi7, pb1, pb2, pb4, pl4, pl6, pl8] at hp
  obtain ⟨p1, p2⟩ := hp
  refine all_cons (show (ρ.z.F.b 2 [.int .i64 (ρ.i .i64 1), .int .i64 (ρ.i .i64 2), .int .i64 (ρ.i .i64 3), .int .i64 (ρ.i .i64 4), .int .i64 (ρ.i .i64 5)]) = false from ?_) (all_nil)
  all_goals try simp only [hF, pi2, pi5, pi6, pi7, pb1, pb2, pb4, pl4, pl6, pl8]
  all_goals first | omega | skip
  all_goals
    apply beq_of
    simp only [fits_iff, may_iff, decide_eq_true_eq, Bool.and_eq_true, Bool.not_eq_true', Bool.false_eq_true, true_iff, iff_true, false_iff, iff_false, decide_eq_false_iff_not] at *
    omega
theorem vcmayR_1 : VD TTmayR (st0 cMayR) wmayR_1 := by
  intro ρ kn hp
  have hF : ρ.z.F = wt.Φ := kn.F
  simp only [h_nil, h_cons, d_le, d_eq, d_not, d_var, d_lit, d_cel, d_leq, d_fn, d_and, d_iff, IE.den, LE.den, AL.den, lenV, true_and, and_true, pcmayR_4, pcmayR_3, pcmayR_2, pcmayR_1, pcmayR_0, hF, pi2, pi5, pi6, pi7, pb1, pb2, pb4, pl4, pl6, pl8] at hp
  obtain ⟨p1, p2, p3, p4, p5⟩ := hp
  refine all_cons (show (ρ.z.F.b 2 [.int .i64 (ρ.i .i64 1), .int .i64 (ρ.i .i64 2), .int .i64 (ρ.i .i64 3), .int .i64 (ρ.i .i64 4), .int .i64 (ρ.i .i64 5)]) = false from ?_) (all_nil)
  all_goals try simp only [hF, pi2, pi5, pi6, pi7, pb1, pb2, pb4, pl4, pl6, pl8]
  all_goals first | omega | skip
  all_goals
    apply beq_of
    simp only [fits_iff, may_iff, decide_eq_true_eq, Bool.and_eq_true, Bool.not_eq_true', Bool.false_eq_true, true_iff, iff_true, false_iff, iff_false, decide_eq_false_iff_not] at *
    omega
theorem vcmayR_2 : VD TTmayR (st0 cMayR) wmayR_2 := by
  intro ρ kn hp
  have hF : ρ.z.F = wt.Φ := kn.F
  simp only [h_nil, h_cons, d_le, d_eq, d_not, d_var, d_lit, d_cel, d_leq, d_fn, d_and, d_iff, IE.den, LE.den, AL.den, lenV, true_and, and_true, pcmayR_9, pcmayR_8, pcmayR_7, pcmayR_6, pcmayR_5, pcmayR_4, pcmayR_3, pcmayR_2, pcmayR_1, pcmayR_0, hF, pi2, pi5, pi6, pi7, pb1, pb2, pb4, pl4, pl6, pl8] at hp
  obtain ⟨p1, p2, p3, p4, p5, p6, p7, p8, p9, p10⟩ := hp
  refine all_cons (show (ρ.z.F.b 2 [.int .i64 (ρ.i .i64 1), .int .i64 (ρ.i .i64 2), .int .i64 (ρ.i .i64 3), .int .i64 (ρ.i .i64 4), .int .i64 (ρ.i .i64 5)]) = (decide ((ρ.i .i64 5) ≤ (64 : Int))) from ?_) (all_nil)
  all_goals try simp only [hF, pi2, pi5, pi6, pi7, pb1, pb2, pb4, pl4, pl6, pl8]
  all_goals first | omega | skip
  all_goals
    apply beq_of
    simp only [fits_iff, may_iff, decide_eq_true_eq, Bool.and_eq_true, Bool.not_eq_true', Bool.false_eq_true, true_iff, iff_true, false_iff, iff_false, decide_eq_false_iff_not] at *
    omega
theorem vcmayR_3 : VD TTmayR (st0 cMayR) wmayR_3 := by
  intro ρ kn hp
  have hF : ρ.z.F = wt.Φ := kn.F
  simp only [h_nil, h_cons, d_le, d_eq, d_not, d_var, d_lit, d_cel, d_leq, d_fn, d_and, d_iff, IE.den, LE.den, AL.den, lenV, true_and, and_true, pcmayR_9, pcmayR_8, pcmayR_7, pcmayR_6, pcmayR_5, pcmayR_4, pcmayR_3, pcmayR_2, pcmayR_1, pcmayR_0, hF, pi2, pi5, pi6, pi7, pb1, pb2, pb4, pl4, pl6, pl8] at hp
  obtain ⟨p1, p2, p3, p4, p5, p6, p7, p8, p9, p10⟩ := hp
  refine all_cons (show (ρ.z.F.b 2 [.int .i64 (ρ.i .i64 1), .int .i64 (ρ.i .i64 2), .int .i64 (ρ.i .i64 3), .int .i64 (ρ.i .i64 4), .int .i64 (ρ.i .i64 5)]) = false from ?_) (all_nil)
  all_goals try simp only [hF, pi2, pi5, pi6, pi7, pb1, pb2, pb4, pl4, pl6, pl8]
  all_goals first | omega | skip
  all_goals
    apply beq_of
    simp only [fits_iff, may_iff, decide_eq_true_eq, Bool.and_eq_true, Bool.not_eq_true', Bool.false_eq_true, true_iff, iff_true, false_iff, iff_false, decide_eq_false_iff_not] at *
    omega
theorem vcmayR_4 : VD TTmayR (st0 cMayR) wmayR_4 := by
  intro ρ kn hp
  have hF : ρ.z.F = wt.Φ := kn.F
  simp only [h_nil, h_cons, d_le, d_eq, d_not, d_var, d_lit, d_cel, d_leq, d_fn, d_and, d_iff, IE.den, LE.den, AL.den, lenV, true_and, and_true, pcmayR_8, pcmayR_7, pcmayR_6, pcmayR_5, pcmayR_4, pcmayR_3, pcmayR_2, pcmayR_1, pcmayR_0, hF, pi2, pi5, pi6, pi7, pb1, pb2, pb4, pl4, pl6, pl8] at hp
  obtain ⟨p1, p2, p3, p4, p5, p6, p7, p8, p9⟩ := hp
  refine all_cons (show (ρ.z.F.b 2 [.int .i64 (ρ.i .i64 1), .int .i64 (ρ.i .i64 2), .int .i64 (ρ.i .i64 3), .int .i64 (ρ.i .i64 4), .int .i64 (ρ.i .i64 5)]) = false from ?_) (all_nil)
  all_goals try simp only [hF, pi2, pi5, pi6, pi7, pb1, pb2, pb4, pl4, pl6, pl8]
  all_goals first | omega | skip
  all_goals
    apply beq_of
    simp only [fits_iff, may_iff, decide_eq_true_eq, Bool.and_eq_true, Bool.not_eq_true', Bool.false_eq_true, true_iff, iff_true, false_iff, iff_false, decide_eq_false_iff_not] at *
    omega
theorem vcmayR_5 : VD TTmayR (st0 cMayR) wmayR_5 := by
  intro ρ kn hp
  have hF : ρ.z.F = wt.Φ := kn.F
  simp only [h_nil, h_cons, d_le, d_eq, d_not, d_var, d_lit, d_cel, d_leq, d_fn, d_and, d_iff, IE.den, LE.den, AL.den, lenV, true_and, and_true, pcmayR_7, pcmayR_6, pcmayR_5, pcmayR_4, pcmayR_3, pcmayR_2, pcmayR_1, pcmayR_0, hF, pi2, pi5, pi6, pi7, pb1, pb2, pb4, pl4, pl6, pl8] at hp
  obtain ⟨p1, p2, p3, p4, p5, p6, p7, p8⟩ := hp
  refine all_cons (show (ρ.z.F.b 2 [.int .i64 (ρ.i .i64 1), .int .i64 (ρ.i .i64 2), .int .i64 (ρ.i .i64 3), .int .i64 (ρ.i .i64 4), .int .i64 (ρ.i .i64 5)]) = false from ?_) (all_nil)
  all_goals try simp only [hF, pi2, pi5, pi6, pi7, pb1, pb2, pb4, pl4, pl6, pl8]
  all_goals first | omega | skip
  all_goals
    apply beq_of
    simp only [fits_iff, may_iff, decide_eq_true_eq, Bool.and_eq_true, Bool.not_eq_true', Bool.false_eq_true, true_iff, iff_true, false_iff, iff_false, decide_eq_false_iff_not] at *
    omega
theorem vcmayR_6 : VD TTmayR (st0 cMayR) wmayR_6 := by
  intro ρ kn hp
  have hF : ρ.z.F = wt.Φ := kn.F
  simp only [h_nil, h_cons, d_le, d_eq, d_not, d_var, d_lit, d_cel, d_leq, d_fn, d_and, d_iff, IE.den, LE.den, AL.den, lenV, true_and, and_true, pcmayR_6, pcmayR_5, pcmayR_4, pcmayR_3, pcmayR_2, pcmayR_1, pcmayR_0, hF, pi2, pi5, pi6, pi7, pb1, pb2, pb4, pl4, pl6, pl8] at hp
  obtain ⟨p1, p2, p3, p4, p5, p6, p7⟩ := hp
  refine all_cons (show (ρ.z.F.b 2 [.int .i64 (ρ.i .i64 1), .int .i64 (ρ.i .i64 2), .int .i64 (ρ.i .i64 3), .int .i64 (ρ.i .i64 4), .int .i64 (ρ.i .i64 5)]) = false from ?_) (all_nil)
  all_goals try simp only [hF, pi2, pi5, pi6, pi7, pb1, pb2, pb4, pl4, pl6, pl8]
  all_goals first | omega | skip
  all_goals
    apply beq_of
    simp only [fits_iff, may_iff, decide_eq_true_eq, Bool.and_eq_true, Bool.not_eq_true', Bool.false_eq_true, true_iff, iff_true, false_iff, iff_false, decide_eq_false_iff_not] at *
    omega
theorem vcmayR_7 : VD TTmayR (st0 cMayR) wmayR_7 := by
  intro ρ kn hp
  have hF : ρ.z.F = wt.Φ := kn.F
  simp only [h_nil, h_cons, d_le, d_eq, d_not, d_var, d_lit, d_cel, d_leq, d_fn, d_and, d_iff, IE.den, LE.den, AL.den, lenV, true_and, and_true, pcmayR_5, pcmayR_4, pcmayR_3, pcmayR_2, pcmayR_1, pcmayR_0, hF, pi2, pi5, pi6, pi7, pb1, pb2, pb4, pl4, pl6, pl8] at hp
  obtain ⟨p1, p2, p3, p4, p5, p6⟩ := hp
  refine all_cons (show (ρ.z.F.b 2 [.int .i64 (ρ.i .i64 1), .int .i64 (ρ.i .i64 2), .int .i64 (ρ.i .i64 3), .int .i64 (ρ.i .i64 4), .int .i64 (ρ.i .i64 5)]) = false from ?_) (all_nil)
  all_goals try simp only [hF, pi2, pi5, pi6, pi7, pb1, pb2, pb4, pl4, pl6, pl8]
  all_goals first | omega | skip
  all_goals
    apply beq_of
    simp only [fits_iff, may_iff, decide_eq_true_eq, Bool.and_eq_true, Bool.not_eq_true', Bool.false_eq_true, true_iff, iff_true, false_iff, iff_false, decide_eq_false_iff_not] at *
    omega
theorem vcmayR_8 : VD TTmayR (st0 cMayR) wmayR_8 := by
  intro ρ kn hp
  have hF : ρ.z.F = wt.Φ := kn.F
  simp only [h_nil, h_cons, d_le, d_eq, d_not, d_var, d_lit, d_cel, d_leq, d_fn, d_and, d_iff, IE.den, LE.den, AL.den, lenV, true_and, and_true, pcmayR_3, pcmayR_2, pcmayR_1, pcmayR_0, hF, pi2, pi5, pi6, pi7, pb1, pb2, pb4, pl4, pl6, pl8] at hp
  obtain ⟨p1, p2, p3, p4⟩ := hp
  refine all_cons (show (ρ.z.F.b 2 [.int .i64 (ρ.i .i64 1), .int .i64 (ρ.i .i64 2), .int .i64 (ρ.i .i64 3), .int .i64 (ρ.i .i64 4), .int .i64 (ρ.i .i64 5)]) = false from ?_) (all_nil)
  all_goals try simp only [hF, pi2, pi5, pi6, pi7, pb1, pb2, pb4, pl4, pl6, pl8]
  all_goals first | omega | skip
  all_goals
    apply beq_of
    simp only [fits_iff, may_iff, decide_eq_true_eq, Bool.and_eq_true, Bool.not_eq_true', Bool.false_eq_true, true_iff, iff_true, false_iff, iff_false, decide_eq_false_iff_not] at *
    omega
theorem vcmayR_9 : VD TTmayR (st0 cMayR) wmayR_9 := by
  intro ρ kn hp
  have hF : ρ.z.F = wt.Φ := kn.F
  simp only [h_nil, h_cons, d_le, d_eq, d_not, d_var, d_lit, d_cel, d_leq, d_fn, d_and, d_iff, IE.den, LE.den, AL.den, lenV, true_and, and_true, pcmayR_2, pcmayR_1, pcmayR_0, hF, pi2, pi5, pi6, pi7, pb1, pb2, pb4, pl4, pl6, pl8] at hp
  obtain ⟨p1, p2, p3⟩ := hp
  refine all_cons (show (ρ.z.F.b 2 [.int .i64 (ρ.i .i64 1), .int .i64 (ρ.i .i64 2), .int .i64 (ρ.i .i64 3), .int .i64 (ρ.i .i64 4), .int .i64 (ρ.i .i64 5)]) = false from ?_) (all_nil)
  all_goals try simp only [hF, pi2, pi5, pi6, pi7, pb1, pb2, pb4, pl4, pl6, pl8]
  all_goals first | omega | skip
  all_goals
    apply beq_of
    simp only [fits_iff, may_iff, decide_eq_true_eq, Bool.and_eq_true, Bool.not_eq_true', Bool.false_eq_true, true_iff, iff_true, false_iff, iff_false, decide_eq_false_iff_not] at *
    omega
theorem vcmayR_10 : VD TTmayR (st0 cMayR) wmayR_10 := by
  intro ρ kn hp
  have hF : ρ.z.F = wt.Φ := kn.F
  simp only [h_nil, h_cons, d_le, d_eq, d_not, d_var, d_lit, d_cel, d_leq, d_fn, d_and, d_iff, IE.den, LE.den, AL.den, lenV, true_and, and_true, pcmayR_0, hF, pi2, pi5, pi6, pi7, pb1, pb2, pb4, pl4, pl6, pl8] at hp
  have p1 := hp
  refine all_cons (show (ρ.z.F.b 2 [.int .i64 (ρ.i .i64 1), .int .i64 (ρ.i .i64 2), .int .i64 (ρ.i .i64 3), .int .i64 (ρ.i .i64 4), .int .i64 (ρ.i .i64 5)]) = false from ?_) (all_nil)
  all_goals try simp only [hF, pi2, pi5, pi6, pi7, pb1, pb2, pb4, pl4, pl6, pl8]
  all_goals first | omega | skip
  all_goals
    apply beq_of
    simp only [fits_iff, may_iff, decide_eq_true_eq, Bool.and_eq_true, Bool.not_eq_true', Bool.false_eq_true, true_iff, iff_true, false_iff, iff_false, decide_eq_false_iff_not] at *
    omega
theorem told_mayR : Sx.Told wt.Φ cMayR := told_vw (cs := [cRight03]) (all_cons told_right03 (all_nil)) 4000 vwmayR (by kernel_rfl) (by kernel_rfl) (by kernel_rfl) (post_nil rfl) (by kernel_rfl) (by kernel_rfl) (all_cons vcmayR_0 (all_cons vcmayR_1 (all_cons vcmayR_2 (all_cons vcmayR_3 (all_cons vcmayR_4 (all_cons vcmayR_5 (all_cons vcmayR_6 (all_cons vcmayR_7 (all_cons vcmayR_8 (all_cons vcmayR_9 (all_cons vcmayR_10 (all_nil))))))))))))
noncomputable section
abbrev TTmayP : Tab := T wt.Φ cMayP.roms []
def pcmayP_0 : List BE := [(BE.lit true)]
def pcmayP_1 : List BE := ((BE.le (IE.lit 0) (IE.var .i64 1)) :: pcmayP_0)
def pcmayP_2 : List BE := ((BE.le (IE.var .i64 1) (IE.lit 255)) :: pcmayP_1)
def pcmayP_3 : List BE := ((BE.le (IE.lit 1) (IE.var .i64 2)) :: pcmayP_2)
def pcmayP_4 : List BE := ((BE.le (IE.var .i64 2) (IE.lit 1099511627776)) :: pcmayP_3)
def pcmayP_5 : List BE := ((BE.le (IE.lit 1) (IE.var .i64 3)) :: pcmayP_4)
def pcmayP_6 : List BE := ((BE.le (IE.var .i64 3) (IE.lit 5)) :: pcmayP_5)
def pcmayP_7 : List BE := ((BE.le (IE.lit 0) (IE.var .i64 4)) :: pcmayP_6)
def pcmayP_8 : List BE := ((BE.le (IE.var .i64 4) (IE.lit 3)) :: pcmayP_7)
def pcmayP_9 : List BE := ((BE.le (IE.lit 0) (IE.var .i64 5)) :: pcmayP_8)
def wmayP_0 : VW := (VW.done ((BE.le (IE.var .i64 5) (IE.lit 64)) :: pcmayP_9) (some [(G.b (BE.fn 2 (AL.int .i64 (IE.var .i64 1) (AL.int .i64 (IE.var .i64 2) (AL.int .i64 (IE.var .i64 3) (AL.int .i64 (IE.var .i64 4) (AL.int .i64 (IE.var .i64 5) AL.nil)))))) (BE.lit true))]))
def wmayP_1 : VW := (VW.done ((BE.not (BE.le (IE.var .i64 5) (IE.lit 64))) :: pcmayP_9) (some [(G.b (BE.fn 2 (AL.int .i64 (IE.var .i64 1) (AL.int .i64 (IE.var .i64 2) (AL.int .i64 (IE.var .i64 3) (AL.int .i64 (IE.var .i64 4) (AL.int .i64 (IE.var .i64 5) AL.nil)))))) (BE.lit false))]))
def wmayP_2 : VW := (VW.done ((BE.not (BE.le (IE.lit 0) (IE.var .i64 5))) :: pcmayP_8) (some [(G.b (BE.fn 2 (AL.int .i64 (IE.var .i64 1) (AL.int .i64 (IE.var .i64 2) (AL.int .i64 (IE.var .i64 3) (AL.int .i64 (IE.var .i64 4) (AL.int .i64 (IE.var .i64 5) AL.nil)))))) (BE.lit false))]))
def wmayP_3 : VW := (VW.done ((BE.not (BE.le (IE.var .i64 4) (IE.lit 3))) :: pcmayP_7) (some [(G.b (BE.fn 2 (AL.int .i64 (IE.var .i64 1) (AL.int .i64 (IE.var .i64 2) (AL.int .i64 (IE.var .i64 3) (AL.int .i64 (IE.var .i64 4) (AL.int .i64 (IE.var .i64 5) AL.nil)))))) (BE.lit false))]))
def wmayP_4 : VW := (VW.done ((BE.not (BE.le (IE.lit 0) (IE.var .i64 4))) :: pcmayP_6) (some [(G.b (BE.fn 2 (AL.int .i64 (IE.var .i64 1) (AL.int .i64 (IE.var .i64 2) (AL.int .i64 (IE.var .i64 3) (AL.int .i64 (IE.var .i64 4) (AL.int .i64 (IE.var .i64 5) AL.nil)))))) (BE.lit false))]))
def wmayP_5 : VW := (VW.done ((BE.not (BE.le (IE.var .i64 3) (IE.lit 5))) :: pcmayP_5) (some [(G.b (BE.fn 2 (AL.int .i64 (IE.var .i64 1) (AL.int .i64 (IE.var .i64 2) (AL.int .i64 (IE.var .i64 3) (AL.int .i64 (IE.var .i64 4) (AL.int .i64 (IE.var .i64 5) AL.nil)))))) (BE.lit false))]))
def wmayP_6 : VW := (VW.done ((BE.not (BE.le (IE.lit 1) (IE.var .i64 3))) :: pcmayP_4) (some [(G.b (BE.fn 2 (AL.int .i64 (IE.var .i64 1) (AL.int .i64 (IE.var .i64 2) (AL.int .i64 (IE.var .i64 3) (AL.int .i64 (IE.var .i64 4) (AL.int .i64 (IE.var .i64 5) AL.nil)))))) (BE.lit false))]))
def wmayP_7 : VW := (VW.done ((BE.not (BE.le (IE.var .i64 2) (IE.lit 1099511627776))) :: pcmayP_3) (some [(G.b (BE.fn 2 (AL.int .i64 (IE.var .i64 1) (AL.int .i64 (IE.var .i64 2) (AL.int .i64 (IE.var .i64 3) (AL.int .i64 (IE.var .i64 4) (AL.int .i64 (IE.var .i64 5) AL.nil)))))) (BE.lit false))]))
def wmayP_8 : VW := (VW.done ((BE.not (BE.le (IE.lit 1) (IE.var .i64 2))) :: pcmayP_2) (some [(G.b (BE.fn 2 (AL.int .i64 (IE.var .i64 1) (AL.int .i64 (IE.var .i64 2) (AL.int .i64 (IE.var .i64 3) (AL.int .i64 (IE.var .i64 4) (AL.int .i64 (IE.var .i64 5) AL.nil)))))) (BE.lit false))]))
def wmayP_9 : VW := (VW.done ((BE.not (BE.le (IE.var .i64 1) (IE.lit 255))) :: pcmayP_1) (some [(G.b (BE.fn 2 (AL.int .i64 (IE.var .i64 1) (AL.int .i64 (IE.var .i64 2) (AL.int .i64 (IE.var .i64 3) (AL.int .i64 (IE.var .i64 4) (AL.int .i64 (IE.var .i64 5) AL.nil)))))) (BE.lit false))]))
def wmayP_10 : VW := (VW.done ((BE.not (BE.le (IE.lit 0) (IE.var .i64 1))) :: pcmayP_0) (some [(G.b (BE.fn 2 (AL.int .i64 (IE.var .i64 1) (AL.int .i64 (IE.var .i64 2) (AL.int .i64 (IE.var .i64 3) (AL.int .i64 (IE.var .i64 4) (AL.int .i64 (IE.var .i64 5) AL.nil)))))) (BE.lit false))]))
def vwmayP : List VW := [wmayP_0, wmayP_1, wmayP_2, wmayP_3, wmayP_4, wmayP_5, wmayP_6, wmayP_7, wmayP_8, wmayP_9, wmayP_10]
end
theorem vcmayP_0 : VD TTmayP (st0 cMayP) wmayP_0 := by
  intro ρ kn hp
  have hF : ρ.z.F = wt.Φ := kn.F
  simp only [h_nil, h_cons, d_le, d_eq, d_not, d_var, d_lit, d_cel, d_leq, d_fn, d_and, d_iff, IE.den, LE.den, AL.den, lenV, true_and, and_true, pcmayP_9, pcmayP_8, pcmayP_7, pcmayP_6, pcmayP_5, pcmayP_4, pcmayP_3, pcmayP_2, pcmayP_1, pcmayP_0, hF, pi2, pi5, pi6, pi7, pb1, pb2, pb4, pl4, pl6, pl8] at hp
  obtain ⟨p1, p2, p3, p4, p5, p6, p7, p8, p9, p10⟩ := hp
  refine all_cons (show (ρ.z.F.b 2 [.int .i64 (ρ.i .i64 1), .int .i64 (ρ.i .i64 2), .int .i64 (ρ.i .i64 3), .int .i64 (ρ.i .i64 4), .int .i64 (ρ.i .i64 5)]) = true from ?_) (all_nil)
  all_goals try simp only [hF, pi2, pi5, pi6, pi7, pb1, pb2, pb4, pl4, pl6, pl8]
  all_goals first | omega | skip
  all_goals
    apply beq_of
    simp only [fits_iff, may_iff, decide_eq_true_eq, Bool.and_eq_true, Bool.not_eq_true', Bool.false_eq_true, true_iff, iff_true, false_iff, iff_false, decide_eq_false_iff_not] at *
    omega
theorem vcmayP_1 : VD TTmayP (st0 cMayP) wmayP_1 := by
  intro ρ kn hp
  have hF : ρ.z.F = wt.Φ := kn.F
  simp only [h_nil, h_cons, d_le, d_eq, d_not, d_var, d_lit, d_cel, d_leq, d_fn, d_and, d_iff, IE.den, LE.den, AL.den, lenV, true_and, and_true, pcmayP_9, pcmayP_8, pcmayP_7, pcmayP_6, pcmayP_5, pcmayP_4, pcmayP_3, pcmayP_2, pcmayP_1, pcmayP_0, hF, pi2, pi5, pi6, pi7, pb1, pb2, pb4, pl4, pl6, pl8] at hp
  obtain ⟨p1, p2, p3, p4, p5, p6, p7, p8, p9, p10⟩ := hp
  refine all_cons (show (ρ.z.F.b 2 [.int .i64 (ρ.i .i64 1), .int .i64 (ρ.i .i64 2), .int .i64 (ρ.i .i64 3), .int .i64 (ρ.i .i64 4), .int .i64 (ρ.i .i64 5)]) = false from ?_) (all_nil)
  all_goals try simp only [hF, pi2, pi5, pi6, pi7, pb1, pb2, pb4, pl4, pl6, pl8]
  all_goals first | omega | skip
  all_goals
    apply beq_of
    simp only [fits_iff, may_iff, decide_eq_true_eq, Bool.and_eq_true, Bool.not_eq_true', Bool.false_eq_true, true_iff, iff_true, false_iff, iff_false, decide_eq_false_iff_not] at *
    omega
theorem vcmayP_2 : VD TTmayP (st0 cMayP) wmayP_2 := by
  intro ρ kn hp
  have hF : ρ.z.F = wt.Φ := kn.F
  simp only [h_nil, h_cons, d_le, d_eq, d_not, d_var, d_lit, d_cel, d_leq, d_fn, d_and, d_iff, IE.den, LE.den, AL.den, lenV, true_and, and_true, pcmayP_8, pcmayP_7, pcmayP_6, pcmayP_5, pcmayP_4, pcmayP_3, pcmayP_2, pcmayP_1, pcmayP_0, hF, pi2, pi5, pi6, pi7, pb1, pb2, pb4, pl4, pl6, pl8] at hp
  obtain ⟨p1, p2, p3, p4, p5, p6, p7, p8, p9⟩ := hp
  refine all_cons (show (ρ.z.F.b 2 [.int .i64 (ρ.i .i64 1), .int .i64 (ρ.i .i64 2), .int .i64 (ρ.i .i64 3), .int .i64 (ρ.i .i64 4), .int .i64 (ρ.i .i64 5)]) = false from ?_) (all_nil)
  all_goals try simp only [hF, pi2, pi5, pi6, pi7, pb1, pb2, pb4, pl4, pl6, pl8]
  all_goals first | omega | skip
  all_goals
    apply beq_of
    simp only [fits_iff, may_iff, decide_eq_true_eq, Bool.and_eq_true, Bool.not_eq_true', Bool.false_eq_true, true_iff, iff_true, false_iff, iff_false, decide_eq_false_iff_not] at *
    omega
theorem vcmayP_3 : VD TTmayP (st0 cMayP) wmayP_3 := by
  intro ρ kn hp
  have hF : ρ.z.F = wt.Φ := kn.F
  simp only [h_nil, h_cons, d_le, d_eq, d_not, d_var, d_lit, d_cel, d_leq, d_fn, d_and, d_iff, IE.den, LE.den, AL.den, lenV, true_and, and_true, pcmayP_7, pcmayP_6, pcmayP_5, pcmayP_4, pcmayP_3, pcmayP_2, pcmayP_1, pcmayP_0, hF, pi2, pi5, pi6, pi7, pb1, pb2, pb4, pl4, pl6, pl8] at hp
  obtain ⟨p1, p2, p3, p4, p5, p6, p7, p8⟩ := hp
  refine all_cons (show (ρ.z.F.b 2 [.int .i64 (ρ.i .i64 1), .int .i64 (ρ.i .i64 2), .int .i64 (ρ.i .i64 3), .int .i64 (ρ.i .i64 4), .int .i64 (ρ.i .i64 5)]) = false from ?_) (all_nil)
  all_goals try simp only [hF, pi2, pi5, pi6, pi7, pb1, pb2, pb4, pl4, pl6, pl8]
  all_goals first | omega | skip
  all_goals
    apply beq_of
    simp only [fits_iff, may_iff, decide_eq_true_eq, Bool.and_eq_true, Bool.not_eq_true', Bool.false_eq_true, true_iff, iff_true, false_iff, iff_false, decide_eq_false_iff_not] at *
    omega
theorem vcmayP_4 : VD TTmayP (st0 cMayP) wmayP_4 := by
  intro ρ kn hp
  have hF : ρ.z.F = wt.Φ := kn.F
  simp only [h_nil, h_cons, d_le, d_eq, d_not, d_var, d_lit, d_cel, d_leq, d_fn, d_and, d_iff, IE.den, LE.den, AL.den, lenV, true_and, and_true, pcmayP_6, pcmayP_5, pcmayP_4, pcmayP_3, pcmayP_2, pcmayP_1, pcmayP_0, hF, pi2, pi5, pi6, pi7, pb1, pb2, pb4, pl4, pl6, pl8] at hp
  obtain ⟨p1, p2, p3, p4, p5, p6, p7⟩ := hp
  refine all_cons (show (ρ.z.F.b 2 [.int .i64 (ρ.i .i64 1), .int .i64 (ρ.i .i64 2), .int .i64 (ρ.i .i64 3), .int .i64 (ρ.i .i64 4), .int .i64 (ρ.i .i64 5)]) = false from ?_) (all_nil)
  all_goals try simp only [hF, pi2, pi5, pi6, pi7, pb1, pb2, pb4, pl4, pl6, pl8]
  all_goals first | omega | skip
  all_goals
    apply beq_of
    simp only [fits_iff, may_iff, decide_eq_true_eq, Bool.and_eq_true, Bool.not_eq_true', Bool.false_eq_true, true_iff, iff_true, false_iff, iff_false, decide_eq_false_iff_not] at *
    omega
theorem vcmayP_5 : VD TTmayP (st0 cMayP) wmayP_5 := by
  intro ρ kn hp
  have hF : ρ.z.F = wt.Φ := kn.F
  simp only [h_nil, h_cons, d_le, d_eq, d_not, d_var, d_lit, d_cel, d_leq, d_fn, d_and, d_iff, IE.den, LE.den, AL.den, lenV, true_and, and_true, pcmayP_5, pcmayP_4, pcmayP_3, pcmayP_2, pcmayP_1, pcmayP_0, hF, pi2, pi5, pi6, pi7, pb1, pb2, pb4, pl4, pl6, pl8] at hp
  obtain ⟨p1, p2, p3, p4, p5, p6⟩ := hp
  refine all_cons (show (ρ.z.F.b 2 [.int .i64 (ρ.i .i64 1), .int .i64 (ρ.i .i64 2), .int .i64 (ρ.i .i64 3), .int .i64 (ρ.i .i64 4), .int .i64 (ρ.i .i64 5)]) = false from ?_) (all_nil)
  all_goals try simp only [hF, pi2, pi5, pi6, pi7, pb1, pb2, pb4, pl4, pl6, pl8]
  all_goals first | omega | skip
  all_goals
    apply beq_of
    simp only [fits_iff, may_iff, decide_eq_true_eq, Bool.and_eq_true, Bool.not_eq_true', Bool.false_eq_true, true_iff, iff_true, false_iff, iff_false, decide_eq_false_iff_not] at *
    omega
theorem vcmayP_6 : VD TTmayP (st0 cMayP) wmayP_6 := by
  intro ρ kn hp
  have hF : ρ.z.F = wt.Φ := kn.F
  simp only [h_nil, h_cons, d_le, d_eq, d_not, d_var, d_lit, d_cel, d_leq, d_fn, d_and, d_iff, IE.den, LE.den, AL.den, lenV, true_and, and_true, pcmayP_4, pcmayP_3, pcmayP_2, pcmayP_1, pcmayP_0, hF, pi2, pi5, pi6, pi7, pb1, pb2, pb4, pl4, pl6, pl8] at hp
  obtain ⟨p1, p2, p3, p4, p5⟩ := hp
  refine all_cons (show (ρ.z.F.b 2 [.int .i64 (ρ.i .i64 1), .int .i64 (ρ.i .i64 2), .int .i64 (ρ.i .i64 3), .int .i64 (ρ.i .i64 4), .int .i64 (ρ.i .i64 5)]) = false from ?_) (all_nil)
  all_goals try simp only [hF, pi2, pi5, pi6, pi7, pb1, pb2, pb4, pl4, pl6, pl8]
  all_goals first | omega | skip
  all_goals
    apply beq_of
    simp only [fits_iff, may_iff, decide_eq_true_eq, Bool.and_eq_true, Bool.not_eq_true', Bool.false_eq_true, true_iff, iff_true, false_iff, iff_false, decide_eq_false_iff_not] at *
    omega
theorem vcmayP_7 : VD TTmayP (st0 cMayP) wmayP_7 := by
  intro ρ kn hp
  have hF : ρ.z.F = wt.Φ := kn.F
  simp only [h_nil, h_cons, d_le, d_eq, d_not, d_var, d_lit, d_cel, d_leq, d_fn, d_and, d_iff, IE.den, LE.den, AL.den, lenV, true_and, and_true, pcmayP_3, pcmayP_2, pcmayP_1, pcmayP_0, hF, pi2, pi5, pi6, pi7, pb1, pb2, pb4, pl4, pl6, pl8] at hp
  obtain ⟨p1, p2, p3, p4⟩ := hp
  refine all_cons (show (ρ.z.F.b 2 [.int .i64 (ρ.i .i64 1), .int .i64 (ρ.i .i64 2), .int .i64 (ρ.i .i64 3), .int .i64 (ρ.i .i64 4), .int .i64 (ρ.i .i64 5)]) = false from ?_) (all_nil)
  all_goals try simp only [hF, pi2, pi5, pi6, pi7, pb1, pb2, pb4, pl4, pl6, pl8]
  all_goals first | omega | skip
  all_goals
    apply beq_of
    simp only [fits_iff, may_iff, decide_eq_true_eq, Bool.and_eq_true, Bool.not_eq_true', Bool.false_eq_true, true_iff, iff_true, false_iff, iff_false, decide_eq_false_iff_not] at *
    omega
theorem vcmayP_8 : VD TTmayP (st0 cMayP) wmayP_8 := by
  intro ρ kn hp
  have hF : ρ.z.F = wt.Φ := kn.F
  simp only [h_nil, h_cons, d_le, d_eq, d_not, d_var, d_lit, d_cel, d_leq, d_fn, d_and, d_iff, IE.den, LE.den, AL.den, lenV, true_and, and_true, pcmayP_2, pcmayP_1, pcmayP_0, hF, pi2, pi5, pi6, pi7, pb1, pb2, pb4, pl4, pl6, pl8] at hp
  obtain ⟨p1, p2, p3⟩ := hp
  refine all_cons (show (ρ.z.F.b 2 [.int .i64 (ρ.i .i64 1), .int .i64 (ρ.i .i64 2), .int .i64 (ρ.i .i64 3), .int .i64 (ρ.i .i64 4), .int .i64 (ρ.i .i64 5)]) = false from ?_) (all_nil)
  all_goals try simp only [hF, pi2, pi5, pi6, pi7, pb1, pb2, pb4, pl4, pl6, pl8]
  all_goals first | omega | skip
  all_goals
    apply beq_of
    simp only [fits_iff, may_iff, decide_eq_true_eq, Bool.and_eq_true, Bool.not_eq_true', Bool.false_eq_true, true_iff, iff_true, false_iff, iff_false, decide_eq_false_iff_not] at *
    omega
theorem vcmayP_9 : VD TTmayP (st0 cMayP) wmayP_9 := by
  intro ρ kn hp
  have hF : ρ.z.F = wt.Φ := kn.F
  simp only [h_nil, h_cons, d_le, d_eq, d_not, d_var, d_lit, d_cel, d_leq, d_fn, d_and, d_iff, IE.den, LE.den, AL.den, lenV, true_and, and_true, pcmayP_1, pcmayP_0, hF, pi2, pi5, pi6, pi7, pb1, pb2, pb4, pl4, pl6, pl8] at hp
  obtain ⟨p1, p2⟩ := hp
  refine all_cons (show (ρ.z.F.b 2 [.int .i64 (ρ.i .i64 1), .int .i64 (ρ.i .i64 2), .int .i64 (ρ.i .i64 3), .int .i64 (ρ.i .i64 4), .int .i64 (ρ.i .i64 5)]) = false from ?_) (all_nil)
  all_goals try simp only [hF, pi2, pi5, pi6, pi7, pb1, pb2, pb4, pl4, pl6, pl8]
  all_goals first | omega | skip
  all_goals
    apply beq_of
    simp only [fits_iff, may_iff, decide_eq_true_eq, Bool.and_eq_true, Bool.not_eq_true', Bool.false_eq_true, true_iff, iff_true, false_iff, iff_false, decide_eq_false_iff_not] at *
    omega
theorem vcmayP_10 : VD TTmayP (st0 cMayP) wmayP_10 := by
  intro ρ kn hp
  have hF : ρ.z.F = wt.Φ := kn.F
  simp only [h_nil, h_cons, d_le, d_eq, d_not, d_var, d_lit, d_cel, d_leq, d_fn, d_and, d_iff, IE.den, LE.den, AL.den, lenV, true_and, and_true, pcmayP_0, hF, pi2, pi5, pi6, pi7, pb1, pb2, pb4, pl4, pl6, pl8] at hp
  have p1 := hp
  refine all_cons (show (ρ.z.F.b 2 [.int .i64 (ρ.i .i64 1), .int .i64 (ρ.i .i64 2), .int .i64 (ρ.i .i64 3), .int .i64 (ρ.i .i64 4), .int .i64 (ρ.i .i64 5)]) = false from ?_) (all_nil)
  all_goals try simp only [hF, pi2, pi5, pi6, pi7, pb1, pb2, pb4, pl4, pl6, pl8]
  all_goals first | omega | skip
  all_goals
    apply beq_of
    simp only [fits_iff, may_iff, decide_eq_true_eq, Bool.and_eq_true, Bool.not_eq_true', Bool.false_eq_true, true_iff, iff_true, false_iff, iff_false, decide_eq_false_iff_not] at *
    omega
theorem told_mayP : Sx.Told wt.Φ cMayP := told_vw (cs := []) (all_nil) 4000 vwmayP (by kernel_rfl) (by kernel_rfl) (by kernel_rfl) (post_nil rfl) (by kernel_rfl) (by kernel_rfl) (all_cons vcmayP_0 (all_cons vcmayP_1 (all_cons vcmayP_2 (all_cons vcmayP_3 (all_cons vcmayP_4 (all_cons vcmayP_5 (all_cons vcmayP_6 (all_cons vcmayP_7 (all_cons vcmayP_8 (all_cons vcmayP_9 (all_cons vcmayP_10 (all_nil))))))))))))
noncomputable section
abbrev TTfitsM : Tab := T wt.Φ cFitsM.roms []
def pcfitsM_0 : List BE := [(BE.lit true), (BE.le (IE.lit 0) (IE.var .i64 1)), (BE.le (IE.var .i64 1) (IE.lit 5)), (BE.le (IE.lit 0) (IE.var .i64 2)), (BE.le (IE.var .i64 2) (IE.lit 5))]
def pcfitsM_1 : List BE := ((BE.le (IE.var .i64 1) (IE.lit 0)) :: pcfitsM_0)
def pcfitsM_2 : List BE := ((BE.not (BE.le (IE.var .i64 1) (IE.lit 0))) :: pcfitsM_0)
def pcfitsM_3 : List BE := ((BE.not (BE.le (IE.var .i64 2) (IE.lit 0))) :: pcfitsM_1)
def pcfitsM_4 : List BE := ((BE.le (IE.var .i64 1) (IE.lit 1)) :: pcfitsM_2)
def pcfitsM_5 : List BE := ((BE.not (BE.le (IE.var .i64 1) (IE.lit 1))) :: pcfitsM_2)
def pcfitsM_6 : List BE := ((BE.not (BE.le (IE.var .i64 2) (IE.lit 1))) :: pcfitsM_3)
def pcfitsM_7 : List BE := ((BE.not (BE.le (IE.var .i64 2) (IE.lit 0))) :: pcfitsM_4)
def pcfitsM_8 : List BE := ((BE.le (IE.var .i64 1) (IE.lit 2)) :: pcfitsM_5)
def pcfitsM_9 : List BE := ((BE.not (BE.le (IE.var .i64 1) (IE.lit 2))) :: pcfitsM_5)
def pcfitsM_10 : List BE := ((BE.not (BE.le (IE.var .i64 2) (IE.lit 2))) :: pcfitsM_6)
def pcfitsM_11 : List BE := ((BE.not (BE.le (IE.var .i64 2) (IE.lit 1))) :: pcfitsM_7)
def pcfitsM_12 : List BE := ((BE.not (BE.le (IE.var .i64 2) (IE.lit 0))) :: pcfitsM_8)
def pcfitsM_13 : List BE := ((BE.le (IE.var .i64 1) (IE.lit 3)) :: pcfitsM_9)
def pcfitsM_14 : List BE := ((BE.not (BE.le (IE.var .i64 1) (IE.lit 3))) :: pcfitsM_9)
def pcfitsM_15 : List BE := ((BE.not (BE.le (IE.var .i64 2) (IE.lit 3))) :: pcfitsM_10)
def pcfitsM_16 : List BE := ((BE.not (BE.le (IE.var .i64 2) (IE.lit 2))) :: pcfitsM_11)
def pcfitsM_17 : List BE := ((BE.not (BE.le (IE.var .i64 2) (IE.lit 1))) :: pcfitsM_12)
def pcfitsM_18 : List BE := ((BE.not (BE.le (IE.var .i64 2) (IE.lit 0))) :: pcfitsM_13)
def pcfitsM_19 : List BE := ((BE.le (IE.var .i64 1) (IE.lit 4)) :: pcfitsM_14)
def pcfitsM_20 : List BE := ((BE.not (BE.le (IE.var .i64 1) (IE.lit 4))) :: pcfitsM_14)
def pcfitsM_21 : List BE := ((BE.not (BE.le (IE.var .i64 2) (IE.lit 3))) :: pcfitsM_16)
def pcfitsM_22 : List BE := ((BE.not (BE.le (IE.var .i64 2) (IE.lit 2))) :: pcfitsM_17)
def pcfitsM_23 : List BE := ((BE.not (BE.le (IE.var .i64 2) (IE.lit 1))) :: pcfitsM_18)
def pcfitsM_24 : List BE := ((BE.not (BE.le (IE.var .i64 2) (IE.lit 0))) :: pcfitsM_19)
def pcfitsM_25 : List BE := ((BE.not (BE.le (IE.var .i64 2) (IE.lit 0))) :: pcfitsM_20)
def pcfitsM_26 : List BE := ((BE.not (BE.le (IE.var .i64 2) (IE.lit 3))) :: pcfitsM_22)
def pcfitsM_27 : List BE := ((BE.not (BE.le (IE.var .i64 2) (IE.lit 2))) :: pcfitsM_23)
def pcfitsM_28 : List BE := ((BE.not (BE.le (IE.var .i64 2) (IE.lit 1))) :: pcfitsM_24)
def pcfitsM_29 : List BE := ((BE.not (BE.le (IE.var .i64 2) (IE.lit 1))) :: pcfitsM_25)
def pcfitsM_30 : List BE := ((BE.not (BE.le (IE.var .i64 2) (IE.lit 3))) :: pcfitsM_27)
def pcfitsM_31 : List BE := ((BE.not (BE.le (IE.var .i64 2) (IE.lit 2))) :: pcfitsM_28)
def pcfitsM_32 : List BE := ((BE.not (BE.le (IE.var .i64 2) (IE.lit 2))) :: pcfitsM_29)
def pcfitsM_33 : List BE := ((BE.not (BE.le (IE.var .i64 2) (IE.lit 3))) :: pcfitsM_31)
def pcfitsM_34 : List BE := ((BE.not (BE.le (IE.var .i64 2) (IE.lit 3))) :: pcfitsM_32)
def wfitsM_0 : VW := (VW.done ((BE.le (IE.var .i64 2) (IE.lit 0)) :: pcfitsM_1) (some [(G.b (BE.fn 1 (AL.int .i64 (IE.var .i64 1) (AL.int .i64 (IE.var .i64 2) AL.nil))) (BE.lit true))]))
def wfitsM_1 : VW := (VW.done ((BE.le (IE.var .i64 2) (IE.lit 1)) :: pcfitsM_3) (some [(G.b (BE.fn 1 (AL.int .i64 (IE.var .i64 1) (AL.int .i64 (IE.var .i64 2) AL.nil))) (BE.lit true))]))
def wfitsM_2 : VW := (VW.done ((BE.le (IE.var .i64 2) (IE.lit 2)) :: pcfitsM_6) (some [(G.b (BE.fn 1 (AL.int .i64 (IE.var .i64 1) (AL.int .i64 (IE.var .i64 2) AL.nil))) (BE.lit true))]))
def wfitsM_3 : VW := (VW.done ((BE.le (IE.var .i64 2) (IE.lit 3)) :: pcfitsM_10) (some [(G.b (BE.fn 1 (AL.int .i64 (IE.var .i64 1) (AL.int .i64 (IE.var .i64 2) AL.nil))) (BE.lit true))]))
def wfitsM_4 : VW := (VW.done ((BE.le (IE.var .i64 2) (IE.lit 4)) :: pcfitsM_15) (some [(G.b (BE.fn 1 (AL.int .i64 (IE.var .i64 1) (AL.int .i64 (IE.var .i64 2) AL.nil))) (BE.lit true))]))
def wfitsM_5 : VW := (VW.done ((BE.not (BE.le (IE.var .i64 2) (IE.lit 4))) :: pcfitsM_15) (some [(G.b (BE.fn 1 (AL.int .i64 (IE.var .i64 1) (AL.int .i64 (IE.var .i64 2) AL.nil))) (BE.lit true))]))
def wfitsM_6 : VW := (VW.done ((BE.le (IE.var .i64 2) (IE.lit 0)) :: pcfitsM_4) (some [(G.b (BE.fn 1 (AL.int .i64 (IE.var .i64 1) (AL.int .i64 (IE.var .i64 2) AL.nil))) (BE.lit true))]))
def wfitsM_7 : VW := (VW.done ((BE.le (IE.var .i64 2) (IE.lit 1)) :: pcfitsM_7) (some [(G.b (BE.fn 1 (AL.int .i64 (IE.var .i64 1) (AL.int .i64 (IE.var .i64 2) AL.nil))) (BE.lit true))]))
def wfitsM_8 : VW := (VW.done ((BE.le (IE.var .i64 2) (IE.lit 2)) :: pcfitsM_11) (some [(G.b (BE.fn 1 (AL.int .i64 (IE.var .i64 1) (AL.int .i64 (IE.var .i64 2) AL.nil))) (BE.lit true))]))
def wfitsM_9 : VW := (VW.done ((BE.le (IE.var .i64 2) (IE.lit 3)) :: pcfitsM_16) (some [(G.b (BE.fn 1 (AL.int .i64 (IE.var .i64 1) (AL.int .i64 (IE.var .i64 2) AL.nil))) (BE.lit true))]))
def wfitsM_10 : VW := (VW.done ((BE.le (IE.var .i64 2) (IE.lit 4)) :: pcfitsM_21) (some [(G.b (BE.fn 1 (AL.int .i64 (IE.var .i64 1) (AL.int .i64 (IE.var .i64 2) AL.nil))) (BE.lit true))]))
def wfitsM_11 : VW := (VW.done ((BE.not (BE.le (IE.var .i64 2) (IE.lit 4))) :: pcfitsM_21) (some [(G.b (BE.fn 1 (AL.int .i64 (IE.var .i64 1) (AL.int .i64 (IE.var .i64 2) AL.nil))) (BE.lit false))]))
def wfitsM_12 : VW := (VW.done ((BE.le (IE.var .i64 2) (IE.lit 0)) :: pcfitsM_8) (some [(G.b (BE.fn 1 (AL.int .i64 (IE.var .i64 1) (AL.int .i64 (IE.var .i64 2) AL.nil))) (BE.lit true))]))
def wfitsM_13 : VW := (VW.done ((BE.le (IE.var .i64 2) (IE.lit 1)) :: pcfitsM_12) (some [(G.b (BE.fn 1 (AL.int .i64 (IE.var .i64 1) (AL.int .i64 (IE.var .i64 2) AL.nil))) (BE.lit true))]))
def wfitsM_14 : VW := (VW.done ((BE.le (IE.var .i64 2) (IE.lit 2)) :: pcfitsM_17) (some [(G.b (BE.fn 1 (AL.int .i64 (IE.var .i64 1) (AL.int .i64 (IE.var .i64 2) AL.nil))) (BE.lit true))]))
def wfitsM_15 : VW := (VW.done ((BE.le (IE.var .i64 2) (IE.lit 3)) :: pcfitsM_22) (some [(G.b (BE.fn 1 (AL.int .i64 (IE.var .i64 1) (AL.int .i64 (IE.var .i64 2) AL.nil))) (BE.lit false))]))
def wfitsM_16 : VW := (VW.done ((BE.le (IE.var .i64 2) (IE.lit 4)) :: pcfitsM_26) (some [(G.b (BE.fn 1 (AL.int .i64 (IE.var .i64 1) (AL.int .i64 (IE.var .i64 2) AL.nil))) (BE.lit false))]))
def wfitsM_17 : VW := (VW.done ((BE.not (BE.le (IE.var .i64 2) (IE.lit 4))) :: pcfitsM_26) (some [(G.b (BE.fn 1 (AL.int .i64 (IE.var .i64 1) (AL.int .i64 (IE.var .i64 2) AL.nil))) (BE.lit false))]))
def wfitsM_18 : VW := (VW.done ((BE.le (IE.var .i64 2) (IE.lit 0)) :: pcfitsM_13) (some [(G.b (BE.fn 1 (AL.int .i64 (IE.var .i64 1) (AL.int .i64 (IE.var .i64 2) AL.nil))) (BE.lit true))]))
def wfitsM_19 : VW := (VW.done ((BE.le (IE.var .i64 2) (IE.lit 1)) :: pcfitsM_18) (some [(G.b (BE.fn 1 (AL.int .i64 (IE.var .i64 1) (AL.int .i64 (IE.var .i64 2) AL.nil))) (BE.lit true))]))
def wfitsM_20 : VW := (VW.done ((BE.le (IE.var .i64 2) (IE.lit 2)) :: pcfitsM_23) (some [(G.b (BE.fn 1 (AL.int .i64 (IE.var .i64 1) (AL.int .i64 (IE.var .i64 2) AL.nil))) (BE.lit false))]))
def wfitsM_21 : VW := (VW.done ((BE.le (IE.var .i64 2) (IE.lit 3)) :: pcfitsM_27) (some [(G.b (BE.fn 1 (AL.int .i64 (IE.var .i64 1) (AL.int .i64 (IE.var .i64 2) AL.nil))) (BE.lit true))]))
def wfitsM_22 : VW := (VW.done ((BE.le (IE.var .i64 2) (IE.lit 4)) :: pcfitsM_30) (some [(G.b (BE.fn 1 (AL.int .i64 (IE.var .i64 1) (AL.int .i64 (IE.var .i64 2) AL.nil))) (BE.lit false))]))
def wfitsM_23 : VW := (VW.done ((BE.not (BE.le (IE.var .i64 2) (IE.lit 4))) :: pcfitsM_30) (some [(G.b (BE.fn 1 (AL.int .i64 (IE.var .i64 1) (AL.int .i64 (IE.var .i64 2) AL.nil))) (BE.lit false))]))
def wfitsM_24 : VW := (VW.done ((BE.le (IE.var .i64 2) (IE.lit 0)) :: pcfitsM_19) (some [(G.b (BE.fn 1 (AL.int .i64 (IE.var .i64 1) (AL.int .i64 (IE.var .i64 2) AL.nil))) (BE.lit true))]))
def wfitsM_25 : VW := (VW.done ((BE.le (IE.var .i64 2) (IE.lit 1)) :: pcfitsM_24) (some [(G.b (BE.fn 1 (AL.int .i64 (IE.var .i64 1) (AL.int .i64 (IE.var .i64 2) AL.nil))) (BE.lit true))]))
def wfitsM_26 : VW := (VW.done ((BE.le (IE.var .i64 2) (IE.lit 2)) :: pcfitsM_28) (some [(G.b (BE.fn 1 (AL.int .i64 (IE.var .i64 1) (AL.int .i64 (IE.var .i64 2) AL.nil))) (BE.lit false))]))
def wfitsM_27 : VW := (VW.done ((BE.le (IE.var .i64 2) (IE.lit 3)) :: pcfitsM_31) (some [(G.b (BE.fn 1 (AL.int .i64 (IE.var .i64 1) (AL.int .i64 (IE.var .i64 2) AL.nil))) (BE.lit false))]))
def wfitsM_28 : VW := (VW.done ((BE.le (IE.var .i64 2) (IE.lit 4)) :: pcfitsM_33) (some [(G.b (BE.fn 1 (AL.int .i64 (IE.var .i64 1) (AL.int .i64 (IE.var .i64 2) AL.nil))) (BE.lit false))]))
def wfitsM_29 : VW := (VW.done ((BE.not (BE.le (IE.var .i64 2) (IE.lit 4))) :: pcfitsM_33) (some [(G.b (BE.fn 1 (AL.int .i64 (IE.var .i64 1) (AL.int .i64 (IE.var .i64 2) AL.nil))) (BE.lit false))]))
def wfitsM_30 : VW := (VW.done ((BE.le (IE.var .i64 2) (IE.lit 0)) :: pcfitsM_20) (some [(G.b (BE.fn 1 (AL.int .i64 (IE.var .i64 1) (AL.int .i64 (IE.var .i64 2) AL.nil))) (BE.lit true))]))
def wfitsM_31 : VW := (VW.done ((BE.le (IE.var .i64 2) (IE.lit 1)) :: pcfitsM_25) (some [(G.b (BE.fn 1 (AL.int .i64 (IE.var .i64 1) (AL.int .i64 (IE.var .i64 2) AL.nil))) (BE.lit false))]))
def wfitsM_32 : VW := (VW.done ((BE.le (IE.var .i64 2) (IE.lit 2)) :: pcfitsM_29) (some [(G.b (BE.fn 1 (AL.int .i64 (IE.var .i64 1) (AL.int .i64 (IE.var .i64 2) AL.nil))) (BE.lit false))]))
def wfitsM_33 : VW := (VW.done ((BE.le (IE.var .i64 2) (IE.lit 3)) :: pcfitsM_32) (some [(G.b (BE.fn 1 (AL.int .i64 (IE.var .i64 1) (AL.int .i64 (IE.var .i64 2) AL.nil))) (BE.lit false))]))
def wfitsM_34 : VW := (VW.done ((BE.le (IE.var .i64 2) (IE.lit 4)) :: pcfitsM_34) (some [(G.b (BE.fn 1 (AL.int .i64 (IE.var .i64 1) (AL.int .i64 (IE.var .i64 2) AL.nil))) (BE.lit false))]))
def wfitsM_35 : VW := (VW.done ((BE.not (BE.le (IE.var .i64 2) (IE.lit 4))) :: pcfitsM_34) (some [(G.b (BE.fn 1 (AL.int .i64 (IE.var .i64 1) (AL.int .i64 (IE.var .i64 2) AL.nil))) (BE.lit false))]))
def vwfitsM : List VW := [wfitsM_0, wfitsM_1, wfitsM_2, wfitsM_3, wfitsM_4, wfitsM_5, wfitsM_6, wfitsM_7, wfitsM_8, wfitsM_9, wfitsM_10, wfitsM_11, wfitsM_12, wfitsM_13, wfitsM_14, wfitsM_15, wfitsM_16, wfitsM_17, wfitsM_18, wfitsM_19, wfitsM_20, wfitsM_21, wfitsM_22, wfitsM_23, wfitsM_24, wfitsM_25, wfitsM_26, wfitsM_27, wfitsM_28, wfitsM_29, wfitsM_30, wfitsM_31, wfitsM_32, wfitsM_33, wfitsM_34, wfitsM_35]
end
theorem vcfitsM_0 : VD TTfitsM (st0 cFitsM) wfitsM_0 := by
  intro ρ kn hp
  have hF : ρ.z.F = wt.Φ := kn.F
  simp only [h_nil, h_cons, d_le, d_eq, d_not, d_var, d_lit, d_cel, d_leq, d_fn, d_and, d_iff, IE.den, LE.den, AL.den, lenV, true_and, and_true, pcfitsM_1, pcfitsM_0, hF, pi2, pi5, pi6, pi7, pb1, pb2, pb4, pl4, pl6, pl8] at hp
  obtain ⟨p1, p2, p3, p4, p5, p6⟩ := hp
  refine all_cons (show (ρ.z.F.b 1 [.int .i64 (ρ.i .i64 1), .int .i64 (ρ.i .i64 2)]) = true from ?_) (all_nil)
  all_goals try simp only [hF, pi2, pi5, pi6, pi7, pb1, pb2, pb4, pl4, pl6, pl8]
  all_goals first | omega | skip
  all_goals
    apply beq_of
    simp only [fits_iff, may_iff, decide_eq_true_eq, Bool.and_eq_true, Bool.not_eq_true', Bool.false_eq_true, true_iff, iff_true, false_iff, iff_false, decide_eq_false_iff_not] at *
    omega
theorem vcfitsM_1 : VD TTfitsM (st0 cFitsM) wfitsM_1 := by
  intro ρ kn hp
  have hF : ρ.z.F = wt.Φ := kn.F
  simp only [h_nil, h_cons, d_le, d_eq, d_not, d_var, d_lit, d_cel, d_leq, d_fn, d_and, d_iff, IE.den, LE.den, AL.den, lenV, true_and, and_true, pcfitsM_3, pcfitsM_1, pcfitsM_0, hF, pi2, pi5, pi6, pi7, pb1, pb2, pb4, pl4, pl6, pl8] at hp
  obtain ⟨p1, p2, p3, p4, p5, p6, p7⟩ := hp
  refine all_cons (show (ρ.z.F.b 1 [.int .i64 (ρ.i .i64 1), .int .i64 (ρ.i .i64 2)]) = true from ?_) (all_nil)
  all_goals try simp only [hF, pi2, pi5, pi6, pi7, pb1, pb2, pb4, pl4, pl6, pl8]
  all_goals first | omega | skip
  all_goals
    apply beq_of
    simp only [fits_iff, may_iff, decide_eq_true_eq, Bool.and_eq_true, Bool.not_eq_true', Bool.false_eq_true, true_iff, iff_true, false_iff, iff_false, decide_eq_false_iff_not] at *
    omega
theorem vcfitsM_2 : VD TTfitsM (st0 cFitsM) wfitsM_2 := by
  intro ρ kn hp
  have hF : ρ.z.F = wt.Φ := kn.F
  simp only [h_nil, h_cons, d_le, d_eq, d_not, d_var, d_lit, d_cel, d_leq, d_fn, d_and, d_iff, IE.den, LE.den, AL.den, lenV, true_and, and_true, pcfitsM_6, pcfitsM_3, pcfitsM_1, pcfitsM_0, hF, pi2, pi5, pi6, pi7, pb1, pb2, pb4, pl4, pl6, pl8] at hp
  obtain ⟨p1, p2, p3, p4, p5, p6, p7, p8⟩ := hp
  refine all_cons (show (ρ.z.F.b 1 [.int .i64 (ρ.i .i64 1), .int .i64 (ρ.i .i64 2)]) = true from ?_) (all_nil)
  all_goals try simp only [hF, pi2, pi5, pi6, pi7, pb1, pb2, pb4, pl4, pl6, pl8]
  all_goals first | omega | skip
  all_goals
    apply beq_of
    simp only [fits_iff, may_iff, decide_eq_true_eq, Bool.and_eq_true, Bool.not_eq_true', Bool.false_eq_true, true_iff, iff_true, false_iff, iff_false, decide_eq_false_iff_not] at *
    omega
theorem vcfitsM_3 : VD TTfitsM (st0 cFitsM) wfitsM_3 := by
  intro ρ kn hp
  have hF : ρ.z.F = wt.Φ := kn.F
  simp only [h_nil, h_cons, d_le, d_eq, d_not, d_var, d_lit, d_cel, d_leq, d_fn, d_and, d_iff, IE.den, LE.den, AL.den, lenV, true_and, and_true, pcfitsM_10, pcfitsM_6, pcfitsM_3, pcfitsM_1, pcfitsM_0, hF, pi2, pi5, pi6, pi7, pb1, pb2, pb4, pl4, pl6, pl8] at hp
  obtain ⟨p1, p2, p3, p4, p5, p6, p7, p8, p9⟩ := hp
  refine all_cons (show (ρ.z.F.b 1 [.int .i64 (ρ.i .i64 1), .int .i64 (ρ.i .i64 2)]) = true from ?_) (all_nil)
  all_goals try simp only [hF, pi2, pi5, pi6, pi7, pb1, pb2, pb4, pl4, pl6, pl8]
  all_goals first | omega | skip
  all_goals
    apply beq_of
    simp only [fits_iff, may_iff, decide_eq_true_eq, Bool.and_eq_true, Bool.not_eq_true', Bool.false_eq_true, true_iff, iff_true, false_iff, iff_false, decide_eq_false_iff_not] at *
    omega
theorem vcfitsM_4 : VD TTfitsM (st0 cFitsM) wfitsM_4 := by
  intro ρ kn hp
  have hF : ρ.z.F = wt.Φ := kn.F
  simp only [h_nil, h_cons, d_le, d_eq, d_not, d_var, d_lit, d_cel, d_leq, d_fn, d_and, d_iff, IE.den, LE.den, AL.den, lenV, true_and, and_true, pcfitsM_15, pcfitsM_10, pcfitsM_6, pcfitsM_3, pcfitsM_1, pcfitsM_0, hF, pi2, pi5, pi6, pi7, pb1, pb2, pb4, pl4, pl6, pl8] at hp
  obtain ⟨p1, p2, p3, p4, p5, p6, p7, p8, p9, p10⟩ := hp
  refine all_cons (show (ρ.z.F.b 1 [.int .i64 (ρ.i .i64 1), .int .i64 (ρ.i .i64 2)]) = true from ?_) (all_nil)
  all_goals try simp only [hF, pi2, pi5, pi6, pi7, pb1, pb2, pb4, pl4, pl6, pl8]
  all_goals first | omega | skip
  all_goals
    apply beq_of
    simp only [fits_iff, may_iff, decide_eq_true_eq, Bool.and_eq_true, Bool.not_eq_true', Bool.false_eq_true, true_iff, iff_true, false_iff, iff_false, decide_eq_false_iff_not] at *
    omega
theorem vcfitsM_5 : VD TTfitsM (st0 cFitsM) wfitsM_5 := by
  intro ρ kn hp
  have hF : ρ.z.F = wt.Φ := kn.F
  simp only [h_nil, h_cons, d_le, d_eq, d_not, d_var, d_lit, d_cel, d_leq, d_fn, d_and, d_iff, IE.den, LE.den, AL.den, lenV, true_and, and_true, pcfitsM_15, pcfitsM_10, pcfitsM_6, pcfitsM_3, pcfitsM_1, pcfitsM_0, hF, pi2, pi5, pi6, pi7, pb1, pb2, pb4, pl4, pl6, pl8] at hp
  obtain ⟨p1, p2, p3, p4, p5, p6, p7, p8, p9, p10⟩ := hp
  refine all_cons (show (ρ.z.F.b 1 [.int .i64 (ρ.i .i64 1), .int .i64 (ρ.i .i64 2)]) = true from ?_) (all_nil)
  all_goals try simp only [hF, pi2, pi5, pi6, pi7, pb1, pb2, pb4, pl4, pl6, pl8]
  all_goals first | omega | skip
  all_goals
    apply beq_of
    simp only [fits_iff, may_iff, decide_eq_true_eq, Bool.and_eq_true, Bool.not_eq_true', Bool.false_eq_true, true_iff, iff_true, false_iff, iff_false, decide_eq_false_iff_not] at *
    omega
theorem vcfitsM_6 : VD TTfitsM (st0 cFitsM) wfitsM_6 := by
  intro ρ kn hp
  have hF : ρ.z.F = wt.Φ := kn.F
  simp only [h_nil, h_cons, d_le, d_eq, d_not, d_var, d_lit, d_cel, d_leq, d_fn, d_and, d_iff, IE.den, LE.den, AL.den, lenV, true_and, and_true, pcfitsM_4, pcfitsM_2, pcfitsM_0, hF, pi2, pi5, pi6, pi7, pb1, pb2, pb4, pl4, pl6, pl8] at hp
  obtain ⟨p1, p2, p3, p4, p5, p6, p7⟩ := hp
  refine all_cons (show (ρ.z.F.b 1 [.int .i64 (ρ.i .i64 1), .int .i64 (ρ.i .i64 2)]) = true from ?_) (all_nil)
  all_goals try simp only [hF, pi2, pi5, pi6, pi7, pb1, pb2, pb4, pl4, pl6, pl8]
  all_goals first | omega | skip
  all_goals
    apply beq_of
    simp only [fits_iff, may_iff, decide_eq_true_eq, Bool.and_eq_true, Bool.not_eq_true', Bool.false_eq_true, true_iff, iff_true, false_iff, iff_false, decide_eq_false_iff_not] at *
    omega
theorem vcfitsM_7 : VD TTfitsM (st0 cFitsM) wfitsM_7 := by
  intro ρ kn hp
  have hF : ρ.z.F = wt.Φ := kn.F
  simp only [h_nil, h_cons, d_le, d_eq, d_not, d_var, d_lit, d_cel, d_leq, d_fn, d_and, d_iff, IE.den, LE.den, AL.den, lenV, true_and, and_true, pcfitsM_7, pcfitsM_4, pcfitsM_2, pcfitsM_0, hF, pi2, pi5, pi6, pi7, pb1, pb2, pb4, pl4, pl6, pl8] at hp
  obtain ⟨p1, p2, p3, p4, p5, p6, p7, p8⟩ := hp
  refine all_cons (show (ρ.z.F.b 1 [.int .i64 (ρ.i .i64 1), .int .i64 (ρ.i .i64 2)]) = true from ?_) (all_nil)
  all_goals try simp only [hF, pi2, pi5, pi6, pi7, pb1, pb2, pb4, pl4, pl6, pl8]
  all_goals first | omega | skip
  all_goals
    apply beq_of
    simp only [fits_iff, may_iff, decide_eq_true_eq, Bool.and_eq_true, Bool.not_eq_true', Bool.false_eq_true, true_iff, iff_true, false_iff, iff_false, decide_eq_false_iff_not] at *
    omega
theorem vcfitsM_8 : VD TTfitsM (st0 cFitsM) wfitsM_8 := by
  intro ρ kn hp
  have hF : ρ.z.F = wt.Φ := kn.F
  simp only [h_nil, h_cons, d_le, d_eq, d_not, d_var, d_lit, d_cel, d_leq, d_fn, d_and, d_iff, IE.den, LE.den, AL.den, lenV, true_and, and_true, pcfitsM_11, pcfitsM_7, pcfitsM_4, pcfitsM_2, pcfitsM_0, hF, pi2, pi5, pi6, pi7, pb1, pb2, pb4, pl4, pl6, pl8] at hp
  obtain ⟨p1, p2, p3, p4, p5, p6, p7, p8, p9⟩ := hp
  refine all_cons (show (ρ.z.F.b 1 [.int .i64 (ρ.i .i64 1), .int .i64 (ρ.i .i64 2)]) = true from ?_) (all_nil)
  all_goals try simp only [hF, pi2, pi5, pi6, pi7, pb1, pb2, pb4, pl4, pl6, pl8]
  all_goals first | omega | skip
  all_goals
    apply beq_of
    simp only [fits_iff, may_iff, decide_eq_true_eq, Bool.and_eq_true, Bool.not_eq_true', Bool.false_eq_true, true_iff, iff_true, false_iff, iff_false, decide_eq_false_iff_not] at *
    omega
theorem vcfitsM_9 : VD TTfitsM (st0 cFitsM) wfitsM_9 := by
  intro ρ kn hp
  have hF : ρ.z.F = wt.Φ := kn.F
  simp only [h_nil, h_cons, d_le, d_eq, d_not, d_var, d_lit, d_cel, d_leq, d_fn, d_and, d_iff, IE.den, LE.den, AL.den, lenV, true_and, and_true, pcfitsM_16, pcfitsM_11, pcfitsM_7, pcfitsM_4, pcfitsM_2, pcfitsM_0, hF, pi2, pi5, pi6, pi7, pb1, pb2, pb4, pl4, pl6, pl8] at hp
  obtain ⟨p1, p2, p3, p4, p5, p6, p7, p8, p9, p10⟩ := hp
  refine all_cons (show (ρ.z.F.b 1 [.int .i64 (ρ.i .i64 1), .int .i64 (ρ.i .i64 2)]) = true from ?_) (all_nil)
  all_goals try simp only [hF, pi2, pi5, pi6, pi7, pb1, pb2, pb4, pl4, pl6, pl8]
  all_goals first | omega | skip
  all_goals
    apply beq_of
    simp only [fits_iff, may_iff, decide_eq_true_eq, Bool.and_eq_true, Bool.not_eq_true', Bool.false_eq_true, true_iff, iff_true, false_iff, iff_false, decide_eq_false_iff_not] at *
    omega
theorem vcfitsM_10 : VD TTfitsM (st0 cFitsM) wfitsM_10 := by
  intro ρ kn hp
  have hF : ρ.z.F = wt.Φ := kn.F
  simp only [h_nil, h_cons, d_le, d_eq, d_not, d_var, d_lit, d_cel, d_leq, d_fn, d_and, d_iff, IE.den, LE.den, AL.den, lenV, true_and, and_true, pcfitsM_21, pcfitsM_16, pcfitsM_11, pcfitsM_7, pcfitsM_4, pcfitsM_2, pcfitsM_0, hF, pi2, pi5, pi6, pi7, pb1, pb2, pb4, pl4, pl6, pl8] at hp
  obtain ⟨p1, p2, p3, p4, p5, p6, p7, p8, p9, p10, p11⟩ := hp
  refine all_cons (show (ρ.z.F.b 1 [.int .i64 (ρ.i .i64 1), .int .i64 (ρ.i .i64 2)]) = true from ?_) (all_nil)
  all_goals try simp only [hF, pi2, pi5, pi6, pi7, pb1, pb2, pb4, pl4, pl6, pl8]
  all_goals first | omega | skip
  all_goals
    apply beq_of
    simp only [fits_iff, may_iff, decide_eq_true_eq, Bool.and_eq_true, Bool.not_eq_true', Bool.false_eq_true, true_iff, iff_true, false_iff, iff_false, decide_eq_false_iff_not] at *
    omega
theorem vcfitsM_11 : VD TTfitsM (st0 cFitsM) wfitsM_11 := by
  intro ρ kn hp
  have hF : ρ.z.F = wt.Φ := kn.F
  simp only [h_nil, h_cons, d_le, d_eq, d_not, d_var, d_lit, d_cel, d_leq, d_fn, d_and, d_iff, IE.den, LE.den, AL.den, lenV, true_and, and_true, pcfitsM_21, pcfitsM_16, pcfitsM_11, pcfitsM_7, pcfitsM_4, pcfitsM_2, pcfitsM_0, hF, pi2, pi5, pi6, pi7, pb1, pb2, pb4, pl4, pl6, pl8] at hp
  obtain ⟨p1, p2, p3, p4, p5, p6, p7, p8, p9, p10, p11⟩ := hp
  refine all_cons (show (ρ.z.F.b 1 [.int .i64 (ρ.i .i64 1), .int .i64 (ρ.i .i64 2)]) = false from ?_) (all_nil)
  all_goals try simp only [hF, pi2, pi5, pi6, pi7, pb1, pb2, pb4, pl4, pl6, pl8]
  all_goals first | omega | skip
  all_goals
    apply beq_of
    simp only [fits_iff, may_iff, decide_eq_true_eq, Bool.and_eq_true, Bool.not_eq_true', Bool.false_eq_true, true_iff, iff_true, false_iff, iff_false, decide_eq_false_iff_not] at *
    omega
theorem vcfitsM_12 : VD TTfitsM (st0 cFitsM) wfitsM_12 := by
  intro ρ kn hp
  have hF : ρ.z.F = wt.Φ := kn.F
  simp only [h_nil, h_cons, d_le, d_eq, d_not, d_var, d_lit, d_cel, d_leq, d_fn, d_and, d_iff, IE.den, LE.den, AL.den, lenV, true_and, and_true, pcfitsM_8, pcfitsM_5, pcfitsM_2, pcfitsM_0, hF, pi2, pi5, pi6, pi7, pb1, pb2, pb4, pl4, pl6, pl8] at hp
  obtain ⟨p1, p2, p3, p4, p5, p6, p7, p8⟩ := hp
  refine all_cons (show (ρ.z.F.b 1 [.int .i64 (ρ.i .i64 1), .int .i64 (ρ.i .i64 2)]) = true from ?_) (all_nil)
  all_goals try simp only [hF, pi2, pi5, pi6, pi7, pb1, pb2, pb4, pl4, pl6, pl8]
  all_goals first | omega | skip
  all_goals
    apply beq_of
    simp only [fits_iff, may_iff, decide_eq_true_eq, Bool.and_eq_true, Bool.not_eq_true', Bool.false_eq_true, true_iff, iff_true, false_iff, iff_false, decide_eq_false_iff_not] at *
    omega
theorem vcfitsM_13 : VD TTfitsM (st0 cFitsM) wfitsM_13 := by
  intro ρ kn hp
  have hF : ρ.z.F = wt.Φ := kn.F
  simp only [h_nil, h_cons, d_le, d_eq, d_not, d_var, d_lit, d_cel, d_leq, d_fn, d_and, d_iff, IE.den, LE.den, AL.den, lenV, true_and, and_true, pcfitsM_12, pcfitsM_8, pcfitsM_5, pcfitsM_2, pcfitsM_0, hF, pi2, pi5, pi6, pi7, pb1, pb2, pb4, pl4, pl6, pl8] at hp
  obtain ⟨p1, p2, p3, p4, p5, p6, p7, p8, p9⟩ := hp
  refine all_cons (show (ρ.z.F.b 1 [.int .i64 (ρ.i .i64 1), .int .i64 (ρ.i .i64 2)]) = true from ?_) (all_nil)
  all_goals try simp only [hF, pi2, pi5, pi6, pi7, pb1, pb2, pb4, pl4, pl6, pl8]
  all_goals first | omega | skip
  all_goals
    apply beq_of
    simp only [fits_iff, may_iff, decide_eq_true_eq, Bool.and_eq_true, Bool.not_eq_true', Bool.false_eq_true, true_iff, iff_true, false_iff, iff_false, decide_eq_false_iff_not] at *
    omega
theorem vcfitsM_14 : VD TTfitsM (st0 cFitsM) wfitsM_14 := by
  intro ρ kn hp
  have hF : ρ.z.F = wt.Φ := kn.F
  simp only [h_nil, h_cons, d_le, d_eq, d_not, d_var, d_lit, d_cel, d_leq, d_fn, d_and, d_iff, IE.den, LE.den, AL.den, lenV, true_and, and_true, pcfitsM_17, pcfitsM_12, pcfitsM_8, pcfitsM_5, pcfitsM_2, pcfitsM_0, hF, pi2, pi5, pi6, pi7, pb1, pb2, pb4, pl4, pl6, pl8] at hp
  obtain ⟨p1, p2, p3, p4, p5, p6, p7, p8, p9, p10⟩ := hp
  refine all_cons (show (ρ.z.F.b 1 [.int .i64 (ρ.i .i64 1), .int .i64 (ρ.i .i64 2)]) = true from ?_) (all_nil)
  all_goals try simp only [hF, pi2, pi5, pi6, pi7, pb1, pb2, pb4, pl4, pl6, pl8]
  all_goals first | omega | skip
  all_goals
    apply beq_of
    simp only [fits_iff, may_iff, decide_eq_true_eq, Bool.and_eq_true, Bool.not_eq_true', Bool.false_eq_true, true_iff, iff_true, false_iff, iff_false, decide_eq_false_iff_not] at *
    omega
theorem vcfitsM_15 : VD TTfitsM (st0 cFitsM) wfitsM_15 := by
  intro ρ kn hp
  have hF : ρ.z.F = wt.Φ := kn.F
  simp only [h_nil, h_cons, d_le, d_eq, d_not, d_var, d_lit, d_cel, d_leq, d_fn, d_and, d_iff, IE.den, LE.den, AL.den, lenV, true_and, and_true, pcfitsM_22, pcfitsM_17, pcfitsM_12, pcfitsM_8, pcfitsM_5, pcfitsM_2, pcfitsM_0, hF, pi2, pi5, pi6, pi7, pb1, pb2, pb4, pl4, pl6, pl8] at hp
  obtain ⟨p1, p2, p3, p4, p5, p6, p7, p8, p9, p10, p11⟩ := hp
  refine all_cons (show (ρ.z.F.b 1 [.int .i64 (ρ.i .i64 1), .int .i64 (ρ.i .i64 2)]) = false from ?_) (all_nil)
  all_goals try simp only [hF, pi2, pi5, pi6, pi7, pb1, pb2, pb4, pl4, pl6, pl8]
  all_goals first | omega | skip
  all_goals
    apply beq_of
    simp only [fits_iff, may_iff, decide_eq_true_eq, Bool.and_eq_true, Bool.not_eq_true', Bool.false_eq_true, true_iff, iff_true, false_iff, iff_false, decide_eq_false_iff_not] at *
    omega
theorem vcfitsM_16 : VD TTfitsM (st0 cFitsM) wfitsM_16 := by
  intro ρ kn hp
  have hF : ρ.z.F = wt.Φ := kn.F
  simp only [h_nil, h_cons, d_le, d_eq, d_not, d_var, d_lit, d_cel, d_leq, d_fn, d_and, d_iff, IE.den, LE.den, AL.den, lenV, true_and, and_true, pcfitsM_26, pcfitsM_22, pcfitsM_17, pcfitsM_12, pcfitsM_8, pcfitsM_5, pcfitsM_2, pcfitsM_0, hF, pi2, pi5, pi6, pi7, pb1, pb2, pb4, pl4, pl6, pl8] at hp
  obtain ⟨p1, p2, p3, p4, p5, p6, p7, p8, p9, p10, p11, p12⟩ := hp
  refine all_cons (show (ρ.z.F.b 1 [.int .i64 (ρ.i .i64 1), .int .i64 (ρ.i .i64 2)]) = false from ?_) (all_nil)
  all_goals try simp only [hF, pi2, pi5, pi6, pi7, pb1, pb2, pb4, pl4, pl6, pl8]
  all_goals first | omega | skip
  all_goals
    apply beq_of
    simp only [fits_iff, may_iff, decide_eq_true_eq, Bool.and_eq_true, Bool.not_eq_true', Bool.false_eq_true, true_iff, iff_true, false_iff, iff_false, decide_eq_false_iff_not] at *
    omega
theorem vcfitsM_17 : VD TTfitsM (st0 cFitsM) wfitsM_17 := by
  intro ρ kn hp
  have hF : ρ.z.F = wt.Φ := kn.F
  simp only [h_nil, h_cons, d_le, d_eq, d_not, d_var, d_lit, d_cel, d_leq, d_fn, d_and, d_iff, IE.den, LE.den, AL.den, lenV, true_and, and_true, pcfitsM_26, pcfitsM_22, pcfitsM_17, pcfitsM_12, pcfitsM_8, pcfitsM_5, pcfitsM_2, pcfitsM_0, hF, pi2, pi5, pi6, pi7, pb1, pb2, pb4, pl4, pl6, pl8] at hp
  obtain ⟨p1, p2, p3, p4, p5, p6, p7, p8, p9, p10, p11, p12⟩ := hp
  refine all_cons (show (ρ.z.F.b 1 [.int .i64 (ρ.i .i64 1), .int .i64 (ρ.i .i64 2)]) = false from ?_) (all_nil)
  all_goals try simp only [hF, pi2, pi5, pi6, pi7, pb1, pb2, pb4, pl4, pl6, pl8]
  all_goals first | omega | skip
  all_goals
    apply beq_of
    simp only [fits_iff, may_iff, decide_eq_true_eq, Bool.and_eq_true, Bool.not_eq_true', Bool.false_eq_true, true_iff, iff_true, false_iff, iff_false, decide_eq_false_iff_not] at *
    omega
theorem vcfitsM_18 : VD TTfitsM (st0 cFitsM) wfitsM_18 := by
  intro ρ kn hp
  have hF : ρ.z.F = wt.Φ := kn.F
  simp only [h_nil, h_cons, d_le, d_eq, d_not, d_var, d_lit, d_cel, d_leq, d_fn, d_and, d_iff, IE.den, LE.den, AL.den, lenV, true_and, and_true, pcfitsM_13, pcfitsM_9, pcfitsM_5, pcfitsM_2, pcfitsM_0, hF, pi2, pi5, pi6, pi7, pb1, pb2, pb4, pl4, pl6, pl8] at hp
  obtain ⟨p1, p2, p3, p4, p5, p6, p7, p8, p9⟩ := hp
  refine all_cons (show (ρ.z.F.b 1 [.int .i64 (ρ.i .i64 1), .int .i64 (ρ.i .i64 2)]) = true from ?_) (all_nil)
  all_goals try simp only [hF, pi2, pi5, pi6, pi7, pb1, pb2, pb4, pl4, pl6, pl8]
  all_goals first | omega | skip
  all_goals
    apply beq_of
    simp only [fits_iff, may_iff, decide_eq_true_eq, Bool.and_eq_true, Bool.not_eq_true', Bool.false_eq_true, true_iff, iff_true, false_iff, iff_false, decide_eq_false_iff_not] at *
    omega
theorem vcfitsM_19 : VD TTfitsM (st0 cFitsM) wfitsM_19 := by
  intro ρ kn hp
  have hF : ρ.z.F = wt.Φ := kn.F
  simp only [h_nil, h_cons, d_le, d_eq, d_not, d_var, d_lit, d_cel, d_leq, d_fn, d_and, d_iff, IE.den, LE.den, AL.den, lenV, true_and, and_true, pcfitsM_18, pcfitsM_13, pcfitsM_9, pcfitsM_5, pcfitsM_2, pcfitsM_0, hF, pi2, pi5, pi6, pi7, pb1, pb2, pb4, pl4, pl6, pl8] at hp
  obtain ⟨p1, p2, p3, p4, p5, p6, p7, p8, p9, p10⟩ := hp
  refine all_cons (show (ρ.z.F.b 1 [.int .i64 (ρ.i .i64 1), .int .i64 (ρ.i .i64 2)]) = true from ?_) (all_nil)
  all_goals try simp only [hF, pi2, pi5, pi6, pi7, pb1, pb2, pb4, pl4, pl6, pl8]
  all_goals first | omega | skip
  all_goals
    apply beq_of
    simp only [fits_iff, may_iff, decide_eq_true_eq, Bool.and_eq_true, Bool.not_eq_true', Bool.false_eq_true, true_iff, iff_true, false_iff, iff_false, decide_eq_false_iff_not] at *
    omega
theorem vcfitsM_20 : VD TTfitsM (st0 cFitsM) wfitsM_20 := by
  intro ρ kn hp
  have hF : ρ.z.F = wt.Φ := kn.F
  simp only [h_nil, h_cons, d_le, d_eq, d_not, d_var, d_lit, d_cel, d_leq, d_fn, d_and, d_iff, IE.den, LE.den, AL.den, lenV, true_and, and_true, pcfitsM_23, pcfitsM_18, pcfitsM_13, pcfitsM_9, pcfitsM_5, pcfitsM_2, pcfitsM_0, hF, pi2, pi5, pi6, pi7, pb1, pb2, pb4, pl4, pl6, pl8] at hp
  obtain ⟨p1, p2, p3, p4, p5, p6, p7, p8, p9, p10, p11⟩ := hp
  refine all_cons (show (ρ.z.F.b 1 [.int .i64 (ρ.i .i64 1), .int .i64 (ρ.i .i64 2)]) = false from ?_) (all_nil)
  all_goals try simp only [hF, pi2, pi5, pi6, pi7, pb1, pb2, pb4, pl4, pl6, pl8]
  all_goals first | omega | skip
  all_goals
    apply beq_of
    simp only [fits_iff, may_iff, decide_eq_true_eq, Bool.and_eq_true, Bool.not_eq_true', Bool.false_eq_true, true_iff, iff_true, false_iff, iff_false, decide_eq_false_iff_not] at *
    omega
theorem vcfitsM_21 : VD TTfitsM (st0 cFitsM) wfitsM_21 := by
  intro ρ kn hp
  have hF : ρ.z.F = wt.Φ := kn.F
  simp only [h_nil, h_cons, d_le, d_eq, d_not, d_var, d_lit, d_cel, d_leq, d_fn, d_and, d_iff, IE.den, LE.den, AL.den, lenV, true_and, and_true, pcfitsM_27, pcfitsM_23, pcfitsM_18, pcfitsM_13, pcfitsM_9, pcfitsM_5, pcfitsM_2, pcfitsM_0, hF, pi2, pi5, pi6, pi7, pb1, pb2, pb4, pl4, pl6, pl8] at hp
  obtain ⟨p1, p2, p3, p4, p5, p6, p7, p8, p9, p10, p11, p12⟩ := hp
  refine all_cons (show (ρ.z.F.b 1 [.int .i64 (ρ.i .i64 1), .int .i64 (ρ.i .i64 2)]) = true from ?_) (all_nil)
  all_goals try simp only [hF, pi2, pi5, pi6, pi7, pb1, pb2, pb4, pl4, pl6, pl8]
  all_goals first | omega | skip
  all_goals
    apply beq_of
    simp only [fits_iff, may_iff, decide_eq_true_eq, Bool.and_eq_true, Bool.not_eq_true', Bool.false_eq_true, true_iff, iff_true, false_iff, iff_false, decide_eq_false_iff_not] at *
    omega
theorem vcfitsM_22 : VD TTfitsM (st0 cFitsM) wfitsM_22 := by
  intro ρ kn hp
  have hF : ρ.z.F = wt.Φ := kn.F
  simp only [h_nil, h_cons, d_le, d_eq, d_not, d_var, d_lit, d_cel, d_leq, d_fn, d_and, d_iff, IE.den, LE.den, AL.den, lenV, true_and, and_true, pcfitsM_30, pcfitsM_27, pcfitsM_23, pcfitsM_18, pcfitsM_13, pcfitsM_9, pcfitsM_5, pcfitsM_2, pcfitsM_0, hF, pi2, pi5, pi6, pi7, pb1, pb2, pb4, pl4, pl6, pl8] at hp
  obtain ⟨p1, p2, p3, p4, p5, p6, p7, p8, p9, p10, p11, p12, p13⟩ := hp
  refine all_cons (show (ρ.z.F.b 1 [.int .i64 (ρ.i .i64 1), .int .i64 (ρ.i .i64 2)]) = false from ?_) (all_nil)
  all_goals try simp only [hF, pi2, pi5, pi6, pi7, pb1, pb2, pb4, pl4, pl6, pl8]
  all_goals first | omega | skip
  all_goals
    apply beq_of
    simp only [fits_iff, may_iff, decide_eq_true_eq, Bool.and_eq_true, Bool.not_eq_true', Bool.false_eq_true, true_iff, iff_true, false_iff, iff_false, decide_eq_false_iff_not] at *
    omega
theorem vcfitsM_23 : VD TTfitsM (st0 cFitsM) wfitsM_23 := by
  intro ρ kn hp
  have hF : ρ.z.F = wt.Φ := kn.F
  simp only [h_nil, h_cons, d_le, d_eq, d_not, d_var, d_lit, d_cel, d_leq, d_fn, d_and, d_iff, IE.den, LE.den, AL.den, lenV, true_and, and_true, pcfitsM_30, pcfitsM_27, pcfitsM_23, pcfitsM_18, pcfitsM_13, pcfitsM_9, pcfitsM_5, pcfitsM_2, pcfitsM_0, hF, pi2, pi5, pi6, pi7, pb1, pb2, pb4, pl4, pl6, pl8] at hp
  obtain ⟨p1, p2, p3, p4, p5, p6, p7, p8, p9, p10, p11, p12, p13⟩ := hp
  refine all_cons (show (ρ.z.F.b 1 [.int .i64 (ρ.i .i64 1), .int .i64 (ρ.i .i64 2)]) = false from ?_) (all_nil)
  all_goals try simp only [hF, pi2, pi5, pi6, pi7, pb1, pb2, pb4, pl4, pl6, pl8]
  all_goals first | omega | skip
  all_goals
    apply beq_of
    simp only [fits_iff, may_iff, decide_eq_true_eq, Bool.and_eq_true, Bool.not_eq_true', Bool.false_eq_true, true_iff, iff_true, false_iff, iff_false, decide_eq_false_iff_not] at *
    omega
theorem vcfitsM_24 : VD TTfitsM (st0 cFitsM) wfitsM_24 := by
  intro ρ kn hp
  have hF : ρ.z.F = wt.Φ := kn.F
  simp only [h_nil, h_cons, d_le, d_eq, d_not, d_var, d_lit, d_cel, d_leq, d_fn, d_and, d_iff, IE.den, LE.den, AL.den, lenV, true_and, and_true, pcfitsM_19, pcfitsM_14, pcfitsM_9, pcfitsM_5, pcfitsM_2, pcfitsM_0, hF, pi2, pi5, pi6, pi7, pb1, pb2, pb4, pl4, pl6, pl8] at hp
  obtain ⟨p1, p2, p3, p4, p5, p6, p7, p8, p9, p10⟩ := hp
  refine all_cons (show (ρ.z.F.b 1 [.int .i64 (ρ.i .i64 1), .int .i64 (ρ.i .i64 2)]) = true from ?_) (all_nil)
  all_goals try simp only [hF, pi2, pi5, pi6, pi7, pb1, pb2, pb4, pl4, pl6, pl8]
  all_goals first | omega | skip
  all_goals
    apply beq_of
    simp only [fits_iff, may_iff, decide_eq_true_eq, Bool.and_eq_true, Bool.not_eq_true', Bool.false_eq_true, true_iff, iff_true, false_iff, iff_false, decide_eq_false_iff_not] at *
    omega
theorem vcfitsM_25 : VD TTfitsM (st0 cFitsM) wfitsM_25 := by
  intro ρ kn hp
  have hF : ρ.z.F = wt.Φ := kn.F
  simp only [h_nil, h_cons, d_le, d_eq, d_not, d_var, d_lit, d_cel, d_leq, d_fn, d_and, d_iff, IE.den, LE.den, AL.den, lenV, true_and, and_true, pcfitsM_24, pcfitsM_19, pcfitsM_14, pcfitsM_9, pcfitsM_5, pcfitsM_2, pcfitsM_0, hF, pi2, pi5, pi6, pi7, pb1, pb2, pb4, pl4, pl6, pl8] at hp
  obtain ⟨p1, p2, p3, p4, p5, p6, p7, p8, p9, p10, p11⟩ := hp
  refine all_cons (show (ρ.z.F.b 1 [.int .i64 (ρ.i .i64 1), .int .i64 (ρ.i .i64 2)]) = true from ?_) (all_nil)
  all_goals try simp only [hF, pi2, pi5, pi6, pi7, pb1, pb2, pb4, pl4, pl6, pl8]
  all_goals first | omega | skip
  all_goals
    apply beq_of
    simp only [fits_iff, may_iff, decide_eq_true_eq, Bool.and_eq_true, Bool.not_eq_true', Bool.false_eq_true, true_iff, iff_true, false_iff, iff_false, decide_eq_false_iff_not] at *
    omega
theorem vcfitsM_26 : VD TTfitsM (st0 cFitsM) wfitsM_26 := by
  intro ρ kn hp
  have hF : ρ.z.F = wt.Φ := kn.F
  simp only [h_nil, h_cons, d_le, d_eq, d_not, d_var, d_lit, d_cel, d_leq, d_fn, d_and, d_iff, IE.den, LE.den, AL.den, lenV, true_and, and_true, pcfitsM_28, pcfitsM_24, pcfitsM_19, pcfitsM_14, pcfitsM_9, pcfitsM_5, pcfitsM_2, pcfitsM_0, hF, pi2, pi5, pi6, pi7, pb1, pb2, pb4, pl4, pl6, pl8] at hp
  obtain ⟨p1, p2, p3, p4, p5, p6, p7, p8, p9, p10, p11, p12⟩ := hp
  refine all_cons (show (ρ.z.F.b 1 [.int .i64 (ρ.i .i64 1), .int .i64 (ρ.i .i64 2)]) = false from ?_) (all_nil)
  all_goals try simp only [hF, pi2, pi5, pi6, pi7, pb1, pb2, pb4, pl4, pl6, pl8]
  all_goals first | omega | skip
  all_goals
    apply beq_of
    simp only [fits_iff, may_iff, decide_eq_true_eq, Bool.and_eq_true, Bool.not_eq_true', Bool.false_eq_true, true_iff, iff_true, false_iff, iff_false, decide_eq_false_iff_not] at *
    omega
theorem vcfitsM_27 : VD TTfitsM (st0 cFitsM) wfitsM_27 := by
  intro ρ kn hp
  have hF : ρ.z.F = wt.Φ := kn.F
  simp only [h_nil, h_cons, d_le, d_eq, d_not, d_var, d_lit, d_cel, d_leq, d_fn, d_and, d_iff, IE.den, LE.den, AL.den, lenV, true_and, and_true, pcfitsM_31, pcfitsM_28, pcfitsM_24, pcfitsM_19, pcfitsM_14, pcfitsM_9, pcfitsM_5, pcfitsM_2, pcfitsM_0, hF, pi2, pi5, pi6, pi7, pb1, pb2, pb4, pl4, pl6, pl8] at hp
  obtain ⟨p1, p2, p3, p4, p5, p6, p7, p8, p9, p10, p11, p12, p13⟩ := hp
  refine all_cons (show (ρ.z.F.b 1 [.int .i64 (ρ.i .i64 1), .int .i64 (ρ.i .i64 2)]) = false from ?_) (all_nil)
  all_goals try simp only [hF, pi2, pi5, pi6, pi7, pb1, pb2, pb4, pl4, pl6, pl8]
  all_goals first | omega | skip
  all_goals
    apply beq_of
    simp only [fits_iff, may_iff, decide_eq_true_eq, Bool.and_eq_true, Bool.not_eq_true', Bool.false_eq_true, true_iff, iff_true, false_iff, iff_false, decide_eq_false_iff_not] at *
    omega
theorem vcfitsM_28 : VD TTfitsM (st0 cFitsM) wfitsM_28 := by
  intro ρ kn hp
  have hF : ρ.z.F = wt.Φ := kn.F
  simp only [h_nil, h_cons, d_le, d_eq, d_not, d_var, d_lit, d_cel, d_leq, d_fn, d_and, d_iff, IE.den, LE.den, AL.den, lenV, true_and, and_true, pcfitsM_33, pcfitsM_31, pcfitsM_28, pcfitsM_24, pcfitsM_19, pcfitsM_14, pcfitsM_9, pcfitsM_5, pcfitsM_2, pcfitsM_0, hF, pi2, pi5, pi6, pi7, pb1, pb2, pb4, pl4, pl6, pl8] at hp
  obtain ⟨p1, p2, p3, p4, p5, p6, p7, p8, p9, p10, p11, p12, p13, p14⟩ := hp
  refine all_cons (show (ρ.z.F.b 1 [.int .i64 (ρ.i .i64 1), .int .i64 (ρ.i .i64 2)]) = false from ?_) (all_nil)
  all_goals try simp only [hF, pi2, pi5, pi6, pi7, pb1, pb2, pb4, pl4, pl6, pl8]
  all_goals first | omega | skip
  all_goals
    apply beq_of
    simp only [fits_iff, may_iff, decide_eq_true_eq, Bool.and_eq_true, Bool.not_eq_true', Bool.false_eq_true, true_iff, iff_true, false_iff, iff_false, decide_eq_false_iff_not] at *
    omega
theorem vcfitsM_29 : VD TTfitsM (st0 cFitsM) wfitsM_29 := by
  intro ρ kn hp
  have hF : ρ.z.F = wt.Φ := kn.F
  simp only [h_nil, h_cons, d_le, d_eq, d_not, d_var, d_lit, d_cel, d_leq, d_fn, d_and, d_iff, IE.den, LE.den, AL.den, lenV, true_and, and_true, pcfitsM_33, pcfitsM_31, pcfitsM_28, pcfitsM_24, pcfitsM_19, pcfitsM_14, pcfitsM_9, pcfitsM_5, pcfitsM_2, pcfitsM_0, hF, pi2, pi5, pi6, pi7, pb1, pb2, pb4, pl4, pl6, pl8] at hp
  obtain ⟨p1, p2, p3, p4, p5, p6, p7, p8, p9, p10, p11, p12, p13, p14⟩ := hp
  refine all_cons (show (ρ.z.F.b 1 [.int .i64 (ρ.i .i64 1), .int .i64 (ρ.i .i64 2)]) = false from ?_) (all_nil)
  all_goals try simp only [hF, pi2, pi5, pi6, pi7, pb1, pb2, pb4, pl4, pl6, pl8]
  all_goals first | omega | skip
  all_goals
    apply beq_of
    simp only [fits_iff, may_iff, decide_eq_true_eq, Bool.and_eq_true, Bool.not_eq_true', Bool.false_eq_true, true_iff, iff_true, false_iff, iff_false, decide_eq_false_iff_not] at *
    omega
theorem vcfitsM_30 : VD TTfitsM (st0 cFitsM) wfitsM_30 := by
  intro ρ kn hp
  have hF : ρ.z.F = wt.Φ := kn.F
  simp only [h_nil, h_cons, d_le, d_eq, d_not, d_var, d_lit, d_cel, d_leq, d_fn, d_and, d_iff, IE.den, LE.den, AL.den, lenV, true_and, and_true, pcfitsM_20, pcfitsM_14, pcfitsM_9, pcfitsM_5, pcfitsM_2, pcfitsM_0, hF, pi2, pi5, pi6, pi7, pb1, pb2, pb4, pl4, pl6, pl8] at hp
  obtain ⟨p1, p2, p3, p4, p5, p6, p7, p8, p9, p10⟩ := hp
  refine all_cons (show (ρ.z.F.b 1 [.int .i64 (ρ.i .i64 1), .int .i64 (ρ.i .i64 2)]) = true from ?_) (all_nil)
  all_goals try simp only [hF, pi2, pi5, pi6, pi7, pb1, pb2, pb4, pl4, pl6, pl8]
  all_goals first | omega | skip
  all_goals
    apply beq_of
    simp only [fits_iff, may_iff, decide_eq_true_eq, Bool.and_eq_true, Bool.not_eq_true', Bool.false_eq_true, true_iff, iff_true, false_iff, iff_false, decide_eq_false_iff_not] at *
    omega
theorem vcfitsM_31 : VD TTfitsM (st0 cFitsM) wfitsM_31 := by
  intro ρ kn hp
  have hF : ρ.z.F = wt.Φ := kn.F
  simp only [h_nil, h_cons, d_le, d_eq, d_not, d_var, d_lit, d_cel, d_leq, d_fn, d_and, d_iff, IE.den, LE.den, AL.den, lenV, true_and, and_true, pcfitsM_25, pcfitsM_20, pcfitsM_14, pcfitsM_9, pcfitsM_5, pcfitsM_2, pcfitsM_0, hF, pi2, pi5, pi6, pi7, pb1, pb2, pb4, pl4, pl6, pl8] at hp
  obtain ⟨p1, p2, p3, p4, p5, p6, p7, p8, p9, p10, p11⟩ := hp
  refine all_cons (show (ρ.z.F.b 1 [.int .i64 (ρ.i .i64 1), .int .i64 (ρ.i .i64 2)]) = false from ?_) (all_nil)
  all_goals try simp only [hF, pi2, pi5, pi6, pi7, pb1, pb2, pb4, pl4, pl6, pl8]
  all_goals first | omega | skip
  all_goals
    apply beq_of
    simp only [fits_iff, may_iff, decide_eq_true_eq, Bool.and_eq_true, Bool.not_eq_true', Bool.false_eq_true, true_iff, iff_true, false_iff, iff_false, decide_eq_false_iff_not] at *
    omega
theorem vcfitsM_32 : VD TTfitsM (st0 cFitsM) wfitsM_32 := by
  intro ρ kn hp
  have hF : ρ.z.F = wt.Φ := kn.F
  simp only [h_nil, h_cons, d_le, d_eq, d_not, d_var, d_lit, d_cel, d_leq, d_fn, d_and, d_iff, IE.den, LE.den, AL.den, lenV, true_and, and_true, pcfitsM_29, pcfitsM_25, pcfitsM_20, pcfitsM_14, pcfitsM_9, pcfitsM_5, pcfitsM_2, pcfitsM_0, hF, pi2, pi5, pi6, pi7, pb1, pb2, pb4, pl4, pl6, pl8] at hp
  obtain ⟨p1, p2, p3, p4, p5, p6, p7, p8, p9, p10, p11, p12⟩ := hp
  refine all_cons (show (ρ.z.F.b 1 [.int .i64 (ρ.i .i64 1), .int .i64 (ρ.i .i64 2)]) = false from ?_) (all_nil)
  all_goals try simp only [hF, pi2, pi5, pi6, pi7, pb1, pb2, pb4, pl4, pl6, pl8]
  all_goals first | omega | skip
  all_goals
    apply beq_of
    simp only [fits_iff, may_iff, decide_eq_true_eq, Bool.and_eq_true, Bool.not_eq_true', Bool.false_eq_true, true_iff, iff_true, false_iff, iff_false, decide_eq_false_iff_not] at *
    omega
theorem vcfitsM_33 : VD TTfitsM (st0 cFitsM) wfitsM_33 := by
  intro ρ kn hp
  have hF : ρ.z.F = wt.Φ := kn.F
  simp only [h_nil, h_cons, d_le, d_eq, d_not, d_var, d_lit, d_cel, d_leq, d_fn, d_and, d_iff, IE.den, LE.den, AL.den, lenV, true_and, and_true, pcfitsM_32, pcfitsM_29, pcfitsM_25, pcfitsM_20, pcfitsM_14, pcfitsM_9, pcfitsM_5, pcfitsM_2, pcfitsM_0, hF, pi2, pi5, pi6, pi7, pb1, pb2, pb4, pl4, pl6, pl8] at hp
  obtain ⟨p1, p2, p3, p4, p5, p6, p7, p8, p9, p10, p11, p12, p13⟩ := hp
  refine all_cons (show (ρ.z.F.b 1 [.int .i64 (ρ.i .i64 1), .int .i64 (ρ.i .i64 2)]) = false from ?_) (all_nil)
  all_goals try simp only [hF, pi2, pi5, pi6, pi7, pb1, pb2, pb4, pl4, pl6, pl8]
  all_goals first | omega | skip
  all_goals
    apply beq_of
    simp only [fits_iff, may_iff, decide_eq_true_eq, Bool.and_eq_true, Bool.not_eq_true', Bool.false_eq_true, true_iff, iff_true, false_iff, iff_false, decide_eq_false_iff_not] at *
    omega
theorem vcfitsM_34 : VD TTfitsM (st0 cFitsM) wfitsM_34 := by
  intro ρ kn hp
  have hF : ρ.z.F = wt.Φ := kn.F
  simp only [h_nil, h_cons, d_le, d_eq, d_not, d_var, d_lit, d_cel, d_leq, d_fn, d_and, d_iff, IE.den, LE.den, AL.den, lenV, true_and, and_true, pcfitsM_34, pcfitsM_32, pcfitsM_29, pcfitsM_25, pcfitsM_20, pcfitsM_14, pcfitsM_9, pcfitsM_5, pcfitsM_2, pcfitsM_0, hF, pi2, pi5, pi6, pi7, pb1, pb2, pb4, pl4, pl6, pl8] at hp
  obtain ⟨p1, p2, p3, p4, p5, p6, p7, p8, p9, p10, p11, p12, p13, p14⟩ := hp
  refine all_cons (show (ρ.z.F.b 1 [.int .i64 (ρ.i .i64 1), .int .i64 (ρ.i .i64 2)]) = false from ?_) (all_nil)
  all_goals try simp only [hF, pi2, pi5, pi6, pi7, pb1, pb2, pb4, pl4, pl6, pl8]
  all_goals first | omega | skip
  all_goals
    apply beq_of
    simp only [fits_iff, may_iff, decide_eq_true_eq, Bool.and_eq_true, Bool.not_eq_true', Bool.false_eq_true, true_iff, iff_true, false_iff, iff_false, decide_eq_false_iff_not] at *
    omega
theorem vcfitsM_35 : VD TTfitsM (st0 cFitsM) wfitsM_35 := by
  intro ρ kn hp
  have hF : ρ.z.F = wt.Φ := kn.F
  simp only [h_nil, h_cons, d_le, d_eq, d_not, d_var, d_lit, d_cel, d_leq, d_fn, d_and, d_iff, IE.den, LE.den, AL.den, lenV, true_and, and_true, pcfitsM_34, pcfitsM_32, pcfitsM_29, pcfitsM_25, pcfitsM_20, pcfitsM_14, pcfitsM_9, pcfitsM_5, pcfitsM_2, pcfitsM_0, hF, pi2, pi5, pi6, pi7, pb1, pb2, pb4, pl4, pl6, pl8] at hp
  obtain ⟨p1, p2, p3, p4, p5, p6, p7, p8, p9, p10, p11, p12, p13, p14⟩ := hp
  refine all_cons (show (ρ.z.F.b 1 [.int .i64 (ρ.i .i64 1), .int .i64 (ρ.i .i64 2)]) = false from ?_) (all_nil)
  all_goals try simp only [hF, pi2, pi5, pi6, pi7, pb1, pb2, pb4, pl4, pl6, pl8]
  all_goals first | omega | skip
  all_goals
    apply beq_of
    simp only [fits_iff, may_iff, decide_eq_true_eq, Bool.and_eq_true, Bool.not_eq_true', Bool.false_eq_true, true_iff, iff_true, false_iff, iff_false, decide_eq_false_iff_not] at *
    omega
theorem told_fitsM : Sx.Told wt.Φ cFitsM := told_vw (cs := []) (all_nil) 4000 vwfitsM (by kernel_rfl) (by kernel_rfl) (by kernel_rfl) (post_nil rfl) (by kernel_rfl) (by kernel_rfl) (all_cons vcfitsM_0 (all_cons vcfitsM_1 (all_cons vcfitsM_2 (all_cons vcfitsM_3 (all_cons vcfitsM_4 (all_cons vcfitsM_5 (all_cons vcfitsM_6 (all_cons vcfitsM_7 (all_cons vcfitsM_8 (all_cons vcfitsM_9 (all_cons vcfitsM_10 (all_cons vcfitsM_11 (all_cons vcfitsM_12 (all_cons vcfitsM_13 (all_cons vcfitsM_14 (all_cons vcfitsM_15 (all_cons vcfitsM_16 (all_cons vcfitsM_17 (all_cons vcfitsM_18 (all_cons vcfitsM_19 (all_cons vcfitsM_20 (all_cons vcfitsM_21 (all_cons vcfitsM_22 (all_cons vcfitsM_23 (all_cons vcfitsM_24 (all_cons vcfitsM_25 (all_cons vcfitsM_26 (all_cons vcfitsM_27 (all_cons vcfitsM_28 (all_cons vcfitsM_29 (all_cons vcfitsM_30 (all_cons vcfitsM_31 (all_cons vcfitsM_32 (all_cons vcfitsM_33 (all_cons vcfitsM_34 (all_cons vcfitsM_35 (all_nil)))))))))))))))))))))))))))))))))))))
noncomputable section
abbrev TTrfin : Tab := T wt.Φ cRFin.roms []
def trfin1 : Cfg := { top := ⟨26, over (opqS 10000 20) [(0, (SV.rom 0 (IE.lit 0) (IE.len (LE.rom 0)) none)), (1, (SV.int .i64 (IE.var .i64 1))), (5, (SV.int .i64 (IE.var .i64 1000)))], ogt (loopTodo (bodyOf (T wt.Φ [] []) 26) 0), [], false, none⟩, rest := [], heap := [], next := 1, pc := .lit true :: ([] ++ [(BE.not (BE.le (IE.len (LE.rom 0)) (IE.fn .i64 2 (AL.lst (LE.rom 0) (AL.int .i64 (IE.var .i64 1) AL.nil))))), (BE.le (IE.len (LE.rom 0)) (IE.lit 1000)), (BE.le (IE.lit 0) (IE.var .i64 1000)), (BE.le (IE.var .i64 1000) (IE.len (LE.rom 0)))]) }
def tmrfin : List (Nat × Cfg) := [(0, startF 26 cRFin.pat (.lit true :: cRFin.pre)), (1, trfin1)]
def selrfin : Sel := [(26, 1, 0, 1)]
def wrfin0_0 : VW := (VW.cut 1 [(BE.lit true), (BE.le (IE.len (LE.rom 0)) (IE.lit 1000)), (BE.not (BE.le (IE.len (LE.rom 0)) (IE.fn .i64 2 (AL.lst (LE.rom 0) (AL.int .i64 (IE.var .i64 1) AL.nil)))))] (Sx.Sub.mk [(.i64, (1000, (IE.lit 0)))] [] [] [] [] []))
def vwrfin0 : List VW := [wrfin0_0]
def pcrfin1_0 : List BE := [(BE.lit true), (BE.not (BE.le (IE.len (LE.rom 0)) (IE.fn .i64 2 (AL.lst (LE.rom 0) (AL.int .i64 (IE.var .i64 1) AL.nil))))), (BE.le (IE.len (LE.rom 0)) (IE.lit 1000)), (BE.le (IE.lit 0) (IE.var .i64 1000)), (BE.le (IE.var .i64 1000) (IE.len (LE.rom 0)))]
def pcrfin1_1 : List BE := ((BE.not (BE.le (IE.len (LE.rom 0)) (IE.var .i64 1000))) :: pcrfin1_0)
def wrfin1_0 : VW := (VW.done ((BE.le (IE.len (LE.rom 0)) (IE.var .i64 1000)) :: pcrfin1_0) (some [(G.i (IE.fn .i64 2 (AL.lst (LE.rom 0) (AL.int .i64 (IE.var .i64 1) AL.nil))) (IE.lit (-1)))]))
def wrfin1_1 : VW := (VW.done ((BE.eq (IE.cel .i64 (LE.rom 0) (IE.var .i64 1000) 0) (IE.var .i64 1)) :: pcrfin1_1) (some [(G.i (IE.fn .i64 2 (AL.lst (LE.rom 0) (AL.int .i64 (IE.var .i64 1) AL.nil))) (IE.var .i64 1000))]))
def wrfin1_2 : VW := (VW.cut 1 ((BE.not (BE.eq (IE.cel .i64 (LE.rom 0) (IE.var .i64 1000) 0) (IE.var .i64 1))) :: pcrfin1_1) (Sx.Sub.mk [(.i64, (1000, (IE.add (IE.var .i64 1000) (IE.lit 1))))] [] [] [] [] []))
def vwrfin1 : List VW := [wrfin1_0, wrfin1_1, wrfin1_2]
def vwrfin : Nat → List VW
  | 0 => vwrfin0
  | 1 => vwrfin1
  | _ => []
end
def invrfin : Nat → Lt → Prop
  | 1, l => findN (l.z.rl 0) (l.i .i64 1) (l.i .i64 1000).toNat = (l.i .i64 1000).toNat
  | _, _ => True
def msrfin : Nat → Lt → Nat
  | 0, l => (l.z.rl 0).length + 1
  | 1, l => (l.z.rl 0).length - (l.i .i64 1000).toNat
  | _, _ => 0
theorem vcrfin0_0 : VC TTrfin invrfin msrfin 0 (startF 26 cRFin.pat (.lit true :: cRFin.pre)) wrfin0_0 := by
  intro ρ kn hi hp
  have hF : ρ.z.F = wt.Φ := kn.F
  simp only [h_nil, h_cons, d_le, d_eq, d_not, d_var, d_lit, d_cel, d_leq, d_fn, d_and, d_iff, IE.den, LE.den, AL.den, lenV, true_and, and_true, hF, pi2, pi5, pi6, pi7, pb1, pb2, pb4, pl4, pl6, pl8] at hp
  obtain ⟨p1, p2⟩ := hp
  refine (show (findN (ρ.z.rl 0) (ρ.i .i64 1) (0 : Int).toNat = (0 : Int).toNat) ∧ (((ρ.z.rl 0).length - (0 : Int).toNat : Nat) < (ρ.z.rl 0).length + 1) from ?_)
  exact ⟨rfl, by omega⟩
def ivrfin1 (ρ : Rho) : Prop := findN (ρ.z.rl 0) (ρ.i .i64 1) (ρ.i .i64 1000).toNat = (ρ.i .i64 1000).toNat
theorem vcrfin1_0 : VC TTrfin invrfin msrfin 1 trfin1 wrfin1_0 := by
  intro ρ kn hi hp
  have hi : ivrfin1 ρ := hi
  unfold ivrfin1 at hi
  have hF : ρ.z.F = wt.Φ := kn.F
  simp only [h_nil, h_cons, d_le, d_eq, d_not, d_var, d_lit, d_cel, d_leq, d_fn, d_and, d_iff, IE.den, LE.den, AL.den, lenV, true_and, and_true, pcrfin1_0, hF, pi2, pi5, pi6, pi7, pb1, pb2, pb4, pl4, pl6, pl8] at hp
  obtain ⟨p1, p2, p3, p4, p5⟩ := hp
  refine all_cons (show (clampK .i64 (ρ.z.F.i 2 [.lst (ρ.z.rl 0), .int .i64 (ρ.i .i64 1)])) = (-1 : Int) from ?_) (all_nil)
  all_goals try simp only [hF, pi2, pi5, pi6, pi7, pb1, pb2, pb4, pl4, pl6, pl8]
  all_goals
    have b2 : findN (ρ.z.rl 0) (ρ.i .i64 1) (ρ.z.rl 0).length ≤ (ρ.z.rl 0).length := first_le _ _
    have c : clampK .i64 ((findN (ρ.z.rl 0) (ρ.i .i64 1) (ρ.z.rl 0).length : Nat) : Int) = ((findN (ρ.z.rl 0) (ρ.i .i64 1) (ρ.z.rl 0).length : Nat) : Int) := clampS (by omega) (by omega)
    simp only [c] at *
    first
      | (have e := find_hit (by omega) (by omega) hi (by assumption); omega)
      | (have e := find_miss (by omega) (by omega) (by omega) hi; omega)
theorem vcrfin1_1 : VC TTrfin invrfin msrfin 1 trfin1 wrfin1_1 := by
  intro ρ kn hi hp
  have hi : ivrfin1 ρ := hi
  unfold ivrfin1 at hi
  have hF : ρ.z.F = wt.Φ := kn.F
  simp only [h_nil, h_cons, d_le, d_eq, d_not, d_var, d_lit, d_cel, d_leq, d_fn, d_and, d_iff, IE.den, LE.den, AL.den, lenV, true_and, and_true, pcrfin1_1, pcrfin1_0, hF, pi2, pi5, pi6, pi7, pb1, pb2, pb4, pl4, pl6, pl8] at hp
  obtain ⟨p1, p2, p3, p4, p5, p6⟩ := hp
  refine all_cons (show (clampK .i64 (ρ.z.F.i 2 [.lst (ρ.z.rl 0), .int .i64 (ρ.i .i64 1)])) = (ρ.i .i64 1000) from ?_) (all_nil)
  all_goals try simp only [hF, pi2, pi5, pi6, pi7, pb1, pb2, pb4, pl4, pl6, pl8]
  all_goals
    have b2 : findN (ρ.z.rl 0) (ρ.i .i64 1) (ρ.z.rl 0).length ≤ (ρ.z.rl 0).length := first_le _ _
    have c : clampK .i64 ((findN (ρ.z.rl 0) (ρ.i .i64 1) (ρ.z.rl 0).length : Nat) : Int) = ((findN (ρ.z.rl 0) (ρ.i .i64 1) (ρ.z.rl 0).length : Nat) : Int) := clampS (by omega) (by omega)
    simp only [c] at *
    first
      | (have e := find_hit (by omega) (by omega) hi (by assumption); omega)
      | (have e := find_miss (by omega) (by omega) (by omega) hi; omega)
theorem vcrfin1_2 : VC TTrfin invrfin msrfin 1 trfin1 wrfin1_2 := by
  intro ρ kn hi hp
  have hi : ivrfin1 ρ := hi
  unfold ivrfin1 at hi
  have hF : ρ.z.F = wt.Φ := kn.F
  simp only [h_nil, h_cons, d_le, d_eq, d_not, d_var, d_lit, d_cel, d_leq, d_fn, d_and, d_iff, IE.den, LE.den, AL.den, lenV, true_and, and_true, pcrfin1_1, pcrfin1_0, hF, pi2, pi5, pi6, pi7, pb1, pb2, pb4, pl4, pl6, pl8] at hp
  obtain ⟨p1, p2, p3, p4, p5, p6⟩ := hp
  refine (show (findN (ρ.z.rl 0) (ρ.i .i64 1) ((ρ.i .i64 1000) + (1 : Int)).toNat = ((ρ.i .i64 1000) + (1 : Int)).toNat) ∧ (((ρ.z.rl 0).length - ((ρ.i .i64 1000) + (1 : Int)).toNat : Nat) < (ρ.z.rl 0).length - (ρ.i .i64 1000).toNat) from ?_)
  exact ⟨find_go (by omega) hi (by assumption), by omega⟩
theorem vcsrfin0 : ∀ v ∈ vwrfin 0, VC TTrfin invrfin msrfin 0 (startF 26 cRFin.pat (.lit true :: cRFin.pre)) v := all_cons vcrfin0_0 (all_nil)
theorem okrfin0 : cfgOk (startF 26 cRFin.pat (.lit true :: cRFin.pre)) = true := by kernel_rfl
theorem sgrfin0 : segL cRFin.roms cRFin (seg TTrfin selrfin 600 tmrfin (startF 26 cRFin.pat (.lit true :: cRFin.pre))) = (true, codesR tmrfin (views (seg TTrfin selrfin 600 tmrfin (startF 26 cRFin.pat (.lit true :: cRFin.pre)))), vwrfin 0) := by kernel_rfl
theorem vcsrfin1 : ∀ v ∈ vwrfin 1, VC TTrfin invrfin msrfin 1 trfin1 v := all_cons vcrfin1_0 (all_cons vcrfin1_1 (all_cons vcrfin1_2 (all_nil)))
theorem okrfin1 : cfgOk trfin1 = true := by kernel_rfl
theorem sgrfin1 : segL cRFin.roms cRFin (seg TTrfin selrfin 600 tmrfin trfin1) = (true, codesR tmrfin (views (seg TTrfin selrfin 600 tmrfin trfin1)), vwrfin 1) := by kernel_rfl
theorem lnrfin0 : ∀ ρ, Known TTrfin (startF 26 cRFin.pat (.lit true :: cRFin.pre)) ρ → invrfin 0 ρ.lt → Holds ρ (leanOf (Cfg.pc (startF 26 cRFin.pat (.lit true :: cRFin.pre)))) := by
  intro ρ _ _
  exact (show Holds ρ [] from fun p hp => by cases hp)
theorem lnrfin1 : ∀ ρ, Known TTrfin trfin1 ρ → invrfin 1 ρ.lt → Holds ρ (leanOf (Cfg.pc trfin1)) := by
  intro ρ _ _
  exact (show Holds ρ [] from fun p hp => by cases hp)
theorem told_rfin : Sx.Told wt.Φ cRFin := by
  refine told_of (cs := []) (all_nil) (sel := selrfin) 600 tmrfin invrfin msrfin vwrfin 0 (pc0 := (.lit true :: cRFin.pre)) (by kernel_rfl) (by kernel_rfl) (by kernel_rfl) post_rfin ?_ ?_ ?_ rfl (fun ρ _ h => h.cons (p := .lit true) (by simp only [BE.den])) (fun _ _ _ _ => trivial) ?_
  · intro k C h
    have := lk_mem h
    simp only [tmrfin, List.mem_cons, Prod.mk.injEq, List.not_mem_nil, or_false] at this
    rcases this with ⟨rfl, rfl⟩ | ⟨rfl, rfl⟩
    · exact okrfin0
    · exact okrfin1
  · intro k C h
    have := lk_mem h
    simp only [tmrfin, List.mem_cons, Prod.mk.injEq, List.not_mem_nil, or_false] at this
    rcases this with ⟨rfl, rfl⟩ | ⟨rfl, rfl⟩
    · exact sgrfin0
    · exact sgrfin1
  · intro k C h
    have := lk_mem h
    simp only [tmrfin, List.mem_cons, Prod.mk.injEq, List.not_mem_nil, or_false] at this
    rcases this with ⟨rfl, rfl⟩ | ⟨rfl, rfl⟩
    · exact vcsrfin0
    · exact vcsrfin1
  · intro k C h
    have := lk_mem h
    simp only [tmrfin, List.mem_cons, Prod.mk.injEq, List.not_mem_nil, or_false] at this
    rcases this with ⟨rfl, rfl⟩ | ⟨rfl, rfl⟩
    · exact lnrfin0
    · exact lnrfin1
noncomputable section
abbrev TTrfout : Tab := T wt.Φ cRFout.roms []
def trfout1 : Cfg := { top := ⟨26, over (opqS 10000 20) [(0, (SV.rom 0 (IE.lit 0) (IE.len (LE.rom 0)) none)), (1, (SV.int .i64 (IE.var .i64 1))), (5, (SV.int .i64 (IE.var .i64 1000)))], ogt (loopTodo (bodyOf (T wt.Φ [] []) 26) 0), [], false, none⟩, rest := [], heap := [], next := 1, pc := .lit true :: ([] ++ [(BE.le (IE.len (LE.rom 0)) (IE.fn .i64 2 (AL.lst (LE.rom 0) (AL.int .i64 (IE.var .i64 1) AL.nil)))), (BE.le (IE.len (LE.rom 0)) (IE.lit 1000)), (BE.le (IE.lit 0) (IE.var .i64 1000)), (BE.le (IE.var .i64 1000) (IE.len (LE.rom 0)))]) }
def tmrfout : List (Nat × Cfg) := [(0, startF 26 cRFout.pat (.lit true :: cRFout.pre)), (1, trfout1)]
def selrfout : Sel := [(26, 1, 0, 1)]
def wrfout0_0 : VW := (VW.cut 1 [(BE.lit true), (BE.le (IE.len (LE.rom 0)) (IE.lit 1000)), (BE.le (IE.len (LE.rom 0)) (IE.fn .i64 2 (AL.lst (LE.rom 0) (AL.int .i64 (IE.var .i64 1) AL.nil))))] (Sx.Sub.mk [(.i64, (1000, (IE.lit 0)))] [] [] [] [] []))
def vwrfout0 : List VW := [wrfout0_0]
def pcrfout1_0 : List BE := [(BE.lit true), (BE.le (IE.len (LE.rom 0)) (IE.fn .i64 2 (AL.lst (LE.rom 0) (AL.int .i64 (IE.var .i64 1) AL.nil)))), (BE.le (IE.len (LE.rom 0)) (IE.lit 1000)), (BE.le (IE.lit 0) (IE.var .i64 1000)), (BE.le (IE.var .i64 1000) (IE.len (LE.rom 0)))]
def pcrfout1_1 : List BE := ((BE.not (BE.le (IE.len (LE.rom 0)) (IE.var .i64 1000))) :: pcrfout1_0)
def wrfout1_0 : VW := (VW.done ((BE.le (IE.len (LE.rom 0)) (IE.var .i64 1000)) :: pcrfout1_0) (some []))
def wrfout1_1 : VW := (VW.done ((BE.eq (IE.cel .i64 (LE.rom 0) (IE.var .i64 1000) 0) (IE.var .i64 1)) :: pcrfout1_1) (some [(G.i (IE.lit (-1)) (IE.var .i64 1000))]))
def wrfout1_2 : VW := (VW.cut 1 ((BE.not (BE.eq (IE.cel .i64 (LE.rom 0) (IE.var .i64 1000) 0) (IE.var .i64 1))) :: pcrfout1_1) (Sx.Sub.mk [(.i64, (1000, (IE.add (IE.var .i64 1000) (IE.lit 1))))] [] [] [] [] []))
def vwrfout1 : List VW := [wrfout1_0, wrfout1_1, wrfout1_2]
def vwrfout : Nat → List VW
  | 0 => vwrfout0
  | 1 => vwrfout1
  | _ => []
end
def invrfout : Nat → Lt → Prop
  | 1, l => findN (l.z.rl 0) (l.i .i64 1) (l.i .i64 1000).toNat = (l.i .i64 1000).toNat
  | _, _ => True
def msrfout : Nat → Lt → Nat
  | 0, l => (l.z.rl 0).length + 1
  | 1, l => (l.z.rl 0).length - (l.i .i64 1000).toNat
  | _, _ => 0
theorem vcrfout0_0 : VC TTrfout invrfout msrfout 0 (startF 26 cRFout.pat (.lit true :: cRFout.pre)) wrfout0_0 := by
  intro ρ kn hi hp
  have hF : ρ.z.F = wt.Φ := kn.F
  simp only [h_nil, h_cons, d_le, d_eq, d_not, d_var, d_lit, d_cel, d_leq, d_fn, d_and, d_iff, IE.den, LE.den, AL.den, lenV, true_and, and_true, hF, pi2, pi5, pi6, pi7, pb1, pb2, pb4, pl4, pl6, pl8] at hp
  obtain ⟨p1, p2⟩ := hp
  refine (show (findN (ρ.z.rl 0) (ρ.i .i64 1) (0 : Int).toNat = (0 : Int).toNat) ∧ (((ρ.z.rl 0).length - (0 : Int).toNat : Nat) < (ρ.z.rl 0).length + 1) from ?_)
  exact ⟨rfl, by omega⟩
def ivrfout1 (ρ : Rho) : Prop := findN (ρ.z.rl 0) (ρ.i .i64 1) (ρ.i .i64 1000).toNat = (ρ.i .i64 1000).toNat
theorem vcrfout1_1 : VC TTrfout invrfout msrfout 1 trfout1 wrfout1_1 := by
  intro ρ kn hi hp
  have hi : ivrfout1 ρ := hi
  unfold ivrfout1 at hi
  have hF : ρ.z.F = wt.Φ := kn.F
  simp only [h_nil, h_cons, d_le, d_eq, d_not, d_var, d_lit, d_cel, d_leq, d_fn, d_and, d_iff, IE.den, LE.den, AL.den, lenV, true_and, and_true, pcrfout1_1, pcrfout1_0, hF, pi2, pi5, pi6, pi7, pb1, pb2, pb4, pl4, pl6, pl8] at hp
  obtain ⟨p1, p2, p3, p4, p5, p6⟩ := hp
  refine all_cons (show (-1 : Int) = (ρ.i .i64 1000) from ?_) (all_nil)
  all_goals try simp only [hF, pi2, pi5, pi6, pi7, pb1, pb2, pb4, pl4, pl6, pl8]
  all_goals
    have b2 : findN (ρ.z.rl 0) (ρ.i .i64 1) (ρ.z.rl 0).length ≤ (ρ.z.rl 0).length := first_le _ _
    have c : clampK .i64 ((findN (ρ.z.rl 0) (ρ.i .i64 1) (ρ.z.rl 0).length : Nat) : Int) = ((findN (ρ.z.rl 0) (ρ.i .i64 1) (ρ.z.rl 0).length : Nat) : Int) := clampS (by omega) (by omega)
    simp only [c] at *
    first
      | (have e := find_hit (by omega) (by omega) hi (by assumption); omega)
      | (have e := find_miss (by omega) (by omega) (by omega) hi; omega)
theorem vcrfout1_2 : VC TTrfout invrfout msrfout 1 trfout1 wrfout1_2 := by
  intro ρ kn hi hp
  have hi : ivrfout1 ρ := hi
  unfold ivrfout1 at hi
  have hF : ρ.z.F = wt.Φ := kn.F
  simp only [h_nil, h_cons, d_le, d_eq, d_not, d_var, d_lit, d_cel, d_leq, d_fn, d_and, d_iff, IE.den, LE.den, AL.den, lenV, true_and, and_true, pcrfout1_1, pcrfout1_0, hF, pi2, pi5, pi6, pi7, pb1, pb2, pb4, pl4, pl6, pl8] at hp
  obtain ⟨p1, p2, p3, p4, p5, p6⟩ := hp
  refine (show (findN (ρ.z.rl 0) (ρ.i .i64 1) ((ρ.i .i64 1000) + (1 : Int)).toNat = ((ρ.i .i64 1000) + (1 : Int)).toNat) ∧ (((ρ.z.rl 0).length - ((ρ.i .i64 1000) + (1 : Int)).toNat : Nat) < (ρ.z.rl 0).length - (ρ.i .i64 1000).toNat) from ?_)
  exact ⟨find_go (by omega) hi (by assumption), by omega⟩
theorem vcsrfout0 : ∀ v ∈ vwrfout 0, VC TTrfout invrfout msrfout 0 (startF 26 cRFout.pat (.lit true :: cRFout.pre)) v := all_cons vcrfout0_0 (all_nil)
theorem okrfout0 : cfgOk (startF 26 cRFout.pat (.lit true :: cRFout.pre)) = true := by kernel_rfl
theorem sgrfout0 : segL cRFout.roms cRFout (seg TTrfout selrfout 600 tmrfout (startF 26 cRFout.pat (.lit true :: cRFout.pre))) = (true, codesR tmrfout (views (seg TTrfout selrfout 600 tmrfout (startF 26 cRFout.pat (.lit true :: cRFout.pre)))), vwrfout 0) := by kernel_rfl
theorem vcsrfout1 : ∀ v ∈ vwrfout 1, VC TTrfout invrfout msrfout 1 trfout1 v := all_cons (fun _ _ _ _ => all_nil) (all_cons vcrfout1_1 (all_cons vcrfout1_2 (all_nil)))
theorem okrfout1 : cfgOk trfout1 = true := by kernel_rfl
theorem sgrfout1 : segL cRFout.roms cRFout (seg TTrfout selrfout 600 tmrfout trfout1) = (true, codesR tmrfout (views (seg TTrfout selrfout 600 tmrfout trfout1)), vwrfout 1) := by kernel_rfl
theorem lnrfout0 : ∀ ρ, Known TTrfout (startF 26 cRFout.pat (.lit true :: cRFout.pre)) ρ → invrfout 0 ρ.lt → Holds ρ (leanOf (Cfg.pc (startF 26 cRFout.pat (.lit true :: cRFout.pre)))) := by
  intro ρ _ _
  exact (show Holds ρ [] from fun p hp => by cases hp)
theorem lnrfout1 : ∀ ρ, Known TTrfout trfout1 ρ → invrfout 1 ρ.lt → Holds ρ (leanOf (Cfg.pc trfout1)) := by
  intro ρ _ _
  exact (show Holds ρ [] from fun p hp => by cases hp)
theorem told_rfout : Sx.Told wt.Φ cRFout := by
  refine told_of (cs := []) (all_nil) (sel := selrfout) 600 tmrfout invrfout msrfout vwrfout 0 (pc0 := (.lit true :: cRFout.pre)) (by kernel_rfl) (by kernel_rfl) (by kernel_rfl) (post_nil rfl) ?_ ?_ ?_ rfl (fun ρ _ h => h.cons (p := .lit true) (by simp only [BE.den])) (fun _ _ _ _ => trivial) ?_
  · intro k C h
    have := lk_mem h
    simp only [tmrfout, List.mem_cons, Prod.mk.injEq, List.not_mem_nil, or_false] at this
    rcases this with ⟨rfl, rfl⟩ | ⟨rfl, rfl⟩
    · exact okrfout0
    · exact okrfout1
  · intro k C h
    have := lk_mem h
    simp only [tmrfout, List.mem_cons, Prod.mk.injEq, List.not_mem_nil, or_false] at this
    rcases this with ⟨rfl, rfl⟩ | ⟨rfl, rfl⟩
    · exact sgrfout0
    · exact sgrfout1
  · intro k C h
    have := lk_mem h
    simp only [tmrfout, List.mem_cons, Prod.mk.injEq, List.not_mem_nil, or_false] at this
    rcases this with ⟨rfl, rfl⟩ | ⟨rfl, rfl⟩
    · exact vcsrfout0
    · exact vcsrfout1
  · intro k C h
    have := lk_mem h
    simp only [tmrfout, List.mem_cons, Prod.mk.injEq, List.not_mem_nil, or_false] at this
    rcases this with ⟨rfl, rfl⟩ | ⟨rfl, rfl⟩
    · exact lnrfout0
    · exact lnrfout1
noncomputable section
abbrev TTqueueP : Tab := T wt.Φ cQueueP.roms []
def tqueueP1 : Cfg := { top := ⟨60, over (opqS 10000 20) [(1, (SV.func (Go.Fn.func 89) [] [(SV.ptr 0 0)])), (8, (SV.rom 0 (IE.lit 0) (IE.len (LE.rom 0)) none)), (9, (SV.int .i64 (IE.len (LE.rom 0)))), (10, (SV.int .i64 (IE.var .i64 1000)))], ogt (loopTodo (bodyOf (T wt.Φ [] []) 60) 0), [], false, none⟩, rest := [⟨57, over (opqS 30000 14) [], ogt (callTodo (bodyOf (T wt.Φ [] []) 57) 2 [2, 3, 4, 5, 6, 7]), [], false, none⟩], heap := [(0, .rowl (LE.var 1002) (IE.lit 256) [CK.bool] 125 1 1)], next := 2, pc := .lit true :: ([] ++ [(BE.le (IE.len (LE.rom 0)) (IE.lit 1000)), (BE.le (IE.lit 0) (IE.var .i64 1000)), (BE.le (IE.var .i64 1000) (IE.len (LE.rom 0)))]) }
def tmqueueP : List (Nat × Cfg) := [(0, startF 57 cQueueP.pat (.lit true :: cQueueP.pre)), (1, tqueueP1)]
def selqueueP : Sel := [(60, 1, 1, 1)]
def wqueueP0_0 : VW := (VW.cut 1 [(BE.lit true), (BE.le (IE.len (LE.rom 0)) (IE.lit 1000))] (Sx.Sub.mk [(.i64, (1000, (IE.lit 0)))] [] [(1002, (LE.rep (AL.bool (BE.lit false) AL.nil) (IE.lit 256)))] [] [] []))
def vwqueueP0 : List VW := [wqueueP0_0]
def pcqueueP1_0 : List BE := [(BE.lit true), (BE.le (IE.len (LE.rom 0)) (IE.lit 1000)), (BE.le (IE.lit 0) (IE.var .i64 1000)), (BE.le (IE.var .i64 1000) (IE.len (LE.rom 0)))]
def pcqueueP1_1 : List BE := ((BE.not (BE.le (IE.len (LE.rom 0)) (IE.var .i64 1000))) :: pcqueueP1_0)
def pcqueueP1_2 : List BE := ((BE.le (IE.lit 0) (IE.cel .i64 (LE.rom 0) (IE.var .i64 1000) 0)) :: pcqueueP1_1)
def pcqueueP1_3 : List BE := ((BE.le (IE.cel .i64 (LE.rom 0) (IE.var .i64 1000) 0) (IE.lit 255)) :: pcqueueP1_2)
def pcqueueP1_4 : List BE := ((BE.le (IE.lit 1) (IE.cel .i64 (LE.rom 0) (IE.var .i64 1000) 1)) :: pcqueueP1_3)
def pcqueueP1_5 : List BE := ((BE.le (IE.cel .i64 (LE.rom 0) (IE.var .i64 1000) 1) (IE.lit 1099511627776)) :: pcqueueP1_4)
def pcqueueP1_6 : List BE := ((BE.le (IE.lit 1) (IE.cel .i64 (LE.rom 0) (IE.var .i64 1000) 2)) :: pcqueueP1_5)
def pcqueueP1_7 : List BE := ((BE.le (IE.cel .i64 (LE.rom 0) (IE.var .i64 1000) 2) (IE.lit 5)) :: pcqueueP1_6)
def pcqueueP1_8 : List BE := ((BE.le (IE.lit 0) (IE.cel .i64 (LE.rom 0) (IE.var .i64 1000) 3)) :: pcqueueP1_7)
def pcqueueP1_9 : List BE := ((BE.le (IE.cel .i64 (LE.rom 0) (IE.var .i64 1000) 3) (IE.lit 3)) :: pcqueueP1_8)
def pcqueueP1_10 : List BE := ((BE.le (IE.lit 0) (IE.cel .i64 (LE.rom 0) (IE.var .i64 1000) 4)) :: pcqueueP1_9)
def pcqueueP1_11 : List BE := ((BE.le (IE.cel .i64 (LE.rom 0) (IE.var .i64 1000) 4) (IE.lit 64)) :: pcqueueP1_10)
def wqueueP1_0 : VW := (VW.done ((BE.le (IE.len (LE.rom 0)) (IE.var .i64 1000)) :: pcqueueP1_0) (some [(G.b (BE.fn 4 (AL.lst (LE.rom 0) AL.nil)) (BE.lit true))]))
def wqueueP1_1 : VW := (VW.done ((BE.cel (LE.var 1002) (IE.cel .i64 (LE.rom 0) (IE.var .i64 1000) 0) 0) :: pcqueueP1_11) (some [(G.b (BE.fn 4 (AL.lst (LE.rom 0) AL.nil)) (BE.lit false))]))
def wqueueP1_2 : VW := (VW.cut 1 ((BE.not (BE.cel (LE.var 1002) (IE.cel .i64 (LE.rom 0) (IE.var .i64 1000) 0) 0)) :: pcqueueP1_11) (Sx.Sub.mk [(.i64, (1000, (IE.add (IE.var .i64 1000) (IE.lit 1))))] [] [(1002, (LE.set (LE.var 1002) (IE.cel .i64 (LE.rom 0) (IE.var .i64 1000) 0) (AL.bool (BE.lit true) AL.nil)))] [] [] []))
def wqueueP1_3 : VW := (VW.done ((BE.not (BE.le (IE.cel .i64 (LE.rom 0) (IE.var .i64 1000) 4) (IE.lit 64))) :: pcqueueP1_10) (some [(G.b (BE.fn 4 (AL.lst (LE.rom 0) AL.nil)) (BE.lit false))]))
def wqueueP1_4 : VW := (VW.done ((BE.not (BE.le (IE.lit 0) (IE.cel .i64 (LE.rom 0) (IE.var .i64 1000) 4))) :: pcqueueP1_9) (some [(G.b (BE.fn 4 (AL.lst (LE.rom 0) AL.nil)) (BE.lit false))]))
def wqueueP1_5 : VW := (VW.done ((BE.not (BE.le (IE.cel .i64 (LE.rom 0) (IE.var .i64 1000) 3) (IE.lit 3))) :: pcqueueP1_8) (some [(G.b (BE.fn 4 (AL.lst (LE.rom 0) AL.nil)) (BE.lit false))]))
def wqueueP1_6 : VW := (VW.done ((BE.not (BE.le (IE.lit 0) (IE.cel .i64 (LE.rom 0) (IE.var .i64 1000) 3))) :: pcqueueP1_7) (some [(G.b (BE.fn 4 (AL.lst (LE.rom 0) AL.nil)) (BE.lit false))]))
def wqueueP1_7 : VW := (VW.done ((BE.not (BE.le (IE.cel .i64 (LE.rom 0) (IE.var .i64 1000) 2) (IE.lit 5))) :: pcqueueP1_6) (some [(G.b (BE.fn 4 (AL.lst (LE.rom 0) AL.nil)) (BE.lit false))]))
def wqueueP1_8 : VW := (VW.done ((BE.not (BE.le (IE.lit 1) (IE.cel .i64 (LE.rom 0) (IE.var .i64 1000) 2))) :: pcqueueP1_5) (some [(G.b (BE.fn 4 (AL.lst (LE.rom 0) AL.nil)) (BE.lit false))]))
def wqueueP1_9 : VW := (VW.done ((BE.not (BE.le (IE.cel .i64 (LE.rom 0) (IE.var .i64 1000) 1) (IE.lit 1099511627776))) :: pcqueueP1_4) (some [(G.b (BE.fn 4 (AL.lst (LE.rom 0) AL.nil)) (BE.lit false))]))
def wqueueP1_10 : VW := (VW.done ((BE.not (BE.le (IE.lit 1) (IE.cel .i64 (LE.rom 0) (IE.var .i64 1000) 1))) :: pcqueueP1_3) (some [(G.b (BE.fn 4 (AL.lst (LE.rom 0) AL.nil)) (BE.lit false))]))
def wqueueP1_11 : VW := (VW.done ((BE.not (BE.le (IE.cel .i64 (LE.rom 0) (IE.var .i64 1000) 0) (IE.lit 255))) :: pcqueueP1_2) (some [(G.b (BE.fn 4 (AL.lst (LE.rom 0) AL.nil)) (BE.lit false))]))
def wqueueP1_12 : VW := (VW.done ((BE.not (BE.le (IE.lit 0) (IE.cel .i64 (LE.rom 0) (IE.var .i64 1000) 0))) :: pcqueueP1_1) (some [(G.b (BE.fn 4 (AL.lst (LE.rom 0) AL.nil)) (BE.lit false))]))
def vwqueueP1 : List VW := [wqueueP1_0, wqueueP1_1, wqueueP1_2, wqueueP1_3, wqueueP1_4, wqueueP1_5, wqueueP1_6, wqueueP1_7, wqueueP1_8, wqueueP1_9, wqueueP1_10, wqueueP1_11, wqueueP1_12]
def vwqueueP : Nat → List VW
  | 0 => vwqueueP0
  | 1 => vwqueueP1
  | _ => []
end
def invqueueP : Nat → Lt → Prop
  | 1, l => preN (l.z.rl 0) (l.i .i64 1000).toNat = true ∧ Marks (l.z.rl 0) (l.l 1002) (l.i .i64 1000).toNat
  | _, _ => True
def msqueueP : Nat → Lt → Nat
  | 0, l => (l.z.rl 0).length + 1
  | 1, l => (l.z.rl 0).length - (l.i .i64 1000).toNat
  | _, _ => 0
theorem vcqueueP0_0 : VC TTqueueP invqueueP msqueueP 0 (startF 57 cQueueP.pat (.lit true :: cQueueP.pre)) wqueueP0_0 := by
  intro ρ kn hi hp
  have hF : ρ.z.F = wt.Φ := kn.F
  simp only [h_nil, h_cons, d_le, d_eq, d_not, d_var, d_lit, d_cel, d_leq, d_fn, d_and, d_iff, IE.den, LE.den, AL.den, lenV, true_and, and_true, hF, pi2, pi5, pi6, pi7, pb1, pb2, pb4, pl4, pl6, pl8] at hp
  have p1 := hp
  refine (show (preN (ρ.z.rl 0) (0 : Int).toNat = true ∧ Marks (ρ.z.rl 0) (List.replicate (256 : Int).toNat [Go.Value.bool false]) (0 : Int).toNat) ∧ (((ρ.z.rl 0).length - (0 : Int).toNat : Nat) < (ρ.z.rl 0).length + 1) from ?_)
  exact ⟨⟨rfl, marks0 rfl⟩, by omega⟩
def ivqueueP1 (ρ : Rho) : Prop := preN (ρ.z.rl 0) (ρ.i .i64 1000).toNat = true ∧ Marks (ρ.z.rl 0) (ρ.l 1002) (ρ.i .i64 1000).toNat
theorem vcgqueueP1_1 : VC TTqueueP invqueueP msqueueP 1 tqueueP1 wqueueP1_1 ∧ VC TTqueueP invqueueP msqueueP 1 tqueueP1 wqueueP1_3 ∧ VC TTqueueP invqueueP msqueueP 1 tqueueP1 wqueueP1_4 ∧ VC TTqueueP invqueueP msqueueP 1 tqueueP1 wqueueP1_5 ∧ VC TTqueueP invqueueP msqueueP 1 tqueueP1 wqueueP1_6 ∧ VC TTqueueP invqueueP msqueueP 1 tqueueP1 wqueueP1_7 ∧ VC TTqueueP invqueueP msqueueP 1 tqueueP1 wqueueP1_8 ∧ VC TTqueueP invqueueP msqueueP 1 tqueueP1 wqueueP1_9 ∧ VC TTqueueP invqueueP msqueueP 1 tqueueP1 wqueueP1_10 ∧ VC TTqueueP invqueueP msqueueP 1 tqueueP1 wqueueP1_11 ∧ VC TTqueueP invqueueP msqueueP 1 tqueueP1 wqueueP1_12 := by
  refine ⟨?_, ?_, ?_, ?_, ?_, ?_, ?_, ?_, ?_, ?_, ?_⟩
  all_goals
    intro ρ kn hi hp
    have hi : ivqueueP1 ρ := hi
    unfold ivqueueP1 at hi
    have hF : ρ.z.F = wt.Φ := kn.F
    simp only [h_nil, h_cons, d_le, d_eq, d_not, d_var, d_lit, d_cel, d_leq, d_fn, d_and, d_iff, IE.den, LE.den, AL.den, lenV, true_and, and_true, pcqueueP1_11, pcqueueP1_10, pcqueueP1_9, pcqueueP1_8, pcqueueP1_7, pcqueueP1_6, pcqueueP1_5, pcqueueP1_4, pcqueueP1_3, pcqueueP1_2, pcqueueP1_1, pcqueueP1_0, hF, pi2, pi5, pi6, pi7, pb1, pb2, pb4, pl4, pl6, pl8] at hp
    have p1 := And.left hp
    replace hp := And.right hp
    repeat (have _ := And.left hp; replace hp := And.right hp)
    refine all_cons (show (ρ.z.F.b 4 [.lst (ρ.z.rl 0)]) = false from ?_) (all_nil)
    all_goals try simp only [hF, pi2, pi5, pi6, pi7, pb1, pb2, pb4, pl4, pl6, pl8]
    obtain ⟨hp, hm⟩ := hi
    have z : ∀ j, clampK .i64 (intV (celV (ρ.z.rl 0) (ρ.i .i64 1000) j)) = atI (ρ.z.rl 0) (ρ.i .i64 1000).toNat j := fun j => at_z (by omega) j
    simp only [z] at *
    first
      | exact queue_end hp (by omega)
      | exact queue_may (i := ρ.i .i64 1000) (by omega) (by omega) (by rw [mayAt, may_iff]; omega)
      | exact queue_seen (i := ρ.i .i64 1000) (by omega) (by omega) hm rfl (by omega) (by omega) (by assumption)
theorem vcqueueP1_0 : VC TTqueueP invqueueP msqueueP 1 tqueueP1 wqueueP1_0 := by
  intro ρ kn hi hp
  have hi : ivqueueP1 ρ := hi
  unfold ivqueueP1 at hi
  have hF : ρ.z.F = wt.Φ := kn.F
  simp only [h_nil, h_cons, d_le, d_eq, d_not, d_var, d_lit, d_cel, d_leq, d_fn, d_and, d_iff, IE.den, LE.den, AL.den, lenV, true_and, and_true, pcqueueP1_0, hF, pi2, pi5, pi6, pi7, pb1, pb2, pb4, pl4, pl6, pl8] at hp
  obtain ⟨p1, p2, p3, p4⟩ := hp
  refine all_cons (show (ρ.z.F.b 4 [.lst (ρ.z.rl 0)]) = true from ?_) (all_nil)
  all_goals try simp only [hF, pi2, pi5, pi6, pi7, pb1, pb2, pb4, pl4, pl6, pl8]
  obtain ⟨hp, hm⟩ := hi
  have z : ∀ j, clampK .i64 (intV (celV (ρ.z.rl 0) (ρ.i .i64 1000) j)) = atI (ρ.z.rl 0) (ρ.i .i64 1000).toNat j := fun j => at_z (by omega) j
  simp only [z] at *
  first
    | exact queue_end hp (by omega)
    | exact queue_may (i := ρ.i .i64 1000) (by omega) (by omega) (by rw [mayAt, may_iff]; omega)
    | exact queue_seen (i := ρ.i .i64 1000) (by omega) (by omega) hm rfl (by omega) (by omega) (by assumption)
theorem vcqueueP1_2 : VC TTqueueP invqueueP msqueueP 1 tqueueP1 wqueueP1_2 := by
  intro ρ kn hi hp
  have hi : ivqueueP1 ρ := hi
  unfold ivqueueP1 at hi
  have hF : ρ.z.F = wt.Φ := kn.F
  simp only [h_nil, h_cons, d_le, d_eq, d_not, d_var, d_lit, d_cel, d_leq, d_fn, d_and, d_iff, IE.den, LE.den, AL.den, lenV, true_and, and_true, pcqueueP1_11, pcqueueP1_10, pcqueueP1_9, pcqueueP1_8, pcqueueP1_7, pcqueueP1_6, pcqueueP1_5, pcqueueP1_4, pcqueueP1_3, pcqueueP1_2, pcqueueP1_1, pcqueueP1_0, hF, pi2, pi5, pi6, pi7, pb1, pb2, pb4, pl4, pl6, pl8] at hp
  obtain ⟨p1, p2, p3, p4, p5, p6, p7, p8, p9, p10, p11, p12, p13, p14, p15⟩ := hp
  refine (show (preN (ρ.z.rl 0) ((ρ.i .i64 1000) + (1 : Int)).toNat = true ∧ Marks (ρ.z.rl 0) ((ρ.l 1002).set (clampK .i64 (intV (celV (ρ.z.rl 0) (ρ.i .i64 1000) 0))).toNat [Go.Value.bool true]) ((ρ.i .i64 1000) + (1 : Int)).toNat) ∧ (((ρ.z.rl 0).length - ((ρ.i .i64 1000) + (1 : Int)).toNat : Nat) < (ρ.z.rl 0).length - (ρ.i .i64 1000).toNat) from ?_)
  obtain ⟨hp, hm⟩ := hi
  have z : ∀ j, clampK .i64 (intV (celV (ρ.z.rl 0) (ρ.i .i64 1000) j)) = atI (ρ.z.rl 0) (ρ.i .i64 1000).toNat j := fun j => at_z (by omega) j
  simp only [z] at *
  refine ⟨⟨pre_go (by omega) hp (by rw [mayAt, may_iff]; omega) hm rfl (by omega) (by omega) (by assumption), ?_⟩, by omega⟩
  rw [at_s (by omega)]
  exact marks_s hm (by omega) (by omega) rfl
theorem vcsqueueP0 : ∀ v ∈ vwqueueP 0, VC TTqueueP invqueueP msqueueP 0 (startF 57 cQueueP.pat (.lit true :: cQueueP.pre)) v := all_cons vcqueueP0_0 (all_nil)
theorem okqueueP0 : cfgOk (startF 57 cQueueP.pat (.lit true :: cQueueP.pre)) = true := by kernel_rfl
theorem sgqueueP0 : segL cQueueP.roms cQueueP (seg TTqueueP selqueueP 3000 tmqueueP (startF 57 cQueueP.pat (.lit true :: cQueueP.pre))) = (true, codesR tmqueueP (views (seg TTqueueP selqueueP 3000 tmqueueP (startF 57 cQueueP.pat (.lit true :: cQueueP.pre)))), vwqueueP 0) := by kernel_rfl
theorem vcsqueueP1 : ∀ v ∈ vwqueueP 1, VC TTqueueP invqueueP msqueueP 1 tqueueP1 v := all_cons vcqueueP1_0 (all_cons vcgqueueP1_1.1 (all_cons vcqueueP1_2 (all_cons vcgqueueP1_1.2.1 (all_cons vcgqueueP1_1.2.2.1 (all_cons vcgqueueP1_1.2.2.2.1 (all_cons vcgqueueP1_1.2.2.2.2.1 (all_cons vcgqueueP1_1.2.2.2.2.2.1 (all_cons vcgqueueP1_1.2.2.2.2.2.2.1 (all_cons vcgqueueP1_1.2.2.2.2.2.2.2.1 (all_cons vcgqueueP1_1.2.2.2.2.2.2.2.2.1 (all_cons vcgqueueP1_1.2.2.2.2.2.2.2.2.2.1 (all_cons vcgqueueP1_1.2.2.2.2.2.2.2.2.2.2 (all_nil)))))))))))))
theorem okqueueP1 : cfgOk tqueueP1 = true := by kernel_rfl
theorem sgqueueP1 : segL cQueueP.roms cQueueP (seg TTqueueP selqueueP 3000 tmqueueP tqueueP1) = (true, codesR tmqueueP (views (seg TTqueueP selqueueP 3000 tmqueueP tqueueP1)), vwqueueP 1) := by kernel_rfl
theorem lnqueueP0 : ∀ ρ, Known TTqueueP (startF 57 cQueueP.pat (.lit true :: cQueueP.pre)) ρ → invqueueP 0 ρ.lt → Holds ρ (leanOf (Cfg.pc (startF 57 cQueueP.pat (.lit true :: cQueueP.pre)))) := by
  intro ρ _ _
  exact (show Holds ρ [] from fun p hp => by cases hp)
theorem lnqueueP1 : ∀ ρ, Known TTqueueP tqueueP1 ρ → invqueueP 1 ρ.lt → Holds ρ (leanOf (Cfg.pc tqueueP1)) := by
  intro ρ _ _
  exact (show Holds ρ [] from fun p hp => by cases hp)
theorem told_queueP : Sx.Told wt.Φ cQueueP := by
  refine told_of (cs := []) (all_nil) (sel := selqueueP) 3000 tmqueueP invqueueP msqueueP vwqueueP 0 (pc0 := (.lit true :: cQueueP.pre)) (by kernel_rfl) (by kernel_rfl) (by kernel_rfl) (post_nil rfl) ?_ ?_ ?_ rfl (fun ρ _ h => h.cons (p := .lit true) (by simp only [BE.den])) (fun _ _ _ _ => trivial) ?_
  · intro k C h
    have := lk_mem h
    simp only [tmqueueP, List.mem_cons, Prod.mk.injEq, List.not_mem_nil, or_false] at this
    rcases this with ⟨rfl, rfl⟩ | ⟨rfl, rfl⟩
    · exact okqueueP0
    · exact okqueueP1
  · intro k C h
    have := lk_mem h
    simp only [tmqueueP, List.mem_cons, Prod.mk.injEq, List.not_mem_nil, or_false] at this
    rcases this with ⟨rfl, rfl⟩ | ⟨rfl, rfl⟩
    · exact sgqueueP0
    · exact sgqueueP1
  · intro k C h
    have := lk_mem h
    simp only [tmqueueP, List.mem_cons, Prod.mk.injEq, List.not_mem_nil, or_false] at this
    rcases this with ⟨rfl, rfl⟩ | ⟨rfl, rfl⟩
    · exact vcsqueueP0
    · exact vcsqueueP1
  · intro k C h
    have := lk_mem h
    simp only [tmqueueP, List.mem_cons, Prod.mk.injEq, List.not_mem_nil, or_false] at this
    rcases this with ⟨rfl, rfl⟩ | ⟨rfl, rfl⟩
    · exact lnqueueP0
    · exact lnqueueP1
noncomputable section
abbrev TTqueueR : Tab := T wt.Φ cQueueR.roms [cMayR, cRFin, cRFout]
def tqueueR1 : Cfg := { top := ⟨25, over (opqS 10000 34) [(0, (SV.rom 0 (IE.lit 0) (IE.len (LE.rom 0)) none)), (3, (SV.int .i64 (IE.var .i64 1000)))], ogt (loopTodo (bodyOf (T wt.Φ [] []) 25) 0), [], false, none⟩, rest := [], heap := [], next := 1, pc := .lit true :: ([] ++ [(BE.le (IE.len (LE.rom 0)) (IE.lit 1000)), (BE.le (IE.lit 0) (IE.var .i64 1000)), (BE.le (IE.var .i64 1000) (IE.len (LE.rom 0)))]) }
def tmqueueR : List (Nat × Cfg) := [(0, startF 25 cQueueR.pat (.lit true :: cQueueR.pre)), (1, tqueueR1)]
def selqueueR : Sel := [(25, 1, 0, 1)]
def wqueueR0_0 : VW := (VW.cut 1 [(BE.lit true), (BE.le (IE.len (LE.rom 0)) (IE.lit 1000))] (Sx.Sub.mk [(.i64, (1000, (IE.lit 0)))] [] [] [] [] []))
def vwqueueR0 : List VW := [wqueueR0_0]
def pcqueueR1_0 : List BE := [(BE.lit true), (BE.le (IE.len (LE.rom 0)) (IE.lit 1000)), (BE.le (IE.lit 0) (IE.var .i64 1000)), (BE.le (IE.var .i64 1000) (IE.len (LE.rom 0)))]
def pcqueueR1_1 : List BE := ((BE.not (BE.le (IE.len (LE.rom 0)) (IE.var .i64 1000))) :: pcqueueR1_0)
def pcqueueR1_2 : List BE := ((BE.le (IE.var .i64 1000) (IE.lit 256)) :: pcqueueR1_1)
def pcqueueR1_3 : List BE := ((BE.fn 2 (AL.int .i64 (IE.cel .i64 (LE.rom 0) (IE.var .i64 1000) 0) (AL.int .i64 (IE.cel .i64 (LE.rom 0) (IE.var .i64 1000) 1) (AL.int .i64 (IE.cel .i64 (LE.rom 0) (IE.var .i64 1000) 2) (AL.int .i64 (IE.cel .i64 (LE.rom 0) (IE.var .i64 1000) 3) (AL.int .i64 (IE.cel .i64 (LE.rom 0) (IE.var .i64 1000) 4) AL.nil)))))) :: pcqueueR1_2)
def pcqueueR1_4 : List BE := ((BE.le (IE.lit 0) (IE.fn .i64 2 (AL.lst (LE.rom 0) (AL.int .i64 (IE.cel .i64 (LE.rom 0) (IE.var .i64 1000) 0) AL.nil)))) :: (BE.le (IE.fn .i64 2 (AL.lst (LE.rom 0) (AL.int .i64 (IE.cel .i64 (LE.rom 0) (IE.var .i64 1000) 0) AL.nil))) (IE.len (LE.rom 0))) :: (BE.not (BE.le (IE.len (LE.rom 0)) (IE.fn .i64 2 (AL.lst (LE.rom 0) (AL.int .i64 (IE.cel .i64 (LE.rom 0) (IE.var .i64 1000) 0) AL.nil))))) :: pcqueueR1_3)
def wqueueR1_0 : VW := (VW.done ((BE.le (IE.len (LE.rom 0)) (IE.var .i64 1000)) :: pcqueueR1_0) (some [(G.b (BE.fn 4 (AL.lst (LE.rom 0) AL.nil)) (BE.le (IE.len (LE.rom 0)) (IE.lit 256)))]))
def wqueueR1_1 : VW := (VW.done ((BE.le (IE.len (LE.rom 0)) (IE.fn .i64 2 (AL.lst (LE.rom 0) (AL.int .i64 (IE.cel .i64 (LE.rom 0) (IE.var .i64 1000) 0) AL.nil)))) :: pcqueueR1_3) (some [(G.b (BE.fn 4 (AL.lst (LE.rom 0) AL.nil)) (BE.lit false))]))
def wqueueR1_2 : VW := (VW.cut 1 ((BE.eq (IE.fn .i64 2 (AL.lst (LE.rom 0) (AL.int .i64 (IE.cel .i64 (LE.rom 0) (IE.var .i64 1000) 0) AL.nil))) (IE.var .i64 1000)) :: pcqueueR1_4) (Sx.Sub.mk [(.i64, (1000, (IE.add (IE.var .i64 1000) (IE.lit 1))))] [] [] [] [] []))
def wqueueR1_3 : VW := (VW.done ((BE.not (BE.eq (IE.fn .i64 2 (AL.lst (LE.rom 0) (AL.int .i64 (IE.cel .i64 (LE.rom 0) (IE.var .i64 1000) 0) AL.nil))) (IE.var .i64 1000))) :: pcqueueR1_4) (some [(G.b (BE.fn 4 (AL.lst (LE.rom 0) AL.nil)) (BE.lit false))]))
def wqueueR1_4 : VW := (VW.done ((BE.not (BE.fn 2 (AL.int .i64 (IE.cel .i64 (LE.rom 0) (IE.var .i64 1000) 0) (AL.int .i64 (IE.cel .i64 (LE.rom 0) (IE.var .i64 1000) 1) (AL.int .i64 (IE.cel .i64 (LE.rom 0) (IE.var .i64 1000) 2) (AL.int .i64 (IE.cel .i64 (LE.rom 0) (IE.var .i64 1000) 3) (AL.int .i64 (IE.cel .i64 (LE.rom 0) (IE.var .i64 1000) 4) AL.nil))))))) :: pcqueueR1_2) (some [(G.b (BE.fn 4 (AL.lst (LE.rom 0) AL.nil)) (BE.lit false))]))
def wqueueR1_5 : VW := (VW.done ((BE.not (BE.le (IE.var .i64 1000) (IE.lit 256))) :: pcqueueR1_1) (some [(G.b (BE.fn 4 (AL.lst (LE.rom 0) AL.nil)) (BE.le (IE.len (LE.rom 0)) (IE.lit 256)))]))
def vwqueueR1 : List VW := [wqueueR1_0, wqueueR1_1, wqueueR1_2, wqueueR1_3, wqueueR1_4, wqueueR1_5]
def vwqueueR : Nat → List VW
  | 0 => vwqueueR0
  | 1 => vwqueueR1
  | _ => []
end
def invqueueR : Nat → Lt → Prop
  | 1, l => preN (l.z.rl 0) (l.i .i64 1000).toNat = true
  | _, _ => True
def msqueueR : Nat → Lt → Nat
  | 0, l => (l.z.rl 0).length + 1
  | 1, l => (l.z.rl 0).length - (l.i .i64 1000).toNat
  | _, _ => 0
theorem vcqueueR0_0 : VC TTqueueR invqueueR msqueueR 0 (startF 25 cQueueR.pat (.lit true :: cQueueR.pre)) wqueueR0_0 := by
  intro ρ kn hi hp
  have hF : ρ.z.F = wt.Φ := kn.F
  simp only [h_nil, h_cons, d_le, d_eq, d_not, d_var, d_lit, d_cel, d_leq, d_fn, d_and, d_iff, IE.den, LE.den, AL.den, lenV, true_and, and_true, hF, pi2, pi5, pi6, pi7, pb1, pb2, pb4, pl4, pl6, pl8] at hp
  have p1 := hp
  refine (show (preN (ρ.z.rl 0) (0 : Int).toNat = true) ∧ (((ρ.z.rl 0).length - (0 : Int).toNat : Nat) < (ρ.z.rl 0).length + 1) from ?_)
  exact ⟨rfl, by omega⟩
def ivqueueR1 (ρ : Rho) : Prop := preN (ρ.z.rl 0) (ρ.i .i64 1000).toNat = true
theorem vcgqueueR1_1 : VC TTqueueR invqueueR msqueueR 1 tqueueR1 wqueueR1_1 ∧ VC TTqueueR invqueueR msqueueR 1 tqueueR1 wqueueR1_3 ∧ VC TTqueueR invqueueR msqueueR 1 tqueueR1 wqueueR1_4 := by
  refine ⟨?_, ?_, ?_⟩
  all_goals
    intro ρ kn hi hp
    have hi : ivqueueR1 ρ := hi
    unfold ivqueueR1 at hi
    have hF : ρ.z.F = wt.Φ := kn.F
    simp only [h_nil, h_cons, d_le, d_eq, d_not, d_var, d_lit, d_cel, d_leq, d_fn, d_and, d_iff, IE.den, LE.den, AL.den, lenV, true_and, and_true, pcqueueR1_3, pcqueueR1_2, pcqueueR1_1, pcqueueR1_0, pcqueueR1_4, hF, pi2, pi5, pi6, pi7, pb1, pb2, pb4, pl4, pl6, pl8] at hp
    have p1 := And.left hp
    replace hp := And.right hp
    repeat (have _ := And.left hp; replace hp := And.right hp)
    refine all_cons (show (ρ.z.F.b 4 [.lst (ρ.z.rl 0)]) = false from ?_) (all_nil)
    all_goals try simp only [hF, pi2, pi5, pi6, pi7, pb1, pb2, pb4, pl4, pl6, pl8]
    have z : ∀ j, clampK .i64 (intV (celV (ρ.z.rl 0) (ρ.i .i64 1000) j)) = atI (ρ.z.rl 0) (ρ.i .i64 1000).toNat j := fun j => at_z (by omega) j
    simp only [z] at *
    have b2 : findN (ρ.z.rl 0) (atI (ρ.z.rl 0) (ρ.i .i64 1000).toNat 0) (ρ.z.rl 0).length ≤ (ρ.z.rl 0).length := first_le _ _
    try rw [clampS (x := ((findN (ρ.z.rl 0) (atI (ρ.z.rl 0) (ρ.i .i64 1000).toNat 0) (ρ.z.rl 0).length : Nat) : Int)) (by omega) (by omega)] at *
    first
      | exact queue_end hi (by omega)
      | (have q := queue_long (l := ρ.z.rl 0) (by omega); rw [q]; first | rfl | exact (decide_eq_false (by omega)).symm)
      | (have q := pre_256 hi; exfalso; omega)
      | (have q := queue_end hi (by omega); have q2 := pre_256 hi; rw [q]; exact (decide_eq_true (by omega)).symm)
      | exact queue_may (i := ρ.i .i64 1000) (by omega) (by omega) (by rw [mayAt]; assumption)
      | exact queue_ne (i := ρ.i .i64 1000) (by omega) (by omega) (by omega)
      | (have q := find_self (l := ρ.z.rl 0) (i := ρ.i .i64 1000) (by omega) (by omega); exfalso; omega)
      | skip
theorem vcqueueR1_0 : VC TTqueueR invqueueR msqueueR 1 tqueueR1 wqueueR1_0 := by
  intro ρ kn hi hp
  have hi : ivqueueR1 ρ := hi
  unfold ivqueueR1 at hi
  have hF : ρ.z.F = wt.Φ := kn.F
  simp only [h_nil, h_cons, d_le, d_eq, d_not, d_var, d_lit, d_cel, d_leq, d_fn, d_and, d_iff, IE.den, LE.den, AL.den, lenV, true_and, and_true, pcqueueR1_0, hF, pi2, pi5, pi6, pi7, pb1, pb2, pb4, pl4, pl6, pl8] at hp
  obtain ⟨p1, p2, p3, p4⟩ := hp
  refine all_cons (show (ρ.z.F.b 4 [.lst (ρ.z.rl 0)]) = (decide ((((ρ.z.rl 0).length : Nat) : Int) ≤ (256 : Int))) from ?_) (all_nil)
  all_goals try simp only [hF, pi2, pi5, pi6, pi7, pb1, pb2, pb4, pl4, pl6, pl8]
  have z : ∀ j, clampK .i64 (intV (celV (ρ.z.rl 0) (ρ.i .i64 1000) j)) = atI (ρ.z.rl 0) (ρ.i .i64 1000).toNat j := fun j => at_z (by omega) j
  simp only [z] at *
  have b2 : findN (ρ.z.rl 0) (atI (ρ.z.rl 0) (ρ.i .i64 1000).toNat 0) (ρ.z.rl 0).length ≤ (ρ.z.rl 0).length := first_le _ _
  try rw [clampS (x := ((findN (ρ.z.rl 0) (atI (ρ.z.rl 0) (ρ.i .i64 1000).toNat 0) (ρ.z.rl 0).length : Nat) : Int)) (by omega) (by omega)] at *
  first
    | exact queue_end hi (by omega)
    | (have q := queue_long (l := ρ.z.rl 0) (by omega); rw [q]; first | rfl | exact (decide_eq_false (by omega)).symm)
    | (have q := pre_256 hi; exfalso; omega)
    | (have q := queue_end hi (by omega); have q2 := pre_256 hi; rw [q]; exact (decide_eq_true (by omega)).symm)
    | exact queue_may (i := ρ.i .i64 1000) (by omega) (by omega) (by rw [mayAt]; assumption)
    | exact queue_ne (i := ρ.i .i64 1000) (by omega) (by omega) (by omega)
    | (have q := find_self (l := ρ.z.rl 0) (i := ρ.i .i64 1000) (by omega) (by omega); exfalso; omega)
    | skip
theorem vcqueueR1_2 : VC TTqueueR invqueueR msqueueR 1 tqueueR1 wqueueR1_2 := by
  intro ρ kn hi hp
  have hi : ivqueueR1 ρ := hi
  unfold ivqueueR1 at hi
  have hF : ρ.z.F = wt.Φ := kn.F
  simp only [h_nil, h_cons, d_le, d_eq, d_not, d_var, d_lit, d_cel, d_leq, d_fn, d_and, d_iff, IE.den, LE.den, AL.den, lenV, true_and, and_true, pcqueueR1_4, pcqueueR1_3, pcqueueR1_2, pcqueueR1_1, pcqueueR1_0, hF, pi2, pi5, pi6, pi7, pb1, pb2, pb4, pl4, pl6, pl8] at hp
  obtain ⟨p1, p2, p3, p4, p5, p6, p7, p8, p9, p10⟩ := hp
  refine (show (preN (ρ.z.rl 0) ((ρ.i .i64 1000) + (1 : Int)).toNat = true) ∧ (((ρ.z.rl 0).length - ((ρ.i .i64 1000) + (1 : Int)).toNat : Nat) < (ρ.z.rl 0).length - (ρ.i .i64 1000).toNat) from ?_)
  have z : ∀ j, clampK .i64 (intV (celV (ρ.z.rl 0) (ρ.i .i64 1000) j)) = atI (ρ.z.rl 0) (ρ.i .i64 1000).toNat j := fun j => at_z (by omega) j
  simp only [z] at *
  have b2 : findN (ρ.z.rl 0) (atI (ρ.z.rl 0) (ρ.i .i64 1000).toNat 0) (ρ.z.rl 0).length ≤ (ρ.z.rl 0).length := first_le _ _
  rw [clampS (by omega) (by omega)] at *
  exact ⟨pre_goR (by omega) (by omega) hi (by rw [mayAt]; assumption) (by omega), by omega⟩
theorem vcqueueR1_5 : VC TTqueueR invqueueR msqueueR 1 tqueueR1 wqueueR1_5 := by
  intro ρ kn hi hp
  have hi : ivqueueR1 ρ := hi
  unfold ivqueueR1 at hi
  have hF : ρ.z.F = wt.Φ := kn.F
  simp only [h_nil, h_cons, d_le, d_eq, d_not, d_var, d_lit, d_cel, d_leq, d_fn, d_and, d_iff, IE.den, LE.den, AL.den, lenV, true_and, and_true, pcqueueR1_1, pcqueueR1_0, hF, pi2, pi5, pi6, pi7, pb1, pb2, pb4, pl4, pl6, pl8] at hp
  obtain ⟨p1, p2, p3, p4, p5⟩ := hp
  refine all_cons (show (ρ.z.F.b 4 [.lst (ρ.z.rl 0)]) = (decide ((((ρ.z.rl 0).length : Nat) : Int) ≤ (256 : Int))) from ?_) (all_nil)
  all_goals try simp only [hF, pi2, pi5, pi6, pi7, pb1, pb2, pb4, pl4, pl6, pl8]
  have z : ∀ j, clampK .i64 (intV (celV (ρ.z.rl 0) (ρ.i .i64 1000) j)) = atI (ρ.z.rl 0) (ρ.i .i64 1000).toNat j := fun j => at_z (by omega) j
  simp only [z] at *
  have b2 : findN (ρ.z.rl 0) (atI (ρ.z.rl 0) (ρ.i .i64 1000).toNat 0) (ρ.z.rl 0).length ≤ (ρ.z.rl 0).length := first_le _ _
  try rw [clampS (x := ((findN (ρ.z.rl 0) (atI (ρ.z.rl 0) (ρ.i .i64 1000).toNat 0) (ρ.z.rl 0).length : Nat) : Int)) (by omega) (by omega)] at *
  first
    | exact queue_end hi (by omega)
    | (have q := queue_long (l := ρ.z.rl 0) (by omega); rw [q]; first | rfl | exact (decide_eq_false (by omega)).symm)
    | (have q := pre_256 hi; exfalso; omega)
    | (have q := queue_end hi (by omega); have q2 := pre_256 hi; rw [q]; exact (decide_eq_true (by omega)).symm)
    | exact queue_may (i := ρ.i .i64 1000) (by omega) (by omega) (by rw [mayAt]; assumption)
    | exact queue_ne (i := ρ.i .i64 1000) (by omega) (by omega) (by omega)
    | (have q := find_self (l := ρ.z.rl 0) (i := ρ.i .i64 1000) (by omega) (by omega); exfalso; omega)
    | skip
theorem vcsqueueR0 : ∀ v ∈ vwqueueR 0, VC TTqueueR invqueueR msqueueR 0 (startF 25 cQueueR.pat (.lit true :: cQueueR.pre)) v := all_cons vcqueueR0_0 (all_nil)
theorem okqueueR0 : cfgOk (startF 25 cQueueR.pat (.lit true :: cQueueR.pre)) = true := by kernel_rfl
theorem sgqueueR0 : segL cQueueR.roms cQueueR (seg TTqueueR selqueueR 3000 tmqueueR (startF 25 cQueueR.pat (.lit true :: cQueueR.pre))) = (true, codesR tmqueueR (views (seg TTqueueR selqueueR 3000 tmqueueR (startF 25 cQueueR.pat (.lit true :: cQueueR.pre)))), vwqueueR 0) := by kernel_rfl
theorem vcsqueueR1 : ∀ v ∈ vwqueueR 1, VC TTqueueR invqueueR msqueueR 1 tqueueR1 v := all_cons vcqueueR1_0 (all_cons vcgqueueR1_1.1 (all_cons vcqueueR1_2 (all_cons vcgqueueR1_1.2.1 (all_cons vcgqueueR1_1.2.2 (all_cons vcqueueR1_5 (all_nil))))))
theorem okqueueR1 : cfgOk tqueueR1 = true := by kernel_rfl
theorem sgqueueR1 : segL cQueueR.roms cQueueR (seg TTqueueR selqueueR 3000 tmqueueR tqueueR1) = (true, codesR tmqueueR (views (seg TTqueueR selqueueR 3000 tmqueueR tqueueR1)), vwqueueR 1) := by kernel_rfl
theorem lnqueueR0 : ∀ ρ, Known TTqueueR (startF 25 cQueueR.pat (.lit true :: cQueueR.pre)) ρ → invqueueR 0 ρ.lt → Holds ρ (leanOf (Cfg.pc (startF 25 cQueueR.pat (.lit true :: cQueueR.pre)))) := by
  intro ρ _ _
  exact (show Holds ρ [] from fun p hp => by cases hp)
theorem lnqueueR1 : ∀ ρ, Known TTqueueR tqueueR1 ρ → invqueueR 1 ρ.lt → Holds ρ (leanOf (Cfg.pc tqueueR1)) := by
  intro ρ _ _
  exact (show Holds ρ [] from fun p hp => by cases hp)
theorem told_queueR : Sx.Told wt.Φ cQueueR := by
  refine told_of (cs := [cMayR, cRFin, cRFout]) (all_cons told_mayR (all_cons told_rfin (all_cons told_rfout (all_nil)))) (sel := selqueueR) 3000 tmqueueR invqueueR msqueueR vwqueueR 0 (pc0 := (.lit true :: cQueueR.pre)) (by kernel_rfl) (by kernel_rfl) (by kernel_rfl) (post_nil rfl) ?_ ?_ ?_ rfl (fun ρ _ h => h.cons (p := .lit true) (by simp only [BE.den])) (fun _ _ _ _ => trivial) ?_
  · intro k C h
    have := lk_mem h
    simp only [tmqueueR, List.mem_cons, Prod.mk.injEq, List.not_mem_nil, or_false] at this
    rcases this with ⟨rfl, rfl⟩ | ⟨rfl, rfl⟩
    · exact okqueueR0
    · exact okqueueR1
  · intro k C h
    have := lk_mem h
    simp only [tmqueueR, List.mem_cons, Prod.mk.injEq, List.not_mem_nil, or_false] at this
    rcases this with ⟨rfl, rfl⟩ | ⟨rfl, rfl⟩
    · exact sgqueueR0
    · exact sgqueueR1
  · intro k C h
    have := lk_mem h
    simp only [tmqueueR, List.mem_cons, Prod.mk.injEq, List.not_mem_nil, or_false] at this
    rcases this with ⟨rfl, rfl⟩ | ⟨rfl, rfl⟩
    · exact vcsqueueR0
    · exact vcsqueueR1
  · intro k C h
    have := lk_mem h
    simp only [tmqueueR, List.mem_cons, Prod.mk.injEq, List.not_mem_nil, or_false] at this
    rcases this with ⟨rfl, rfl⟩ | ⟨rfl, rfl⟩
    · exact lnqueueR0
    · exact lnqueueR1
noncomputable section
abbrev TTsame : Tab := T wt.Φ cSame.roms []
def tsame1 : Cfg := { top := ⟨22, over (opqS 10000 26) [(0, (SV.rom 0 (IE.lit 0) (IE.len (LE.rom 0)) none)), (1, (SV.rom 1 (IE.lit 0) (IE.len (LE.rom 1)) none)), (5, (SV.int .i64 (IE.var .i64 1000)))], ogt (loopTodo (bodyOf (T wt.Φ [] []) 22) 0), [], false, none⟩, rest := [], heap := [], next := 1, pc := .lit true :: ([] ++ [(BE.eq (IE.len (LE.rom 0)) (IE.len (LE.rom 1))), (BE.le (IE.lit 0) (IE.var .i64 1000)), (BE.le (IE.var .i64 1000) (IE.len (LE.rom 0))), (BE.le (IE.var .i64 1000) (IE.len (LE.rom 1)))]) }
def tmsame : List (Nat × Cfg) := [(0, startF 22 cSame.pat [.lit true]), (1, tsame1)]
def selsame : Sel := [(22, 1, 0, 1)]
def pcsame0_0 : List BE := [(BE.lit true)]
def wsame0_0 : VW := (VW.cut 1 ((BE.eq (IE.len (LE.rom 0)) (IE.len (LE.rom 1))) :: pcsame0_0) (Sx.Sub.mk [(.i64, (1000, (IE.lit 0)))] [] [] [] [] []))
def wsame0_1 : VW := (VW.done ((BE.not (BE.eq (IE.len (LE.rom 0)) (IE.len (LE.rom 1)))) :: pcsame0_0) (some [(G.b (BE.leq (LE.rom 0) (LE.rom 1)) (BE.lit false))]))
def vwsame0 : List VW := [wsame0_0, wsame0_1]
def pcsame1_0 : List BE := [(BE.lit true), (BE.eq (IE.len (LE.rom 0)) (IE.len (LE.rom 1))), (BE.le (IE.lit 0) (IE.var .i64 1000)), (BE.le (IE.var .i64 1000) (IE.len (LE.rom 0))), (BE.le (IE.var .i64 1000) (IE.len (LE.rom 1)))]
def pcsame1_1 : List BE := ((BE.not (BE.le (IE.len (LE.rom 0)) (IE.var .i64 1000))) :: pcsame1_0)
def pcsame1_2 : List BE := ((BE.eq (IE.cel .i64 (LE.rom 0) (IE.var .i64 1000) 0) (IE.cel .i64 (LE.rom 1) (IE.var .i64 1000) 0)) :: pcsame1_1)
def pcsame1_3 : List BE := ((BE.eq (IE.cel .i64 (LE.rom 0) (IE.var .i64 1000) 1) (IE.cel .i64 (LE.rom 1) (IE.var .i64 1000) 1)) :: pcsame1_2)
def pcsame1_4 : List BE := ((BE.eq (IE.cel .i64 (LE.rom 0) (IE.var .i64 1000) 2) (IE.cel .i64 (LE.rom 1) (IE.var .i64 1000) 2)) :: pcsame1_3)
def pcsame1_5 : List BE := ((BE.eq (IE.cel .i64 (LE.rom 0) (IE.var .i64 1000) 3) (IE.cel .i64 (LE.rom 1) (IE.var .i64 1000) 3)) :: pcsame1_4)
def wsame1_0 : VW := (VW.done ((BE.le (IE.len (LE.rom 0)) (IE.var .i64 1000)) :: pcsame1_0) (some [(G.b (BE.leq (LE.rom 0) (LE.rom 1)) (BE.lit true))]))
def wsame1_1 : VW := (VW.cut 1 ((BE.eq (IE.cel .i64 (LE.rom 0) (IE.var .i64 1000) 4) (IE.cel .i64 (LE.rom 1) (IE.var .i64 1000) 4)) :: pcsame1_5) (Sx.Sub.mk [(.i64, (1000, (IE.add (IE.var .i64 1000) (IE.lit 1))))] [] [] [] [] []))
def wsame1_2 : VW := (VW.done ((BE.not (BE.eq (IE.cel .i64 (LE.rom 0) (IE.var .i64 1000) 4) (IE.cel .i64 (LE.rom 1) (IE.var .i64 1000) 4))) :: pcsame1_5) (some [(G.b (BE.leq (LE.rom 0) (LE.rom 1)) (BE.lit false))]))
def wsame1_3 : VW := (VW.done ((BE.not (BE.eq (IE.cel .i64 (LE.rom 0) (IE.var .i64 1000) 3) (IE.cel .i64 (LE.rom 1) (IE.var .i64 1000) 3))) :: pcsame1_4) (some [(G.b (BE.leq (LE.rom 0) (LE.rom 1)) (BE.lit false))]))
def wsame1_4 : VW := (VW.done ((BE.not (BE.eq (IE.cel .i64 (LE.rom 0) (IE.var .i64 1000) 2) (IE.cel .i64 (LE.rom 1) (IE.var .i64 1000) 2))) :: pcsame1_3) (some [(G.b (BE.leq (LE.rom 0) (LE.rom 1)) (BE.lit false))]))
def wsame1_5 : VW := (VW.done ((BE.not (BE.eq (IE.cel .i64 (LE.rom 0) (IE.var .i64 1000) 1) (IE.cel .i64 (LE.rom 1) (IE.var .i64 1000) 1))) :: pcsame1_2) (some [(G.b (BE.leq (LE.rom 0) (LE.rom 1)) (BE.lit false))]))
def wsame1_6 : VW := (VW.done ((BE.not (BE.eq (IE.cel .i64 (LE.rom 0) (IE.var .i64 1000) 0) (IE.cel .i64 (LE.rom 1) (IE.var .i64 1000) 0))) :: pcsame1_1) (some [(G.b (BE.leq (LE.rom 0) (LE.rom 1)) (BE.lit false))]))
def vwsame1 : List VW := [wsame1_0, wsame1_1, wsame1_2, wsame1_3, wsame1_4, wsame1_5, wsame1_6]
def vwsame : Nat → List VW
  | 0 => vwsame0
  | 1 => vwsame1
  | _ => []
end
def invsame : Nat → Lt → Prop
  | 1, l => (l.z.rl 0).take (l.i .i64 1000).toNat = (l.z.rl 1).take (l.i .i64 1000).toNat
  | _, _ => True
def mssame : Nat → Lt → Nat
  | 0, l => (l.z.rl 0).length + 1
  | 1, l => (l.z.rl 0).length - (l.i .i64 1000).toNat
  | _, _ => 0
theorem vcsame0_0 : VC TTsame invsame mssame 0 (startF 22 cSame.pat [.lit true]) wsame0_0 := by
  intro ρ kn hi hp
  have hF : ρ.z.F = wt.Φ := kn.F
  simp only [h_nil, h_cons, d_le, d_eq, d_not, d_var, d_lit, d_cel, d_leq, d_fn, d_and, d_iff, IE.den, LE.den, AL.den, lenV, true_and, and_true, pcsame0_0, hF, pi2, pi5, pi6, pi7, pb1, pb2, pb4, pl4, pl6, pl8] at hp
  have p1 := hp
  refine (show ((ρ.z.rl 0).take (0 : Int).toNat = (ρ.z.rl 1).take (0 : Int).toNat) ∧ (((ρ.z.rl 0).length - (0 : Int).toNat : Nat) < (ρ.z.rl 0).length + 1) from ?_)
  exact ⟨rfl, by omega⟩
theorem vcsame0_1 : VC TTsame invsame mssame 0 (startF 22 cSame.pat [.lit true]) wsame0_1 := by
  intro ρ kn hi hp
  have hF : ρ.z.F = wt.Φ := kn.F
  simp only [h_nil, h_cons, d_le, d_eq, d_not, d_var, d_lit, d_cel, d_leq, d_fn, d_and, d_iff, IE.den, LE.den, AL.den, lenV, true_and, and_true, pcsame0_0, hF, pi2, pi5, pi6, pi7, pb1, pb2, pb4, pl4, pl6, pl8] at hp
  have p1 := hp
  refine all_cons (show (eqV (ρ.z.rl 0) (ρ.z.rl 1)) = false from ?_) (all_nil)
  all_goals try simp only [hF, pi2, pi5, pi6, pi7, pb1, pb2, pb4, pl4, pl6, pl8]
  exact eqV_f fun hh => p1 (by rw [hh])
def ivsame1 (ρ : Rho) : Prop := (ρ.z.rl 0).take (ρ.i .i64 1000).toNat = (ρ.z.rl 1).take (ρ.i .i64 1000).toNat
theorem vcgsame1_1 : VC TTsame invsame mssame 1 tsame1 wsame1_2 ∧ VC TTsame invsame mssame 1 tsame1 wsame1_3 ∧ VC TTsame invsame mssame 1 tsame1 wsame1_4 ∧ VC TTsame invsame mssame 1 tsame1 wsame1_5 ∧ VC TTsame invsame mssame 1 tsame1 wsame1_6 := by
  refine ⟨?_, ?_, ?_, ?_, ?_⟩
  all_goals
    intro ρ kn hi hp
    have hi : ivsame1 ρ := hi
    unfold ivsame1 at hi
    have hF : ρ.z.F = wt.Φ := kn.F
    simp only [h_nil, h_cons, d_le, d_eq, d_not, d_var, d_lit, d_cel, d_leq, d_fn, d_and, d_iff, IE.den, LE.den, AL.den, lenV, true_and, and_true, pcsame1_5, pcsame1_4, pcsame1_3, pcsame1_2, pcsame1_1, pcsame1_0, hF, pi2, pi5, pi6, pi7, pb1, pb2, pb4, pl4, pl6, pl8] at hp
    have p1 := And.left hp
    replace hp := And.right hp
    repeat (have _ := And.left hp; replace hp := And.right hp)
    refine all_cons (show (eqV (ρ.z.rl 0) (ρ.z.rl 1)) = false from ?_) (all_nil)
    all_goals try simp only [hF, pi2, pi5, pi6, pi7, pb1, pb2, pb4, pl4, pl6, pl8]
    exact eqV_f fun hh => p1 (by rw [hh])
theorem vcsame1_0 : VC TTsame invsame mssame 1 tsame1 wsame1_0 := by
  intro ρ kn hi hp
  have hi : ivsame1 ρ := hi
  unfold ivsame1 at hi
  have hF : ρ.z.F = wt.Φ := kn.F
  simp only [h_nil, h_cons, d_le, d_eq, d_not, d_var, d_lit, d_cel, d_leq, d_fn, d_and, d_iff, IE.den, LE.den, AL.den, lenV, true_and, and_true, pcsame1_0, hF, pi2, pi5, pi6, pi7, pb1, pb2, pb4, pl4, pl6, pl8] at hp
  obtain ⟨p1, p2, p3, p4, p5⟩ := hp
  refine all_cons (show (eqV (ρ.z.rl 0) (ρ.z.rl 1)) = true from ?_) (all_nil)
  all_goals try simp only [hF, pi2, pi5, pi6, pi7, pb1, pb2, pb4, pl4, pl6, pl8]
  exact eqV_t (same_end hi (by omega) (by omega))
theorem vcsame1_1 : VC TTsame invsame mssame 1 tsame1 wsame1_1 := by
  intro ρ kn hi hp
  have hi : ivsame1 ρ := hi
  unfold ivsame1 at hi
  have hF : ρ.z.F = wt.Φ := kn.F
  simp only [h_nil, h_cons, d_le, d_eq, d_not, d_var, d_lit, d_cel, d_leq, d_fn, d_and, d_iff, IE.den, LE.den, AL.den, lenV, true_and, and_true, pcsame1_5, pcsame1_4, pcsame1_3, pcsame1_2, pcsame1_1, pcsame1_0, hF, pi2, pi5, pi6, pi7, pb1, pb2, pb4, pl4, pl6, pl8] at hp
  obtain ⟨p1, p2, p3, p4, p5, p6, p7, p8, p9, p10⟩ := hp
  refine (show ((ρ.z.rl 0).take ((ρ.i .i64 1000) + (1 : Int)).toNat = (ρ.z.rl 1).take ((ρ.i .i64 1000) + (1 : Int)).toNat) ∧ (((ρ.z.rl 0).length - ((ρ.i .i64 1000) + (1 : Int)).toNat : Nat) < (ρ.z.rl 0).length - (ρ.i .i64 1000).toNat) from ?_)
  exact ⟨same_s (ks := ks5) rfl (kn.rom 0 _ _ rfl) (kn.rom 1 _ _ rfl) (by omega) (by omega) (by omega) hi ⟨by assumption, by assumption, by assumption, by assumption, by assumption, trivial⟩, by omega⟩
theorem vcssame0 : ∀ v ∈ vwsame 0, VC TTsame invsame mssame 0 (startF 22 cSame.pat [.lit true]) v := all_cons vcsame0_0 (all_cons vcsame0_1 (all_nil))
theorem oksame0 : cfgOk (startF 22 cSame.pat [.lit true]) = true := by kernel_rfl
theorem sgsame0 : segL cSame.roms cSame (seg TTsame selsame 600 tmsame (startF 22 cSame.pat [.lit true])) = (true, codesR tmsame (views (seg TTsame selsame 600 tmsame (startF 22 cSame.pat [.lit true]))), vwsame 0) := by kernel_rfl
theorem vcssame1 : ∀ v ∈ vwsame 1, VC TTsame invsame mssame 1 tsame1 v := all_cons vcsame1_0 (all_cons vcsame1_1 (all_cons vcgsame1_1.1 (all_cons vcgsame1_1.2.1 (all_cons vcgsame1_1.2.2.1 (all_cons vcgsame1_1.2.2.2.1 (all_cons vcgsame1_1.2.2.2.2 (all_nil)))))))
theorem oksame1 : cfgOk tsame1 = true := by kernel_rfl
theorem sgsame1 : segL cSame.roms cSame (seg TTsame selsame 600 tmsame tsame1) = (true, codesR tmsame (views (seg TTsame selsame 600 tmsame tsame1)), vwsame 1) := by kernel_rfl
theorem lnsame0 : ∀ ρ, Known TTsame (startF 22 cSame.pat [.lit true]) ρ → invsame 0 ρ.lt → Holds ρ (leanOf (Cfg.pc (startF 22 cSame.pat [.lit true]))) := by
  intro ρ _ _
  exact (show Holds ρ [] from fun p hp => by cases hp)
theorem lnsame1 : ∀ ρ, Known TTsame tsame1 ρ → invsame 1 ρ.lt → Holds ρ (leanOf (Cfg.pc tsame1)) := by
  intro ρ _ _
  exact (show Holds ρ [] from fun p hp => by cases hp)
theorem told_same : Sx.Told wt.Φ cSame := by
  refine told_of (cs := []) (all_nil) (sel := selsame) 600 tmsame invsame mssame vwsame 0 (pc0 := [.lit true]) (by kernel_rfl) (by kernel_rfl) (by kernel_rfl) (post_nil rfl) ?_ ?_ ?_ rfl (fun ρ _ _ => by simp [Holds, BE.den]) (fun _ _ _ _ => trivial) ?_
  · intro k C h
    have := lk_mem h
    simp only [tmsame, List.mem_cons, Prod.mk.injEq, List.not_mem_nil, or_false] at this
    rcases this with ⟨rfl, rfl⟩ | ⟨rfl, rfl⟩
    · exact oksame0
    · exact oksame1
  · intro k C h
    have := lk_mem h
    simp only [tmsame, List.mem_cons, Prod.mk.injEq, List.not_mem_nil, or_false] at this
    rcases this with ⟨rfl, rfl⟩ | ⟨rfl, rfl⟩
    · exact sgsame0
    · exact sgsame1
  · intro k C h
    have := lk_mem h
    simp only [tmsame, List.mem_cons, Prod.mk.injEq, List.not_mem_nil, or_false] at this
    rcases this with ⟨rfl, rfl⟩ | ⟨rfl, rfl⟩
    · exact vcssame0
    · exact vcssame1
  · intro k C h
    have := lk_mem h
    simp only [tmsame, List.mem_cons, Prod.mk.injEq, List.not_mem_nil, or_false] at this
    rcases this with ⟨rfl, rfl⟩ | ⟨rfl, rfl⟩
    · exact lnsame0
    · exact lnsame1
end Go.Proofs.YteblnjgghbclpaaDoor.wt
